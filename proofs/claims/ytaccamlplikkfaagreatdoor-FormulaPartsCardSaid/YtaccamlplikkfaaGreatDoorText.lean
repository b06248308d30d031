/- A formula as a text: contract of formula's Text. -/
import Derived.Test.YtaccamlplikkfaaGreatDoorErrB
import Derived.Test.YtaccamlplikkfaaGreatDoorFoLay
import Derived.Test.YtaccamlplikkfaaGreatDoorHolC
namespace Go.Proofs.YtaccamlplikkfaaGreatDoor
open Go.RowKit Go.Shelf
set_option linter.unusedVariables false
set_option linter.unusedSimpArgs false
set_option maxRecDepth 100000
attribute [local go_sem] cell_set_ite Near.cell Near.frozen

theorem join_is : ∀ (l : List (List UInt8)), Lib.join l [32] = joiS l
  | [] => rfl
  | [x] => Lib.join_one x _
  | x :: y :: r => by
    rw [Lib.join_cons]
    show x ++ ([32] ++ y ++ Lib.joinTail [32] r) = x ++ 32 :: joiS (y :: r)
    rw [← join_is (y :: r), Lib.join_cons]
    simp
def tlL (ts : Nat → Tm) (n : Nat) : List Tm := (List.range n).map ts
theorem tlL_succ (ts : Nat → Tm) (n : Nat) : tlL ts (n + 1) = tlL ts n ++ [ts n] := by simp [tlL, List.range_succ]
theorem tlL_len (ts : Nat → Tm) (n : Nat) : (tlL ts n).length = n := by simp [tlL]
def wdV (t : Tm) : Value := .string ⟨(wdL t).toArray⟩
/-- How long a word is at the most. -/
theorem nd_ten : ∀ k v, v < 10 ^ k → 0 < k → Lib.nDigits v ≤ k := by
  intro k
  induction k with
  | zero => intro v _ h; omega
  | succ k ih =>
    intro v hv _
    by_cases h9 : v < 10
    · rw [Lib.nDigits_small h9]; omega
    · rw [Lib.nDigits_big h9]
      rw [Nat.pow_succ] at hv
      rcases Nat.eq_zero_or_pos k with rfl | hk
      · simp at hv; omega
      · have := ih (v / 10) (by omega) hk
        omega
theorem itoa_ten (n : Int) (h0 : 0 ≤ n) (h1 : n ≤ 2147483647) : (Lib.itoa n).length ≤ 10 := by
  obtain ⟨u, rfl⟩ : ∃ u : Nat, n = (u : Int) := ⟨n.toNat, by omega⟩
  rw [Lib.itoa_nonneg, Lib.decDigits_eq, List.length_map, List.length_range]
  exact nd_ten 10 u (by omega) (by omega)
theorem wd_len (t : Tm) (h : myB t = true) : (wdL t).length ≤ 20 := by
  obtain ⟨op, a, b⟩ := t
  unfold myB at h
  simp only at h
  unfold wdL
  simp only
  split
  · decide
  split
  · decide
  split
  · decide
  split
  · decide
  split
  · rename_i h6
    subst h6
    simp at h
    rw [List.length_append]
    have := itoa_ten a h.1.1 (by omega)
    have : wOnce.length = 5 := rfl
    omega
  split
  · rename_i h7
    subst h7
    simp at h
    rw [List.length_append]
    have := itoa_ten a h.1.1 (by omega)
    have : wAlways.length = 7 := rfl
    omega
  split
  · rename_i h2
    subst h2
    simp only [if_true] at h
    unfold akB at h
    unfold atomL
    split
    · rename_i h11
      rw [if_pos h11] at h
      simp only [Bool.and_eq_true, decide_eq_true_eq] at h
      rw [List.length_append]
      have := itoa_ten b (by omega) (by omega)
      have : wHazard.length = 7 := rfl
      omega
    · rename_i h11
      rw [if_neg h11] at h
      simp only [Bool.and_eq_true, decide_eq_true_eq] at h
      rw [List.length_append, List.length_append]
      have := itoa_ten b h.1.2 h.2
      have : wLeast.length = 2 := rfl
      have : (askL.getD (a - 1).toNat []).length ≤ 8 := by
        rcases ask_cases a h.1.1.1 h.1.1.2 with rfl | rfl | rfl | rfl | rfl | rfl | rfl | rfl | rfl | rfl <;> decide
      omega
  · decide
theorem joi_len : ∀ (l : List (List UInt8)), (∀ x ∈ l, x.length ≤ 20) → (joiS l).length ≤ 21 * l.length
  | [], _ => by simp [joiS]
  | [x], h => by have := h x (by simp); simp [joiS]; omega
  | x :: y :: r, h => by
    have ih := joi_len (y :: r) (fun z hz => h z (by simp at hz ⊢; exact .inr hz))
    have := h x (by simp)
    show (x ++ 32 :: joiS (y :: r)).length ≤ _
    rw [List.length_append, List.length_cons]
    simp only [List.length_cons] at ih ⊢
    omega
theorem rt_all {ts : Nat → Tm} {n : Nat} (h : rtB ts n = true) : n ≤ 40 ∧ 0 < n ∧ ∀ i, i < n → myB (ts i) = true := by
  unfold rtB at h
  simp only [Bool.and_eq_true, decide_eq_true_eq] at h
  refine ⟨h.1, ?_, fun i hi => (hk_at ts hi h.2.1).1⟩
  rcases Nat.eq_zero_or_pos n with e | e
  · subst e; have := h.2.2; simp [rdN] at this
  · exact e
theorem words_info : (Tryz.prog.info? 9).map (fun i => (i.zero, i.size, i.bytes)) = some (some (.string ⟨#[]⟩), 1, 16) := by kernel_rfl
/-- The text of a formula; "" of what is none. -/
def txL (ts : Nat → Tm) (n : Nat) : List UInt8 := if rtB ts n = true then joiS ((tlL ts n).map wdL) else []
set_option maxHeartbeats 4000000 in
theorem fo_text (A : Option Addr) (n c : Nat) (ts : Nat → Tm) (w : World) (h : Terms w A n ts) (hc : n ≤ c) (g : Gl w) :
    Calls Tryz.prog 6 #[.slice A n c] w fun e w' => e = .returned (.tuple #[.string ⟨(txL ts n).toArray⟩, .bool (rtB ts n)]) ∧ Below w.heap.size w w' := by
  have KR := Lib.hid (fo_right A n c ts w h)
  unfold txL
  cases hr : rtB ts n with
  | false =>
    rw [hr] at KR
    show Calls _ _ _ _ (fun e w' => e = .returned (.tuple #[.string ⟨#[]⟩, .bool false]) ∧ _)
    go_enter Tryz.func6, Tryz.ntmps6
    go_wp2_with (go_at_call 8; refine KR.out.mono ?_; rintro e w1 ⟨rfl, hb1⟩)
    all_goals go_ret2
    all_goals exact ⟨rfl, hb1⟩
  | true =>
    rw [hr] at KR
    obtain ⟨n40, n0, hmy⟩ := rt_all hr
    obtain ⟨xs, hxs⟩ : ∃ xs : List ByteArray, (tlL ts n).map (fun t => (⟨(wdL t).toArray⟩ : ByteArray)) = xs := ⟨_, rfl⟩
    have hxl : xs.length = n := by rw [← hxs]; simp [tlL_len]
    have hxd : xs.map (·.data.toList) = (tlL ts n).map wdL := by rw [← hxs, List.map_map]; rfl
    have hjl : (joiS ((tlL ts n).map wdL)).length ≤ 21 * n := by
      have := joi_len ((tlL ts n).map wdL) (fun x hx => by
        obtain ⟨t, ht, rfl⟩ := List.mem_map.1 hx
        obtain ⟨i, hi, rfl⟩ := List.mem_map.1 ht
        exact wd_len _ (hmy i (List.mem_range.1 hi)))
      simpa [tlL_len] using this
    have HJ : Hid (∀ w1 bk c, bk < w1.heap.size → n ≤ c → (∀ j x, xs[j]? = some x → w1.cell? ⟨bk, 0 + j, none⟩ = some (.string x)) → Calls Tryz.prog 12 #[.slice (some ⟨bk, 0, none⟩) n c, .string ⟨#[32]⟩] w1 fun e w' => e = .returned (.string ⟨(joiS ((tlL ts n).map wdL)).toArray⟩) ∧ Below w1.heap.size w1 w') := Lib.hid fun w1 bk c hb hc hcell => by
      have := Any.strings_Join fol156 fol156X bk 0 c xs ⟨#[32]⟩ w1 hcell hb (by omega) (by omega) (by rw [hxd, join_is]; omega)
      rw [hxl, hxd] at this
      rw [← join_is]
      exact this
    have HX := Lib.hid hxs
    rw [if_pos rfl]
    generalize (⟨(joiS ((tlL ts n).map wdL)).toArray⟩ : ByteArray) = tx at *
    clear hjl hxd hxs
    have HI := Lib.hid h
    have HM := Lib.hid hmy
    have HW := Lib.hid fun (t : Tm) (ht : myB t = true) w' (hb : Below w.heap.size w w') => fo_word t ht w' (g.below hb)
    clear h hmy hr
    go_enter Tryz.func6, Tryz.ntmps6
    go_wp2_with (go_at_call 8; refine KR.out.mono ?_; rintro e w1 ⟨rfl, hb1⟩)
    go_loopw [4, 12] (fun l i wr => ∃ k : Nat, k ≤ n ∧ i = .int .i64 k ∧ GrV 9 w ((tlL ts k).map wdV) l wr) (fun _ i _ => n - (intOf i).toNat)
    case atStart => exact ⟨0, Nat.zero_le _, rfl, GrV.nil_at _ hb1⟩
    case round =>
      obtain ⟨k, hk, rfl, hg⟩ := hrel
      have A1 := hg.bel
      have hvl : ((tlL ts k).map wdV).length = k := by simp [tlL_len]
      by_cases hlt : k < n
      · obtain ⟨b, off, rfl, hb, hcell⟩ := HI.out.2 n0
        obtain ⟨e1, e2, e3⟩ := hcell k hlt
        have c0 := (A1.cell (p := ⟨b, off + k * 3, none⟩) hb).trans e1
        have c1 := (A1.cell (p := ⟨b, off + k * 3 + 1, none⟩) hb).trans e2
        have c2 := (A1.cell (p := ⟨b, off + k * 3 + 2, none⟩) hb).trans e3
        have hm := HM.out k hlt
        have KW : Hid (∀ w', Below w.heap.size w w' → Calls Tryz.prog 11 #[.agg #[.int .i64 (ts k).op, .int .i64 (ts k).a, .int .i64 (ts k).b]] w' fun e w'' => e = .returned (wdV (ts k)) ∧ Below w'.heap.size w' w'') := Lib.hid fun w' h => HW.out (ts k) hm w' h
        have HV := Lib.hid hvl
        have HG := Lib.hid hg
        have HS := Lib.hid (tlL_succ ts k)
        obtain ⟨tw, htw⟩ : ∃ tw : ByteArray, wdV (ts k) = .string tw := ⟨_, rfl⟩
        have HT := Lib.hid htw
        rw [htw] at KW
        clear hg hvl hcell e1 e2 e3 hm htw
        generalize hvs : (tlL ts k).map wdV = vs at *
        have HVS := Lib.hid hvs
        clear hvs
        generalize (ts k).op = op at *
        generalize (ts k).a = a at *
        generalize (ts k).b = bb at *
        go_wp2_with (fail)
        refine (KW.out _ (by (repeat (first | (with_reducible exact Below.refl _ _) | (with_reducible assumption) | (with_reducible refine Near.up _ ?_) | (with_reducible refine Below.drew ?_) | (with_reducible refine below_alloc_on ?_ _) | (with_reducible refine below_set_on ?_ (by first | (simp; done) | (simp; omega) | omega) _))))).mono ?_
        rintro e w2 ⟨rfl, hb2⟩
        have G2 := Lib.hid ((HG.out.below (below_alloc_on (Below.refl wr.heap.size wr) (.cells #[.int .i64 op, .int .i64 a, .int .i64 bb] 35))).below hb2)
        have sz2 := G2.out.bel.size
        have hv40 : vs.length ≤ 40 := by rw [HV.out]; omega
        clear hb2 HG
        go_wp2_with (at_builtin; refine app_val_at rfl _ _ 36 9 _ _ rfl Tryz.underlying36 words_info rfl (.string tw) rfl rfl rfl G2.out.own sz2 (by omega) (by omega) ?_)
        intro v' w3 h1 h2 h3
        have G3 := Lib.hid (G2.out.next h1 h2)
        clear h1 h2 h3 G2
        go_wp2_with (fail)
        go_roundw
        case rel => exact ⟨k + 1, by omega, by go_num, by rw [HS.out, List.map_append, List.map_cons, List.map_nil, HT.out, HVS.out]; exact G3.out⟩
        case measure => simp [intOf]; omega
      · obtain rfl : k = n := by omega
        have ho := hg.own
        rw [hvl] at ho
        obtain ⟨bk, d, rfl⟩ : ∃ bk d, u4 = .slice (some ⟨bk, 0, none⟩) k d := by
          rcases ho.2 with ⟨_, e⟩ | ⟨g2, cap, cur, e, _⟩
          · omega
          · exact ⟨g2, cap, e⟩
        obtain ⟨_, d2, ed, hd⟩ := hg.form
        rw [hvl] at ed hd
        have hd : k ≤ d := by injection ed with _ _ e3; omega
        have hlt2 : bk < wr.heap.size := by
          rcases ho.2 with ⟨e, _⟩ | ⟨g2, cap, cur, e, _, hgg, _⟩
          · cases e
          · cases e; exact (Array.getElem?_eq_some_iff.1 hgg).1
        have K := Lib.hid (HJ.out wr bk d hlt2 hd (fun j x hj => by
          have hjn : j < k := by rw [← hxl]; exact (List.getElem?_eq_some_iff.1 hj).1
          have := ho.cellAt j (by omega)
          rw [Nat.zero_add, this]
          rw [← HX.out, List.getElem?_map] at hj
          rw [List.getElem?_map]
          obtain ⟨t, ht, rfl⟩ := Option.map_eq_some_iff.1 hj
          rw [ht]; rfl))
        clear ho hg hvl
        go_wp2_with (go_at_call 12; refine K.out.mono ?_; rintro e w2 ⟨rfl, hb2⟩)
        all_goals go_ret2
        all_goals exact ⟨rfl, below_call A1 hb2⟩
end Go.Proofs.YtaccamlplikkfaaGreatDoor
