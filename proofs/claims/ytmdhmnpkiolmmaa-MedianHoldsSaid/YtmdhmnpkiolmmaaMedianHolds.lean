/- MedianHolds holds of every five numbers, any two of them wild, and whatever stood ahead: the middle one lies among the other three. No condition. -/
import Derived.Test.YtmdhmnpkiolmmaaLaw8
import Derived.Test.YtmdhmnpkiolmmaaArr
import Derived.Test.YtmdhmnpkiolmmaaGrown
import Derived.WalkLawsBesides
namespace Go.Proofs.Ytmdhmnpkiolmmaa.medianHolds
open Go.ChangeShapes Go.WideShapes Go.ChangeAt Go.RowKit
set_option linter.unusedVariables false

theorem last_behind (ah L : List Int) (h : L.length = 5) : lastL (ah ++ L) 5 = L := by
  unfold lastL
  rw [five_cnt, List.length_append, h, show ah.length + 5 - min (ah.length + 5) 5 = ah.length by omega, List.drop_left]
theorem mid_behind (ah L : List Int) (h : L.length = 5) : midV (ah ++ L) = midV L := by
  have e : fiveL (ah ++ L) = fiveL L := by
    unfold fiveL
    rw [last_behind ah L h, ← List.nil_append L, last_behind [] L h]
    rfl
  unfold midV
  rw [e, List.length_append, h, if_neg (by omega), if_neg (by omega), show min (ah.length + 5) 5 = 5 by omega]
  rfl
/-- Of five numbers two may be left out: of the others one at least is not above the middle one, and one not below. -/
theorem among (x0 x1 x2 x3 x4 : Int) (i k : Int) :
    (∃ j : Nat, j < 5 ∧ (j : Int) ≠ i ∧ (j : Int) ≠ k ∧ [x0, x1, x2, x3, x4].getD j 0 ≤ midV [x0, x1, x2, x3, x4]) ∧ (∃ j : Nat, j < 5 ∧ (j : Int) ≠ i ∧ (j : Int) ≠ k ∧ midV [x0, x1, x2, x3, x4] ≤ [x0, x1, x2, x3, x4].getD j 0) := by
  have hf : fiveL [x0, x1, x2, x3, x4] = sortL [x0, x1, x2, x3, x4] := by
    unfold fiveL; rw [show (5 : Int) = (([x0, x1, x2, x3, x4].length : Nat) : Int) from rfl, last_all]
  have hm : midV [x0, x1, x2, x3, x4] = (sortL [x0, x1, x2, x3, x4]).getD 2 0 := by unfold midV; rw [hf, if_neg (by simp), show (min [x0, x1, x2, x3, x4].length 5 - 1) / 2 = 2 by simp]
  have hp := sortL_perm [x0, x1, x2, x3, x4]
  have hu := sortL_up [x0, x1, x2, x3, x4]
  have hl := sortL_len [x0, x1, x2, x3, x4]
  rw [hm]
  generalize sortL [x0, x1, x2, x3, x4] = S at *
  match S, hl with
  | [y0, y1, y2, y3, y4], _ =>
    have u1 := up_le hu (i := 0) (j := 1) (by omega) (by simp)
    have u2 := up_le hu (i := 1) (j := 2) (by omega) (by simp)
    have u3 := up_le hu (i := 2) (j := 3) (by omega) (by simp)
    have u4 := up_le hu (i := 3) (j := 4) (by omega) (by simp)
    simp only [List.getD_cons_zero, List.getD_cons_succ] at u1 u2 u3 u4 ⊢
    have c1 := hp.countP_eq (fun x => decide (x ≤ y2))
    have c2 := hp.countP_eq (fun x => decide (y2 ≤ x))
    simp only [List.countP_cons, List.countP_nil, decide_eq_true_eq] at c1 c2
    clear hp hu hm hf
    rw [if_pos (show y2 ≤ y2 by omega), if_pos (show y0 ≤ y2 by omega), if_pos (show y1 ≤ y2 by omega)] at c1
    rw [if_pos (show y2 ≤ y2 by omega), if_pos (show y2 ≤ y3 by omega), if_pos (show y2 ≤ y4 by omega)] at c2
    constructor
    · by_cases h : ∃ j : Nat, j < 5 ∧ (j : Int) ≠ i ∧ (j : Int) ≠ k ∧ [x0, x1, x2, x3, x4].getD j 0 ≤ y2
      · exact h
      · exfalso
        have g : ∀ j : Nat, j < 5 → (j : Int) ≠ i → (j : Int) ≠ k → y2 < [x0, x1, x2, x3, x4].getD j 0 := fun j h1 h2 h3 => by
          rcases Int.lt_or_le y2 ([x0, x1, x2, x3, x4].getD j 0) with h4 | h4
          · exact h4
          · exact absurd ⟨j, h1, h2, h3, h4⟩ h
        have g0 := g 0 (by omega)
        have g1 := g 1 (by omega)
        have g2 := g 2 (by omega)
        have g3 := g 3 (by omega)
        have g4 := g 4 (by omega)
        simp only [List.getD_cons_zero, List.getD_cons_succ] at g0 g1 g2 g3 g4
        clear g h c2
        by_cases a0 : x0 ≤ y2 <;> by_cases a1 : x1 ≤ y2 <;> by_cases a2 : x2 ≤ y2 <;> by_cases a3 : x3 ≤ y2 <;> by_cases a4 : x4 ≤ y2 <;> simp only [a0, a1, a2, a3, a4, if_true, if_false] at c1 <;> omega
    · by_cases h : ∃ j : Nat, j < 5 ∧ (j : Int) ≠ i ∧ (j : Int) ≠ k ∧ y2 ≤ [x0, x1, x2, x3, x4].getD j 0
      · exact h
      · exfalso
        have g : ∀ j : Nat, j < 5 → (j : Int) ≠ i → (j : Int) ≠ k → [x0, x1, x2, x3, x4].getD j 0 < y2 := fun j h1 h2 h3 => by
          rcases Int.lt_or_le ([x0, x1, x2, x3, x4].getD j 0) y2 with h4 | h4
          · exact h4
          · exact absurd ⟨j, h1, h2, h3, h4⟩ h
        have g0 := g 0 (by omega)
        have g1 := g 1 (by omega)
        have g2 := g 2 (by omega)
        have g3 := g 3 (by omega)
        have g4 := g 4 (by omega)
        simp only [List.getD_cons_zero, List.getD_cons_succ] at g0 g1 g2 g3 g4
        clear g h c1
        by_cases a0 : y2 ≤ x0 <;> by_cases a1 : y2 ≤ x1 <;> by_cases a2 : y2 ≤ x2 <;> by_cases a3 : y2 ≤ x3 <;> by_cases a4 : y2 ≤ x4 <;> simp only [a0, a1, a2, a3, a4, if_true, if_false] at c2 <;> omega

/-- What is known of the least and the greatest one of those that are not left out. -/
def Seen (L : List Int) (i k : Int) (j : Nat) (lo hi : Int) (any : Bool) : Prop := ∀ q : Nat, q < j → (q : Int) ≠ i → (q : Int) ≠ k → any = true ∧ lo ≤ L.getD q 0 ∧ L.getD q 0 ≤ hi
theorem Seen.skip {L : List Int} {i k lo hi : Int} {j : Nat} {any : Bool} (h : Seen L i k j lo hi any) (e : (j : Int) = i ∨ (j : Int) = k) : Seen L i k (j + 1) lo hi any := fun q hq h1 h2 => by
  by_cases g : q = j
  · subst g; rcases e with e | e
    · exact absurd e h1
    · exact absurd e h2
  · exact h q (by omega) h1 h2
theorem Seen.first {L : List Int} {i k lo hi : Int} {j : Nat} (h : Seen L i k j lo hi false) : Seen L i k (j + 1) (L.getD j 0) (L.getD j 0) true := fun q hq h1 h2 => by
  by_cases g : q = j
  · subst g; exact ⟨rfl, Int.le_refl _, Int.le_refl _⟩
  · exact absurd (h q (by omega) h1 h2).1 (by decide)
theorem Seen.next {L : List Int} {i k lo hi lo' hi' : Int} {j : Nat} (h : Seen L i k j lo hi true) (a : lo' ≤ lo) (b : hi ≤ hi') (c : lo' ≤ L.getD j 0) (d : L.getD j 0 ≤ hi') : Seen L i k (j + 1) lo' hi' true := fun q hq h1 h2 => by
  by_cases g : q = j
  · subst g; exact ⟨rfl, c, d⟩
  · have := h q (by omega) h1 h2; exact ⟨rfl, by omega, by omega⟩

set_option maxRecDepth 100000 in
set_option maxHeartbeats 2000000 in
theorem walk (w : World) (x0 : Int) (_ : (Lit.int .i64 x0).wf = true) (x1 : Int) (_ : (Lit.int .i64 x1).wf = true) (x2 : Int) (_ : (Lit.int .i64 x2).wf = true) (x3 : Int) (_ : (Lit.int .i64 x3).wf = true) (x4 : Int) (_ : (Lit.int .i64 x4).wf = true)
    (p : Int) (wp : (Lit.int .i64 p).wf = true) (q : Int) (wq : (Lit.int .i64 q).wf = true) (A : Option Addr) (n c : Nat) (ah : List Int) (hi : Ints w A n ah) (hc : n ≤ c) (hr : n * 8 ≤ 140737488351232) (wx : ∀ x ∈ ah, (Lit.int .i64 x).wf = true) :
    Calls Try.prog 5 #[.agg #[.int .i64 x0, .int .i64 x1, .int .i64 x2, .int .i64 x3, .int .i64 x4], .agg #[.int .i64 p, .int .i64 q], .slice A n c] w fun e w' => e = .returned (.bool true) ∧ Below w.heap.size w w' := by
  clear wx wp wq
  obtain ⟨w1, hw1⟩ : ∃ w1, w.alloc (.cells #[.int .i64 x0, .int .i64 x1, .int .i64 x2, .int .i64 x3, .int .i64 x4] 29) = w1 := ⟨_, rfl⟩
  have A1 : At w w1 := hw1 ▸ (Below.refl _ _).alloc (Nat.le_refl _) _
  have hz1 : w1.heap.size = w.heap.size + 1 := by rw [← hw1]; simp
  obtain ⟨w2, hw2⟩ : ∃ w2, w1.alloc (.cells #[.int .i64 p, .int .i64 q] 30) = w2 := ⟨_, rfl⟩
  have A2 : At w1 w2 := hw2 ▸ (Below.refl _ _).alloc (Nat.le_refl _) _
  by_cases hn : 50 < n
  · clear hi
    have hA := A1.trans A2
    go_enter Try.func5, Try.ntmps5
    go_wp2_with (go_at_call 7; refine (law8_awake w _ hA).mono ?_; rintro e w' ⟨rfl, hb⟩)
    all_goals go_ret
    all_goals exact ⟨rfl, by assumption⟩
  · have iL1 : Ints w1 (some ⟨w.heap.size, 0, none⟩) 5 [x0, x1, x2, x3, x4] := ⟨rfl, fun _ => ⟨_, _, rfl, by omega, fun i hi => by
      rw [← hw1, World.cell?_alloc_at _ _ _ _ (by simp)]
      match i, hi with
      | 0, _ => rfl
      | 1, _ => rfl
      | 2, _ => rfl
      | 3, _ => rfl
      | 4, _ => rfl⟩⟩
    have iL := Lib.hid (iL1.below A2)
    have iA := Lib.hid ((hi.below A1).below A2)
    have D0 : w2.cell? ⟨w.heap.size + 1, 0, none⟩ = some (.int .i64 p) := by rw [← hw2, World.cell?_alloc_at _ _ _ _ hz1.symm]; rfl
    have D1 : w2.cell? ⟨w.heap.size + 1, 1, none⟩ = some (.int .i64 q) := by rw [← hw2, World.cell?_alloc_at _ _ _ _ hz1.symm]; rfl
    have HA2 := Lib.hid (A1.trans A2)
    have hlt2 : w.heap.size < w2.heap.size := by rw [← hw2]; simp; omega
    have hcL := Lib.hid (fun (j : Nat) (hj : j < 5) => show w2.cell? ⟨w.heap.size, j, none⟩ = some (.int .i64 ([x0, x1, x2, x3, x4].getD j 0)) from by
      obtain ⟨b, off, e, _, h⟩ := iL.out.at_ hj
      injection e with e
      injection e with e1 e2
      subst e1; subst e2
      rw [Nat.zero_add] at h
      exact h)
    obtain ⟨i, hI⟩ : ∃ i, min (max p 0) 4 = i := ⟨_, rfl⟩
    obtain ⟨k, hK⟩ : ∃ k, min (max q 0) 4 = k := ⟨_, rfl⟩
    have hmid := Lib.hid (among x0 x1 x2 x3 x4 i k)
    have hmb := Lib.hid (mid_behind ah [x0, x1, x2, x3, x4] rfl)
    have hla : ah.length = n := iA.out.1
    have HLA := Lib.hid hla
    obtain ⟨L, hL⟩ : ∃ L, [x0, x1, x2, x3, x4] = L := ⟨_, rfl⟩
    have hL5 : L.length = 5 := by rw [← hL]; rfl
    rw [hL] at hcL hmid hmb iL
    have HL5 := Lib.hid hL5
    clear hi iL1 A1 A2 hL hla hL5
    go_enter Try.func5, Try.ntmps5
    go_wp2_with (at_builtin; refine app_ints rfl _ _ rfl rfl rfl iA.out (World.ownsRow_nil _ w2.heap.size _ _) (Nat.le_refl _) (by omega) ?_)
    intro v1 w3 ho1 hg1
    have G0 : Grown w2 ah v1 w3 := ⟨by rw [HLA.out]; exact own_form ho1, by rw [HLA.out]; exact ho1, (Below.refl _ _).grown hg1 (Nat.le_refl _) (fun k hk => by cases hk)⟩
    have HG0 := Lib.hid G0
    clear ho1 hg1 G0 D0 D1 hI hK hw1 hw2
    go_wp2
    go_loopw [9, 10, 11, 12, 33] (fun lo hi any v c wr => ∃ (j : Nat) (l h : Int) (b : Bool), j ≤ 5 ∧ c = .int .i64 j ∧ lo = .int .i64 l ∧ hi = .int .i64 h ∧ any = .bool b ∧ Seen L i k j l h b ∧ Grown w2 (ah ++ L.take j) v wr) (fun _ _ _ _ c _ => 5 - (intOf c).toNat)
    case atStart => exact ⟨0, 0, 0, false, by omega, rfl, rfl, rfl, rfl, fun q hq => absurd hq (by omega), by rw [List.take_zero, List.append_nil]; exact HG0.out⟩
    case round =>
      obtain ⟨j, l, h, bb, hj, rfl, rfl, rfl, rfl, hseen, hso⟩ := hrel
      have HSeen := Lib.hid hseen
      clear hseen
      by_cases hlt : j < 5
      · have hck := (hso.2.2.cell (p := ⟨w.heap.size, j, none⟩) hlt2).trans (hcL.out j hlt)
        have hst : ah ++ L.take (j + 1) = (ah ++ L.take j) ++ [L.getD j 0] := by
          rw [List.take_succ_eq_append_getElem (by rw [HL5.out]; exact hlt), List.append_assoc]
          simp [List.getD, List.getElem?_eq_getElem (show j < L.length by rw [HL5.out]; exact hlt)]
        have hln : (ah ++ L.take j).length ≤ 55 := by rw [List.length_append, List.length_take, HLA.out]; omega
        have KC := Lib.hid (hcL.out j hlt)
        obtain ⟨x, hx⟩ : ∃ x, L.getD j 0 = x := ⟨_, rfl⟩
        rw [hx] at hck hst KC
        have KX := Lib.hid hx
        have KT := Lib.hid hst
        clear hx hst
        generalize ah ++ L.take j = ys at *
        have hsz := hso.2.2.size
        obtain ⟨B, d, rfl, hd, _⟩ := hso.form
        have HS := Lib.hid hso
        have HO := Lib.hid hso.2.1
        clear hso
        by_cases t1 : (j : Int) = i
        · have s1 : ((j : Int) == i) = true := by simpa using t1
          have HT1 := Lib.hid t1
          clear t1
          go_wp2_with (at_builtin; refine app_int rfl _ _ rfl x rfl rfl HO.out hsz (by omega) ?_)
          intro v' w4 ho hg
          have hnext := Lib.hid (HS.out.next ho hg)
          have hck4 := (hnext.out.2.2.cell (p := ⟨w.heap.size, j, none⟩) hlt2).trans KC.out
          clear ho hg hck
          go_wp2
          go_roundw
          case rel => exact ⟨j + 1, _, _, _, by omega, by go_num, rfl, rfl, rfl, HSeen.out.skip (.inl HT1.out), by rw [KT.out]; exact hnext.out⟩
          case measure => simp [intOf]; omega
        by_cases t2 : (j : Int) = k
        · have s1 : ((j : Int) == i) = false := by simpa using t1
          have s2 : ((j : Int) == k) = true := by simpa using t2
          have HT2 := Lib.hid t2
          clear t1 t2
          go_wp2_with (at_builtin; refine app_int rfl _ _ rfl x rfl rfl HO.out hsz (by omega) ?_)
          intro v' w4 ho hg
          have hnext := Lib.hid (HS.out.next ho hg)
          have hck4 := (hnext.out.2.2.cell (p := ⟨w.heap.size, j, none⟩) hlt2).trans KC.out
          clear ho hg hck
          go_wp2
          go_roundw
          case rel => exact ⟨j + 1, _, _, _, by omega, by go_num, rfl, rfl, rfl, HSeen.out.skip (.inr HT2.out), by rw [KT.out]; exact hnext.out⟩
          case measure => simp [intOf]; omega
        have s1 : ((j : Int) == i) = false := by simpa using t1
        have s2 : ((j : Int) == k) = false := by simpa using t2
        clear t1 t2
        cases bb
        · have hs2 := HSeen.out.first
          rw [KX.out] at hs2
          have HS2 := Lib.hid hs2
          clear hs2
          go_wp2_with (at_builtin; refine app_int rfl _ _ rfl x rfl rfl HO.out hsz (by omega) ?_)
          intro v' w4 ho hg
          have hnext := Lib.hid (HS.out.next ho hg)
          have hck4 := (hnext.out.2.2.cell (p := ⟨w.heap.size, j, none⟩) hlt2).trans KC.out
          clear ho hg hck
          go_wp2
          go_roundw
          case rel => exact ⟨j + 1, _, _, _, by omega, by go_num, rfl, rfl, rfl, HS2.out, by rw [KT.out]; exact hnext.out⟩
          case measure => simp [intOf]; omega
        rcases (show (x < l ∧ decide (x < l) = true) ∨ (l ≤ x ∧ decide (x < l) = false) by simp; omega) with ⟨r1, s3⟩ | ⟨r1, s3⟩ <;> rcases (show (h < x ∧ decide (h < x) = true) ∨ (x ≤ h ∧ decide (h < x) = false) by simp; omega) with ⟨r2, s4⟩ | ⟨r2, s4⟩
        all_goals
          have R1 := Lib.hid r1
          have R2 := Lib.hid r2
          clear r1 r2
          go_wp2_with (at_builtin; refine app_int rfl _ _ rfl x rfl rfl HO.out hsz (by omega) ?_)
          intro v' w4 ho hg
          have hnext := Lib.hid (HS.out.next ho hg)
          have hck4 := (hnext.out.2.2.cell (p := ⟨w.heap.size, j, none⟩) hlt2).trans KC.out
          clear ho hg hck
          go_wp2
          go_roundw
          case rel => exact ⟨j + 1, _, _, _, by omega, by go_num, rfl, rfl, rfl, HSeen.out.next (by have := R1.out; omega) (by have := R2.out; omega) (by rw [KX.out]; have := R1.out; omega) (by rw [KX.out]; have := R2.out; omega), by rw [KT.out]; exact hnext.out⟩
          case measure => simp [intOf]; omega
      · obtain rfl : j = 5 := by omega
        rw [List.take_of_length_le (by rw [HL5.out]; exact Nat.le_refl _)] at hso
        obtain ⟨⟨j1, a1, a2, a3, a4⟩, j2, b1, b2, b3, b4⟩ := hmid.out
        have c1 := HSeen.out j1 a1 a2 a3
        have c2 := HSeen.out j2 b1 b2 b3
        obtain rfl : bb = true := c1.1
        have hl : l ≤ midV L := by omega
        have hh : midV L ≤ h := by omega
        have hlen : (ah ++ L).length = n + 5 := by rw [List.length_append, HLA.out, HL5.out]
        have hmb2 := hmb.out
        generalize ah ++ L = Z at *
        obtain ⟨B, d, rfl, hd, hi⟩ := hso.form
        have hAt : At w wr := HA2.out.below hso.2.2
        have hM1 := l8_mid w B Z.length d Z wr hAt hi hd (by omega)
        have hM2 := fun (w' : World) (g : At wr w') => l8_mid w (some ⟨w.heap.size, 0, none⟩) 5 5 L w' (hAt.trans g) ((iL.out.below hso.2.2).below g) (by omega) (by omega)
        rw [hmb2, show anyB Z.length = true by rw [hlen]; unfold anyB; simp] at hM1
        rw [show anyB 5 = true by decide] at hM2
        have M1 := Lib.hid hM1
        have M2 := Lib.hid hM2
        have hz5 : Z.length ≤ 55 := by omega
        clear hM1 hM2 hso hi a4 b4 c1 c2 a2 a3 b2 b3 hlen hAt hmb2
        generalize midV L = M at *
        have t1 : decide (l ≤ M) = true := by simpa using hl
        have t2 : decide (M ≤ h) = true := by simpa using hh
        go_wp2_with (first
          | (go_at_call 8; ((with_reducible refine M1.out.mono ?_)); rintro e w5 ⟨rfl, R5, S5⟩)
          | (go_at_call 8; ((with_reducible refine (M2.out _ R5).mono ?_)); rintro e w6 ⟨rfl, R6, S6⟩)
          | (go_at_call 7; refine (law8_awake w _ S6).mono ?_; rintro e w' ⟨rfl, R7⟩))
        all_goals go_ret
        all_goals exact ⟨rfl, R7⟩

theorem lifted (os : Os) (started : os.Started) (H : Type) (enc : TypeId × Value → H) :
    ReturnsInHanded {} Try.checked os 5 .any (Rows.medianHoldsSpec.pre6 enc Try.prog Try.f5 Rows.medianHoldsRow.domain false) (Rows.medianHoldsSpec.post enc Try.prog Try.f5 false true false false) := by
  refine law_lift started (by kernel_rfl) Try.func5 rfl rfl ?_ (by kernel_rfl)
    (ChangeSpec.witness6 (enc := enc) (C := Try.checked) false ⟨#[], #[.agg #[.int .i64 0, .int .i64 0, .int .i64 0, .int .i64 0, .int .i64 0], .agg #[.int .i64 0, .int .i64 0], .slice none 0 0], []⟩ 8 (by kernel_rfl) (by kernel_rfl) (by kernel_rfl) (by kernel_rfl)) ?_
  · intro ds hl
    match ds, hl with
    | [_, _, _], _ => exact ⟨rfl, rfl, rfl⟩
  · intro W base args ds p hval hA hlt hwt
    rw [Try.params5] at hA hval hwt
    obtain ⟨v0, vs0, d0, ds0, p0, q0, hargs, rfl, rfl, h0, r0⟩ := trodAll_cons hA
    obtain ⟨v1, vs1, d1, ds1, p1, q1, rfl, rfl, rfl, h1, r1⟩ := trodAll_cons r0
    obtain ⟨v2, vs2, d2, ds2, p2, q2, rfl, rfl, rfl, h2, r2⟩ := trodAll_cons r1
    obtain ⟨rfl, rfl, rfl⟩ := trodAll_nil r2
    obtain rfl : args = #[v0, v1, v2] := by cases args; simp_all
    obtain ⟨xs0, rfl, l0, w0⟩ := open_int_cells Try.underlying29 Try.underlying3 (by kernel_rfl) (by kernel_rfl) (hval 0 29 v0 rfl rfl) h0
    match xs0, l0, w0 with
    | [x0_0, x0_1, x0_2, x0_3, x0_4], _, w0 =>
    obtain ⟨xs1, rfl, l1, w1⟩ := open_int_cells Try.underlying30 Try.underlying3 (by kernel_rfl) (by kernel_rfl) (hval 1 30 v1 rfl rfl) h1
    match xs1, l1, w1 with
    | [x1_0, x1_1], _, w1 =>
    have wt2 : ∀ n ∈ d2.weights Try.prog 22, n ≤ reachBytes := fun n hn => by
      have := List.all_eq_true.1 hwt n (DataW.weights_mem_each (j := 2) (t := 22) (d := d2) rfl rfl n hn)
      simpa using this
    have lt2 : ∀ x ∈ p2, x.block < W.heap.size := fun x hx => hlt x (by simp [hx])
    obtain ⟨A2, n2, c2, xs2, rfl, hi2, hc2, hr2, w2⟩ := open_ints_arg Try.underlying22 Try.underlying3 (by kernel_rfl) (by kernel_rfl) (hval 2 22 v2 rfl rfl) h2 lt2 wt2
    exact walk W x0_0 (w0 _ (by simp)) x0_1 (w0 _ (by simp)) x0_2 (w0 _ (by simp)) x0_3 (w0 _ (by simp)) x0_4 (w0 _ (by simp)) x1_0 (w1 _ (by simp)) x1_1 (w1 _ (by simp)) A2 n2 c2 xs2 hi2 hc2 hr2 w2

theorem over : Rows.medianHoldsRow.holds Try.pinned (OpenSpec.ofChange Rows.medianHoldsSpec) :=
  OpenClaim.holds_of_wide 5 Try.f5 rfl rfl rfl rfl rfl rfl rfl ⟨rfl, rfl, rfl, rfl, rfl⟩ rfl rfl rfl rfl rfl (by kernel_rfl) Try.func5 (by kernel_rfl)
    (of_decide_eq_true (by kernel_rfl)) (by unfold Func.isWrapper; first | (rw [if_pos (by decide +kernel)]; kernel_rfl) | (rw [if_neg (by decide +kernel)]; exact ⟨rfl, rfl⟩))
    (fun os started H enc _ => lifted os started H enc)

theorem proved : Rows.MedianHoldsSaid := over
#print axioms proved
end Go.Proofs.Ytmdhmnpkiolmmaa.medianHolds
