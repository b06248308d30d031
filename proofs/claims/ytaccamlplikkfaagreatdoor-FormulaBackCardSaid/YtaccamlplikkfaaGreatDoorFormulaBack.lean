/- FormulaBack: what is told is parsed as it was, and the other way round: for every list of parts and every text. -/
import Derived.Test.YtaccamlplikkfaaGreatDoorLaid
import Derived.Test.YtaccamlplikkfaaGreatDoorCards
import Derived.Test.YtaccamlplikkfaaGreatDoorTie
import Derived.Test.YtaccamlplikkfaaGreatDoorAw56
import Derived.Test.YtaccamlplikkfaaGreatDoorLeaf
import Derived.ChangeMaps5
namespace Go.Proofs.YtaccamlplikkfaaGreatDoor.formulaBack
open Go.RowKit Go.Deep
open Go.Proofs.YtaccamlplikkfaaGreatDoor
open Go.ChangeShapes Go.WideShapes Go.ChangeAt
set_option linter.unusedVariables false
set_option linter.unusedSimpArgs false
set_option maxRecDepth 100000
attribute [local go_sem] cell_set_ite Near.cell Near.frozen
attribute [-go_sem] run_string_add_if

theorem pa_nil : ∀ (ps : List (List UInt8)) (acc l : List Tm) (k : Nat), paF rgt ps acc = (l, k) → k ≠ 0 → l = []
  | [], acc, l, k, h, hk => by
    unfold paF at h
    split at h
    · obtain ⟨_, e⟩ := Prod.mk.inj h; exact absurd e.symm hk
    · exact (Prod.mk.inj h).1.symm
  | p :: r, acc, l, k, h, hk => by
    unfold paF at h
    split at h
    · split at h
      · exact (Prod.mk.inj h).1.symm
      · exact pa_nil r _ l k h hk
    · exact (Prod.mk.inj h).1.symm
theorem tl_get (l : List Tm) : tlL (fun i => l.getD i ⟨0, 0, 0⟩) l.length = l := by
  unfold tlL
  apply List.ext_getElem
  · simp
  · intro i h1 h2
    simp [h2]
theorem tl_at (ts : Nat → Tm) (n i : Nat) (h : i < n) : (tlL ts n).getD i ⟨0, 0, 0⟩ = ts i := by
  unfold tlL
  rw [List.getD_eq_getElem?_getD, List.getElem?_map, List.getElem?_range h]
  rfl
theorem rt_congr {ts us : Nat → Tm} {n : Nat} (h : ∀ i, i < n → ts i = us i) : rtB ts n = rtB us n := by
  have h1 : ∀ k, k ≤ n → rdN ts k = rdN us k ∧ okB ts k = okB us k := by
    intro k
    induction k with
    | zero => intro _; exact ⟨rfl, rfl⟩
    | succ k ih =>
      intro hk
      obtain ⟨a, b⟩ := ih (by omega)
      refine ⟨?_, ?_⟩
      · show rdN ts k + 1 - ndN (ts k).op = rdN us k + 1 - ndN (us k).op
        rw [a, h k (by omega)]
      · show (okB ts k && (myB (ts k) && decide (ndN (ts k).op ≤ rdN ts k))) = (okB us k && (myB (us k) && decide (ndN (us k).op ≤ rdN us k)))
        rw [a, b, h k (by omega)]
  unfold rtB
  rw [(h1 n (Nat.le_refl _)).1, (h1 n (Nat.le_refl _)).2]
theorem rgt_tl (ts : Nat → Tm) (n : Nat) : rgt (tlL ts n) = rtB ts n := by
  unfold rgt
  rw [tlL_len]
  exact rt_congr fun i hi => tl_at ts n i hi
/-- A formula's text is parsed as it was. -/
theorem back_told (ts : Nat → Tm) (n : Nat) (h : rtB ts n = true) : paF rgt (splS (txL ts n)) [] = (tlL ts n, 0) := by
  obtain ⟨n40, n0, hm⟩ := rt_all h
  unfold txL
  rw [if_pos h, spl_joi]
  · have := pa_told rgt (tlL ts n) [] (fun t ht => by
      obtain ⟨i, hi, rfl⟩ := List.mem_map.1 ht
      exact hm i (List.mem_range.1 hi)) (by rw [tlL_len]; simpa using n40) (by rw [List.nil_append, rgt_tl]; exact h)
    rwa [List.nil_append] at this
  · intro e
    have := congrArg List.length e
    simp [tlL_len] at this
    omega
  · intro x hx c hc
    obtain ⟨t, ht, rfl⟩ := List.mem_map.1 hx
    obtain ⟨i, hi, rfl⟩ := List.mem_map.1 ht
    exact wd_no _ (hm i (List.mem_range.1 hi)) c hc
/-- What is parsed is told as it was. -/
theorem back_text {s : List UInt8} {l : List Tm} (h : paF rgt (splS s) [] = (l, 0)) : rgt l = true ∧ txL (fun i => l.getD i ⟨0, 0, 0⟩) l.length = s := by
  obtain ⟨l', e1, e2, e3, _⟩ := pa_back rgt (splS s) [] l h
  rw [List.nil_append] at e1
  subst e1
  refine ⟨e3, ?_⟩
  unfold txL
  rw [if_pos (show rtB (fun i => l.getD i ⟨0, 0, 0⟩) l.length = true from e3), tl_get, e2, joi_spl]
theorem tx_len (ts : Nat → Tm) (n : Nat) : (txL ts n).length ≤ 900 := by
  unfold txL
  split
  · rename_i h
    obtain ⟨n40, n0, hm⟩ := rt_all h
    have := joi_len ((tlL ts n).map wdL) (fun x hx => by
        obtain ⟨t, ht, rfl⟩ := List.mem_map.1 hx
        obtain ⟨i, hi, rfl⟩ := List.mem_map.1 ht
        exact wd_len _ (hm i (List.mem_range.1 hi)))
    rw [List.length_map, tlL_len] at this
    omega
  · simp
theorem pa_empty : paF rgt (splS []) [] = ([], 1) := by
  show paF rgt [[]] [] = _
  exact pa_bad (by decide) _ _

set_option maxHeartbeats 8000000 in
theorem few (w : World) (A : Option Addr) (n c : Nat) (ts : Nat → Tm) (h : Terms w A n ts) (hc : n ≤ c) (hn : n ≤ 60) (s : ByteArray) (hs : s.size ≤ 400) (pm pp : Addr) (f : Fx w pm pp) :
    Calls Tryz.prog 3 #[.slice A n c, .string s] w fun e w' => e = .returned (.bool true) ∧ Below w.heap.size w w' := by
  have A0 : Below w.heap.size w w := Below.refl _ _
  have KW := Lib.hid fun w' (hb : Below w.heap.size w w') => l56_awake w' pm pp (f.below hb)
  have KT := Lib.hid (fo_text A n c ts w h hc f.gl)
  have KR := Lib.hid fun w' (hb : Below w.heap.size w w') => fo_right A n c ts w' (h.below hb)
  obtain ⟨t, ht⟩ : ∃ t : ByteArray, (⟨(txL ts n).toArray⟩ : ByteArray) = t := ⟨_, rfl⟩
  have htl : t.data.toList = txL ts n := by rw [← ht]
  have hts : t.size ≤ 1000 := by
    have := tx_len ts n
    rw [← htl] at this
    have e : t.size = t.data.toList.length := rfl
    omega
  have KP := Lib.hid fun w' (hb : Below w.heap.size w w') => fo_Parse t hts w' pm pp (f.below hb)
  have KS := Lib.hid fun w' (hb : Below w.heap.size w w') => fo_Parse s (by omega) w' pm pp (f.below hb)
  have HG := Lib.hid fun w' (hb : Below w.heap.size w w') => f.gl.below hb
  have HT := Lib.hid h
  have t0 : decide ((60 : Int) < (n : Int)) = false := decide_eq_false (by omega)
  have t1 : decide ((400 : Int) < (s.size : Int)) = false := decide_eq_false (by omega)
  have HTL := Lib.hid htl
  have HN := Lib.hid hn
  have HC := Lib.hid hc
  rw [ht] at KT
  clear h f ht htl hts hn hs hc
  go_enter Tryz.func3, Tryz.ntmps3
  go_wp2_with (fail)
  refine KT.out.mono ?_
  rintro e w1 ⟨rfl, b1⟩
  go_wp2_with (fail)
  refine (KP.out w1 b1).mono ?_
  rintro e w2 ⟨v, rfl, hp, b2⟩
  have B2 := below_call b1 b2
  clear b1 b2
  cases hr : rtB ts n with
  | true =>
    obtain ⟨B, d, rfl, tb, hd⟩ := ps_at (l := tlL ts n) (k := 0) hp (by rw [HTL.out]; exact back_told ts n hr)
    rw [tlL_len] at tb hd ⊢
    have HTB := Lib.hid tb
    have HD := Lib.hid hd
    rw [hr] at KR
    clear hp tb hd hr
    show _
    go_wp2_with (fail)
    refine (KR.out w2 B2).mono ?_
    rintro e w3 ⟨rfl, b3⟩
    have B3 := below_call B2 b3
    have KE := Lib.hid (l56_same A B n c d ts _ w3 (HT.out.below B3) (HTB.out.below b3) HC.out HD.out (by have := HN.out; omega) (fun i hi => (tl_at ts n i hi).symm))
    clear b3
    go_wp2_with (fail)
    refine KE.out.mono ?_
    rintro e w4 ⟨rfl, b4⟩
    have B4 := below_call B3 b4
    clear b4 KE
    go_wp2_with (fail)
    refine (KS.out w4 B4).mono ?_
    rintro e w5 ⟨v, rfl, ⟨l, k, C, g, hpa, hk3, rfl, tc, hg⟩, b5⟩
    have B5 := below_call B4 b5
    have KX := Lib.hid (fo_text C l.length g (fun i => l.getD i ⟨0, 0, 0⟩) w5 tc hg (HG.out w5 B5))
    have KQ := Lib.hid fun w' (hb : Below w5.heap.size w5 w') => fo_right C l.length g (fun i => l.getD i ⟨0, 0, 0⟩) w' (tc.below hb)
    clear b5
    by_cases hk : k = 0
    · subst hk
      obtain ⟨r1, r2⟩ := back_text hpa
      have e2 : (⟨(txL (fun i => l.getD i ⟨0, 0, 0⟩) l.length).toArray⟩ : ByteArray) = s := by rw [r2]
      rw [e2, show rtB (fun i => l.getD i ⟨0, 0, 0⟩) l.length = true from r1] at KX
      rw [show rtB (fun i => l.getD i ⟨0, 0, 0⟩) l.length = true from r1] at KQ
      have KW5 := Lib.hid fun w' (hb : Below w5.heap.size w5 w') => KW.out w' (below_call B5 hb)
      have sb : (s.toList == s.toList) = true := beq_self_eq_true _
      rw [show noE 0 = 0 from rfl]
      clear hpa r1 r2 e2 tc hg hk3 KW KS KP HG HT HTL HN HC
      generalize l.length = m at *
      go_wp2_with (fail)
      refine KX.out.mono ?_
      rintro e w6 ⟨rfl, b6⟩
      clear KX
      go_wp2_with (first
        | (go_at_call 8; refine (KQ.out w6 b6).mono ?_; rintro e w7 ⟨rfl, b7⟩; have b67 := below_call b6 b7)
        | (go_at_call 5; refine (KW5.out w7 b67).mono ?_; rintro e w8 ⟨rfl, b8⟩))
      all_goals go_ret
      all_goals exact ⟨rfl, below_call B5 (below_call b67 b8)⟩
    · have hl := pa_nil _ _ _ _ hpa hk
      subst hl
      rw [show rtB (fun i => ([] : List Tm).getD i ⟨0, 0, 0⟩) ([] : List Tm).length = false by decide] at KX
      have KX2 : Hid (Calls Tryz.prog 6 #[.slice C 0 g] w5 fun e w' => e = .returned (.tuple #[.string ⟨#[]⟩, .bool false]) ∧ Below w5.heap.size w5 w') := KX
      have KW5 := Lib.hid fun w' (hb : Below w5.heap.size w5 w') => KW.out w' (below_call B5 hb)
      obtain ⟨x, hx⟩ : ∃ x, noE k = x := ⟨_, rfl⟩
      have x0 : (x == 0) = false := by
        rw [← hx]
        rcases (by omega : k = 1 ∨ k = 2 ∨ k = 3) with rfl | rfl | rfl <;> decide
      have x1 : (x != 0) = true := by rw [bne, x0]; rfl
      rw [hx]
      clear hpa tc hg hk3 hx hk KX KQ KW KS KP HG HT HTL HN HC
      show _
      go_wp2_with (fail)
      refine KX2.out.mono ?_
      rintro e w6 ⟨rfl, b6⟩
      go_wp2_with (go_at_call 5; refine (KW5.out w6 b6).mono ?_; rintro e w8 ⟨rfl, b8⟩)
      all_goals go_ret
      all_goals exact ⟨rfl, below_call B5 (below_call b6 b8)⟩
  | false =>
    obtain ⟨B, d, rfl, tb, hd⟩ := ps_at (l := []) (k := 1) hp (by
      rw [HTL.out]
      unfold txL
      rw [if_neg (by rw [hr]; decide)]
      exact pa_empty)
    rw [hr] at KR
    clear hp tb hd hr
    go_wp2_with (fail)
    refine (KR.out w2 B2).mono ?_
    rintro e w3 ⟨rfl, b3⟩
    have B3 := below_call B2 b3
    clear b3
    go_wp2_with (fail)
    refine (KS.out w3 B3).mono ?_
    rintro e w5 ⟨v, rfl, ⟨l, k, C, g, hpa, hk3, rfl, tc, hg⟩, b5⟩
    have B5 := below_call B3 b5
    have KX := Lib.hid (fo_text C l.length g (fun i => l.getD i ⟨0, 0, 0⟩) w5 tc hg (HG.out w5 B5))
    have KQ := Lib.hid fun w' (hb : Below w5.heap.size w5 w') => fo_right C l.length g (fun i => l.getD i ⟨0, 0, 0⟩) w' (tc.below hb)
    clear b5
    by_cases hk : k = 0
    · subst hk
      obtain ⟨r1, r2⟩ := back_text hpa
      have e2 : (⟨(txL (fun i => l.getD i ⟨0, 0, 0⟩) l.length).toArray⟩ : ByteArray) = s := by rw [r2]
      rw [e2, show rtB (fun i => l.getD i ⟨0, 0, 0⟩) l.length = true from r1] at KX
      rw [show rtB (fun i => l.getD i ⟨0, 0, 0⟩) l.length = true from r1] at KQ
      have KW5 := Lib.hid fun w' (hb : Below w5.heap.size w5 w') => KW.out w' (below_call B5 hb)
      have sb : (s.toList == s.toList) = true := beq_self_eq_true _
      rw [show noE 0 = 0 from rfl]
      clear hpa r1 r2 e2 tc hg hk3 KW KS KP HG HT HTL HN HC
      generalize l.length = m at *
      go_wp2_with (fail)
      refine KX.out.mono ?_
      rintro e w6 ⟨rfl, b6⟩
      clear KX
      go_wp2_with (first
        | (go_at_call 8; refine (KQ.out w6 b6).mono ?_; rintro e w7 ⟨rfl, b7⟩; have b67 := below_call b6 b7)
        | (go_at_call 5; refine (KW5.out w7 b67).mono ?_; rintro e w8 ⟨rfl, b8⟩))
      all_goals go_ret
      all_goals exact ⟨rfl, below_call B5 (below_call b67 b8)⟩
    · have hl := pa_nil _ _ _ _ hpa hk
      subst hl
      rw [show rtB (fun i => ([] : List Tm).getD i ⟨0, 0, 0⟩) ([] : List Tm).length = false by decide] at KX
      have KX2 : Hid (Calls Tryz.prog 6 #[.slice C 0 g] w5 fun e w' => e = .returned (.tuple #[.string ⟨#[]⟩, .bool false]) ∧ Below w5.heap.size w5 w') := KX
      have KW5 := Lib.hid fun w' (hb : Below w5.heap.size w5 w') => KW.out w' (below_call B5 hb)
      obtain ⟨x, hx⟩ : ∃ x, noE k = x := ⟨_, rfl⟩
      have x0 : (x == 0) = false := by
        rw [← hx]
        rcases (by omega : k = 1 ∨ k = 2 ∨ k = 3) with rfl | rfl | rfl <;> decide
      have x1 : (x != 0) = true := by rw [bne, x0]; rfl
      rw [hx]
      clear hpa tc hg hk3 hx hk KX KQ KW KS KP HG HT HTL HN HC
      show _
      go_wp2_with (fail)
      refine KX2.out.mono ?_
      rintro e w6 ⟨rfl, b6⟩
      go_wp2_with (go_at_call 5; refine (KW5.out w6 b6).mono ?_; rintro e w8 ⟨rfl, b8⟩)
      all_goals go_ret
      all_goals exact ⟨rfl, below_call B5 (below_call b6 b8)⟩
theorem walk (W : World) (A : Option Addr) (n c : Nat) (rs : List (List Value)) (hi : Rows [.int .i64, .int .i64, .int .i64] W A n rs) (hc : n ≤ c) (hr : n * 24 ≤ 140737488351232) (s : ByteArray) (ws : s.size ≤ maxLen)
    (hL : laidMetH Tryz.prog Rows.formulaBackRow.laid W) (hSh : W.ShapedOpen Tryz.prog) :
    Calls Tryz.prog 3 #[.slice A n c, .string s] W fun e w' => e = .returned (.bool true) ∧ Below W.heap.size W w' := by
  obtain ⟨ts, h⟩ := Terms.of_rows hi
  obtain ⟨G, E, pm, pp, hE⟩ := fo_tabs hL hSh (by kernel_rfl) (by kernel_rfl) (by kernel_rfl) (by kernel_rfl) (by kernel_rfl) (by kernel_rfl)
  have f : Fx W pm pp := ⟨G, E, hE⟩
  clear hi G E hE hL hSh
  have KW := Lib.hid (l56_awake W pm pp f)
  by_cases hn : 60 < n
  · have t0 : decide ((60 : Int) < (n : Int)) = true := decide_eq_true (by omega)
    clear hn h f hc hr ws
    go_enter Tryz.func3, Tryz.ntmps3
    go_wp2_with (go_at_call 5; refine KW.out.mono ?_; rintro e w' ⟨rfl, hb⟩)
    all_goals go_ret
    all_goals exact ⟨rfl, hb⟩
  · have t0 : decide ((60 : Int) < (n : Int)) = false := decide_eq_false (by omega)
    by_cases hs : 400 < s.size
    · have t1 : decide ((400 : Int) < (s.size : Int)) = true := decide_eq_true (by omega)
      clear hn h f hc hr ws hs
      go_enter Tryz.func3, Tryz.ntmps3
      go_wp2_with (go_at_call 5; refine KW.out.mono ?_; rintro e w' ⟨rfl, hb⟩)
      all_goals go_ret
      all_goals exact ⟨rfl, hb⟩
    · exact few W A n c ts h hc (by omega) s (by omega) pm pp f
noncomputable def wit (os : Os) : World := (World.doorLaid Tryz.prog 122 os).layVars Tryz.prog (Rows.formulaBackRow.laid.filter fun x => x.2.handleName?.isNone)
theorem door_met (os : Os) (args : Array Value) : laidMetH Tryz.prog Rows.formulaBackRow.laid ((wit os).forCall (fun _ _ => 0) ⟨#[], args, []⟩).memory :=
  (laidMetH_over (w := World.doorLaid Tryz.prog 122 os) (by kernel_rfl) (by kernel_rfl) (by kernel_rfl)).of_heap (by simp [wit, World.memory, World.forCall, Input.heap])
set_option maxRecDepth 100000 in
theorem lifted (os : Os) (started : os.Started) (H : Type) (enc : TypeId × Value → H) :
    ReturnsInHanded {} Tryz.checked os 3 .any (fun w args => (Rows.formulaBackSpec.pre enc Tryz.prog Tryz.f3 [] false w args ∧ laidMetH Tryz.prog Rows.formulaBackRow.laid w) ∧ sizedMet enc Tryz.prog Tryz.f3 (OpenSpec.ofChange Rows.formulaBackSpec) false w args) (Rows.formulaBackSpec.post enc Tryz.prog Tryz.f3 false true false false) := by
  refine law_lift_laidS (laid := Rows.formulaBackRow.laid) started (by kernel_rfl) Tryz.func3 rfl rfl ?_ (by kernel_rfl)
    (ChangeSpec.witness_shaped (enc := enc) (C := Tryz.checked) (os := os) (X := fun w _ => laidMetH Tryz.prog Rows.formulaBackRow.laid w) false (wit os) #[.slice none 0 0, .string ⟨#[]⟩] 8 (World.layVars_os _ _ _) (World.shaped_of_ZipB (by kernel_rfl) (by kernel_rfl)) (by kernel_rfl) (by kernel_rfl) (by kernel_rfl) (door_met os _)) ?_
  · intro ds hl
    match ds, hl with
    | [_, _], _ => exact ⟨rfl, rfl, rfl⟩
  · intro W base args ds p hval hA hlt hwt hL hSh
    rw [Tryz.params3] at hA hval hwt
    obtain ⟨v0, vs0, d0, ds0, p0, q0, hargs, rfl, rfl, h0, r0⟩ := trodAll_cons hA
    obtain ⟨v1, vs1, d1, ds1, p1, q1, rfl, rfl, rfl, h1, r1⟩ := trodAll_cons r0
    obtain ⟨rfl, rfl, rfl⟩ := trodAll_nil r1
    obtain rfl : args = #[v0, v1] := by cases args; simp_all
    have wt0 : ∀ n ∈ d0.weights Tryz.prog 22, n ≤ reachBytes := fun n hn => by
      have := List.all_eq_true.1 hwt n (DataW.weights_mem_each (j := 0) (t := 22) (d := d0) rfl rfl n hn)
      simpa using this
    have lt0 : ∀ x ∈ p0, x.block < W.heap.size := fun x hx => hlt x (by simp [hx])
    obtain ⟨A0, n0, c0, xs0, rfl, hi0, hc0, hr0⟩ := open_rows_arg (nb := 24) 5 [.int .i64, .int .i64, .int .i64] Tryz.underlying22 (by kernel_rfl) (by kernel_rfl) (by decide) (by kernel_rfl) (hval 0 22 v0 rfl rfl) h0 lt0 wt0
    obtain ⟨a1, rfl, rfl, rfl, w1⟩ := Go.ChangeMaps.open_string Tryz.underlying9 (hval 1 9 v1 rfl rfl) h1
    exact walk W A0 n0 c0 xs0 hi0 hc0 hr0 a1 w1 hL hSh

theorem over : Rows.formulaBackRow.holds Tryz.pinned (OpenSpec.ofChange Rows.formulaBackSpec) :=
  OpenClaim.holds_of_wide 3 Tryz.f3 rfl rfl rfl rfl rfl rfl rfl ⟨rfl, rfl, rfl, rfl, rfl⟩ rfl rfl rfl rfl rfl (by kernel_rfl) Tryz.func3 (by kernel_rfl)
    (of_decide_eq_true (by kernel_rfl)) (by unfold Func.isWrapper; first | (rw [if_pos (by decide +kernel)]; kernel_rfl) | (rw [if_neg (by decide +kernel)]; exact ⟨rfl, rfl⟩))
    (fun os started H enc _ => lifted os started H enc)

theorem plain (f : FuncId) (fn : Func) (hf : Tryz.pinned.checked.prog.funcNamed "pinchcock/pinchcocklaw56.FormulaBack" = some f) (hfn : Tryz.pinned.checked.prog.funcs[f]? = some fn) :
    true = Tryz.pinned.checked.prog.looks [] ∧ ∀ (j : Nat) t, fn.params[j]? = some t → Tryz.pinned.checked.prog.wantsStandIn t = false := by
  obtain rfl : f = 3 := Option.some.inj ((show Tryz.prog.funcNamed "pinchcock/pinchcocklaw56.FormulaBack" = some 3 by kernel_rfl).symm.trans hf) |>.symm
  obtain rfl : fn = Tryz.f3 := (Option.some.inj (Tryz.func3.symm.trans hfn)).symm
  refine ⟨by kernel_rfl, fun j t ht => ?_⟩
  rw [Tryz.params3] at ht
  have hm : t ∈ [22, 9] := by simpa using Array.mem_of_getElem? ht
  have hall : ([22, 9].all fun u => !Tryz.prog.wantsStandIn u) = true := by kernel_rfl
  exact (show Tryz.prog.wantsStandIn t = false by simpa using List.all_eq_true.1 hall t hm)
theorem proved : Rows.FormulaBackCardSaid :=
  Claim7.holds_tied_plain_at .later [] _ _ _ _ over (fun _ h => by cases h) (by kernel_rfl) (fun _ h => by cases h) formulaBack_row_tie rfl ⟨rfl, rfl⟩ (by kernel_rfl) rfl plain (by kernel_rfl)
#print axioms proved
end Go.Proofs.YtaccamlplikkfaaGreatDoor.formulaBack
