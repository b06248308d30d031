/- The document's reader: num, special. -/
import Derived.Test.YteeiebopfjlffaaRefPut
import Derived.Test.YteeiebopfjlffaaLaw50
namespace Go.Proofs.Yteeiebopfjlffaa
open Go.RowKit Ieee
set_option linter.unusedVariables false
set_option linter.unusedSimpArgs false
set_option maxRecDepth 100000
attribute [local go_sem] cell_set_ite run_store_real Near.cell Near.frozen

def rV (l : List UInt8) (a : Nat) (ok : Bool) : Value := .agg #[.string ⟨l.toArray⟩, .int .i64 a, .bool ok]
theorem tak_at (l : List UInt8) (a W : Nat) (w1 : 1 ≤ W) (w7 : W ≤ 7) (ha : a ≤ l.length) : takV (ByteArray.mk l.toArray).data.toList (a : Int) (W : Int) = (rdV (l.drop a) W : Nat) ∧ takB (ByteArray.mk l.toArray).size (a : Int) (W : Int) = !rdW (l.drop a) W := by
  have hs : (ByteArray.mk l.toArray).size = l.length := List.size_toArray
  have hd : (l.drop a).length = l.length - a := List.length_drop
  have hB : takB l.length (a : Int) (W : Int) = !rdW (l.drop a) W := by
    unfold takB rdW
    rw [hd]
    by_cases h : l.length - a < W
    · rw [decide_eq_true h, decide_eq_false (by omega)]; rfl
    · rw [decide_eq_false h, decide_eq_true (by omega)]; rfl
  refine ⟨?_, by rw [hs, hB]⟩
  unfold takV rdV
  rw [show (ByteArray.mk l.toArray).data.toList = l from rfl, hB]
  by_cases h : W ≤ (l.drop a).length
  · have e : rdW (l.drop a) W = false := decide_eq_false (by omega)
    rw [e, if_pos h, if_pos (by decide)]; simp
  · have e : rdW (l.drop a) W = true := decide_eq_true (by omega)
    rw [e, if_neg h, if_neg (by decide)]; rfl
set_option maxHeartbeats 2000000 in
theorem rg_num_ok (l : List UInt8) (a W : Nat) (w1 : 1 ≤ W) (w7 : W ≤ 7) (ha : a ≤ l.length) (hl : l.length ≤ 100000) (hw : rdW (l.drop a) W = false) (w : World) :
    Calls Try.prog 34 #[rV l a true, .int .i64 W] w fun e w' => e = .returned (.tuple #[.int .i64 (rdV (l.drop a) W : Nat), rV l (a + W) true]) ∧ Below w.heap.size w w' := by
  have D0 : Below w.heap.size w w := Below.refl _ _
  obtain ⟨e1, e2⟩ := tak_at l a W w1 w7 ha
  have hs : (ByteArray.mk l.toArray).size = l.length := List.size_toArray
  have KT := Lib.hid fun w => ref7_take ⟨l.toArray⟩ (a : Int) W (by rw [hs]; omega) (by omega) w
  rw [e1, e2, hw] at KT
  clear e1 e2 hw
  generalize rdV (l.drop a) W = k at *
  unfold rV
  go_enter Try.func34, Try.ntmps34
  go_wp2_with (go_at_call 45; refine (KT.out _).mono ?_; rintro e w' ⟨rfl, rfl⟩)
  go_region
  go_wp2_with (fail)
  refine bodyPost_ret (v := .tuple #[.int .i64 k, .agg #[.string ⟨l.toArray⟩, .int .i64 ((a : Int) + (W : Int)), .bool true]]) (by simp [results, Try.results34, go_sem]) rfl ⟨by rw [Int.natCast_add], (two_new w _ _ _ _).2.2⟩
set_option maxHeartbeats 2000000 in
theorem rg_num_no (l : List UInt8) (a W : Nat) (ok : Bool) (w1 : 1 ≤ W) (w7 : W ≤ 7) (ha : a ≤ l.length) (hl : l.length ≤ 100000) (hw : (ok && !rdW (l.drop a) W) = false) (w : World) :
    Calls Try.prog 34 #[rV l a ok, .int .i64 W] w fun e w' => e = .returned (.tuple #[.int .i64 0, rV l a false]) ∧ Below w.heap.size w w' := by
  have D0 : Below w.heap.size w w := Below.refl _ _
  obtain ⟨e1, e2⟩ := tak_at l a W w1 w7 ha
  have hs : (ByteArray.mk l.toArray).size = l.length := List.size_toArray
  have KT := Lib.hid fun w => ref7_take ⟨l.toArray⟩ (a : Int) W (by rw [hs]; omega) (by omega) w
  rw [e1, e2] at KT
  clear e1 e2
  generalize rdV (l.drop a) W = k at *
  generalize rdW (l.drop a) W = b at *
  unfold rV
  cases b
  · obtain rfl : ok = false := by simpa using hw
    clear hw
    go_enter Try.func34, Try.ntmps34
    go_wp2_with (go_at_call 45; refine (KT.out _).mono ?_; rintro e w' ⟨rfl, rfl⟩)
    go_region
    go_wp2_with (fail)
    refine bodyPost_ret (v := .tuple #[.int .i64 0, .agg #[.string ⟨l.toArray⟩, .int .i64 a, .bool false]]) (by simp [results, Try.results34, go_sem]) rfl ⟨rfl, (two_new w _ _ _ _).2.2⟩
  · clear hw
    go_enter Try.func34, Try.ntmps34
    go_wp2_with (go_at_call 45; refine (KT.out _).mono ?_; rintro e w' ⟨rfl, rfl⟩)
    go_region
    go_wp2_with (fail)
    refine bodyPost_ret (v := .tuple #[.int .i64 0, .agg #[.string ⟨l.toArray⟩, .int .i64 a, .bool false]]) (by simp [results, Try.results34, go_sem]) rfl ⟨rfl, (two_new w _ _ _ _).2.2⟩
/-- What special answers of a kind: a word that is told so. -/
def spB (k : Nat) : Bool := decide (1 ≤ k ∧ k ≤ 5)
def spN (k : Nat) : Nat := if k = 1 then NANW else if k = 2 then 18442240474082181120 else if k = 3 then 9218868437227405312 else if k = 4 then 9223372036854775808 else 0
theorem rg_special (k : Nat) (w : World) : Calls Try.prog 54 #[.int .i64 k] w fun e w' => ∃ x, e = .returned (.tuple #[.float .f64 x, .bool (spB k)]) ∧ nm x = spN k ∧ x < 18446744073709551616 ∧ Below w.heap.size w w' := by
  have D0 : Below w.heap.size w w := Below.refl _ _
  have q1 : ∀ t w, (binOp .quo t (.float .f64 4607182418800017408) (.float .f64 0)).run Try.prog w = .ok (.float .f64 9218868437227405312) w := fun t w => run_float_arith w .quo t .f64 _ _ _ (by decide +kernel)
  have q2 : ∀ t w, (binOp .quo t (.float .f64 13830554455654793216) (.float .f64 9218868437227405312)).run Try.prog w = .ok (.float .f64 9223372036854775808) w := fun t w => run_float_arith w .quo t .f64 _ _ _ (by decide +kernel)
  have q3 : ∀ t w, (binOp .quo t (.float .f64 13830554455654793216) (.float .f64 0)).run Try.prog w = .ok (.float .f64 18442240474082181120) w := fun t w => run_float_arith w .quo t .f64 _ _ _ (by decide +kernel)
  rcases (show k = 1 ∨ k = 2 ∨ k = 3 ∨ k = 4 ∨ k = 5 ∨ (k ≠ 1 ∧ k ≠ 2 ∧ k ≠ 3 ∧ k ≠ 4 ∧ k ≠ 5) by omega) with c | c | c | c | c | c
  · subst c
    obtain ⟨x, hx, hn, hl⟩ := run_nan 31 w
    have HN := Lib.hid hn
    have HL := Lib.hid hl
    clear hn hl q1 q2 q3
    go_enter Try.func54, Try.ntmps54
    go_wp2_with (fail)
    all_goals go_ret2
    all_goals exact ⟨x, rfl, by unfold nm; rw [HN.out]; rfl, HL.out, Below.drew D0⟩
  · subst c
    go_enter Try.func54, Try.ntmps54
    go_wp2_with (fail)
    all_goals go_ret2
    all_goals exact ⟨_, rfl, by decide +kernel, by omega, D0⟩
  · subst c
    go_enter Try.func54, Try.ntmps54
    go_wp2_with (fail)
    all_goals go_ret2
    all_goals exact ⟨_, rfl, by decide +kernel, by omega, D0⟩
  · subst c
    go_enter Try.func54, Try.ntmps54
    go_wp2_with (fail)
    all_goals go_ret2
    all_goals exact ⟨_, rfl, by decide +kernel, by omega, D0⟩
  · subst c
    go_enter Try.func54, Try.ntmps54
    go_wp2_with (fail)
    all_goals go_ret2
    all_goals exact ⟨_, rfl, by decide +kernel, by omega, D0⟩
  · have e1 : spB k = false := by unfold spB; exact decide_eq_false (by omega)
    have e2 : spN k = 0 := by unfold spN; rw [if_neg c.1, if_neg c.2.1, if_neg c.2.2.1, if_neg c.2.2.2.1]
    rw [e1, e2]
    obtain ⟨c1, c2, c3, c4, c5⟩ := c
    clear e1 e2 q1 q2 q3
    go_enter Try.func54, Try.ntmps54
    go_wp2_with (fail)
    all_goals try omega
    all_goals go_ret2
    all_goals exact ⟨_, rfl, by decide +kernel, by omega, D0⟩
end Go.Proofs.Yteeiebopfjlffaa
