/- Contracts of package rails. -/
import Derived.Test.YtkddledajffdbaaSat
namespace Go.Proofs.Ytkddledajffdbaa
set_option maxRecDepth 100000
open Go.RowKit
set_option linter.unusedVariables false
set_option linter.unusedSimpArgs false

theorem and_one (n : Int) : bits .and .i64 n 1 = n % 2 := by
  have h1 : (BitVec.ofInt 64 1).toNat = 2 ^ 1 - 1 := by decide
  have key : (BitVec.ofInt 64 n &&& BitVec.ofInt 64 1).toNat = (n % ((2 ^ 64 : Nat) : Int)).toNat % 2 ^ 1 := by
    rw [BitVec.toNat_and, BitVec.toNat_ofInt, h1, Nat.and_two_pow_sub_one_eq_mod]
  show IntKind.i64.wrap ((BitVec.ofInt 64 n &&& BitVec.ofInt 64 1).toNat : Nat) = n % 2
  rw [key, IntKind.wrap_i64]
  omega
def eaB (a bad : Int) : Bool := decide (a ≤ 0) || (decide (4095 ≤ a) || decide (bad % 2 ≠ 0))
def raV (run a bad : Int) : Int := if eaB a bad = true then withV run 0 1099511627776 + 1 else 0
def faB (run bad : Int) : Bool := decide (bad ≠ 0) || decide (50 ≤ run)
theorem withR_bd (n : Int) : 0 ≤ withV n 0 1099511627776 ∧ withV n 0 1099511627776 ≤ 1099511627776 := by unfold withV; split <;> (try split) <;> (try split) <;> omega
theorem withR_1 {n : Int} (h1 : n < 0) : withV n 0 1099511627776 = 0 := by unfold withV; split <;> (try split) <;> (try split) <;> omega
theorem withR_2 {n : Int} (h1 : 0 ≤ n) (h2 : n ≤ 1099511627776) : withV n 0 1099511627776 = n := by unfold withV; split <;> (try split) <;> (try split) <;> omega
theorem withR_3 {n : Int} (h1 : 1099511627776 < n) : withV n 0 1099511627776 = 1099511627776 := by unfold withV; split <;> (try split) <;> (try split) <;> omega

theorem ra_ended (a bad : Int) (w : World) : Calls Try.prog 73 #[.int .i64 a, .int .i64 bad] w fun e w' => e = .returned (.bool (eaB a bad)) ∧ w = w' := by
  have h1 := and_one bad
  unfold eaB
  by_cases ha : a ≤ 0
  · rw [decide_eq_true ha, Bool.true_or]
    have t1 := decide_eq_true ha
    go_enter Try.func73, Try.ntmps73
    go_wp2
    all_goals go_ret
    all_goals exact ⟨rfl, rfl⟩
  · rw [decide_eq_false ha, Bool.false_or]
    have t1 := decide_eq_false ha
    by_cases hb : 4095 ≤ a
    · rw [decide_eq_true hb, Bool.true_or]
      have t2 := decide_eq_true hb
      go_enter Try.func73, Try.ntmps73
      go_wp2
      all_goals go_ret
      all_goals exact ⟨rfl, rfl⟩
    · rw [decide_eq_false hb, Bool.false_or]
      have t2 := decide_eq_false hb
      rcases (by omega : bad % 2 = 0 ∨ bad % 2 = 1) with h | h
      · rw [h] at h1 ⊢
        clear h
        go_enter Try.func73, Try.ntmps73
        go_wp2
        all_goals go_ret
        all_goals exact ⟨rfl, rfl⟩
      · rw [h] at h1 ⊢
        clear h
        go_enter Try.func73, Try.ntmps73
        go_wp2
        all_goals go_ret
        all_goals exact ⟨rfl, rfl⟩
theorem ra_step (run a bad : Int) (w : World) : Calls Try.prog 63 #[.int .i64 run, .int .i64 a, .int .i64 bad] w fun e w' => e = .returned (.int .i64 (raV run a bad)) ∧ w = w' := by
  have HE := Lib.hid (fun w => ra_ended a bad w)
  unfold raV
  cases he : eaB a bad
  · rw [he] at HE
    rw [if_neg (by simp)]
    clear he
    go_enter Try.func63, Try.ntmps63
    go_wp2_with (go_at_call 73; refine (HE.out _).mono ?_; rintro e w' ⟨rfl, rfl⟩)
    all_goals go_ret
    all_goals exact ⟨rfl, rfl⟩
  · rw [he] at HE
    rw [if_pos rfl]
    clear he
    rcases (by omega : run < 0 ∨ (0 ≤ run ∧ run ≤ 1099511627776) ∨ 1099511627776 < run) with h1 | ⟨h1, h2⟩ | h1
    · rw [withR_1 h1]
      go_enter Try.func63, Try.ntmps63
      go_wp2_with (go_at_call 73; refine (HE.out _).mono ?_; rintro e w' ⟨rfl, rfl⟩)
      all_goals go_ret
      all_goals exact ⟨ret_i (by omega), rfl⟩
    · rw [withR_2 h1 h2]
      go_enter Try.func63, Try.ntmps63
      go_wp2_with (go_at_call 73; refine (HE.out _).mono ?_; rintro e w' ⟨rfl, rfl⟩)
      all_goals go_ret
      all_goals exact ⟨ret_i (by omega), rfl⟩
    · rw [withR_3 h1]
      go_enter Try.func63, Try.ntmps63
      go_wp2_with (go_at_call 73; refine (HE.out _).mono ?_; rintro e w' ⟨rfl, rfl⟩)
      all_goals go_ret
      all_goals exact ⟨ret_i (by omega), rfl⟩
theorem ra_fault (run bad : Int) (w : World) : Calls Try.prog 64 #[.int .i64 run, .int .i64 bad] w fun e w' => e = .returned (.bool (faB run bad)) ∧ w = w' := by
  unfold faB
  by_cases hb : bad = 0
  · subst hb
    go_enter Try.func64, Try.ntmps64
    go_wp2
    all_goals go_ret
    all_goals exact ⟨ret_b (by simp), rfl⟩
  · have t1 : (bad != 0) = true := by simpa using hb
    rw [decide_eq_true hb, Bool.true_or]
    go_enter Try.func64, Try.ntmps64
    go_wp2
    all_goals go_ret
    all_goals exact ⟨rfl, rfl⟩

end Go.Proofs.Ytkddledajffdbaa
