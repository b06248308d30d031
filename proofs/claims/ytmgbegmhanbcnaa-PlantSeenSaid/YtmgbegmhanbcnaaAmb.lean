/- Contracts of package ambient, the document's, and the law package's own. -/
import Derived.Test.YtmgbegmhanbcnaaQuot
import Derived.Test.YtmgbegmhanbcnaaAt
import Derived.Test.YtmgbegmhanbcnaaLift
namespace Go.Proofs.Ytmgbegmhanbcnaa
set_option maxRecDepth 100000
open Go.RowKit
set_option linter.unusedVariables false
set_option linter.unusedSimpArgs false

def lgV (a : Int) : Int := withV a 0 4095
def cbV (b : Int) : Int := withV b 0 262080
def amS (b a : Int) : Int := cbV b + (64 * lgV a - cbV b) / 64
theorem lg_bd (a : Int) : 0 ≤ lgV a ∧ lgV a ≤ 4095 := by unfold lgV withV; split <;> (try split) <;> (try split) <;> omega
theorem cb_bd (a : Int) : 0 ≤ cbV a ∧ cbV a ≤ 262080 := by unfold cbV withV; split <;> (try split) <;> (try split) <;> omega
theorem cb_in {b : Int} (h0 : 0 ≤ b) (h1 : b ≤ 262080) : cbV b = b := by unfold cbV withV; split <;> (try split) <;> (try split) <;> omega
theorem lg_in {b : Int} (h0 : 0 ≤ b) (h1 : b ≤ 4095) : lgV b = b := by unfold lgV withV; split <;> (try split) <;> (try split) <;> omega
theorem am_bd (b a : Int) : 0 ≤ amS b a ∧ amS b a ≤ 262080 := by
  have := lg_bd a; have := cb_bd b; unfold amS; omega
theorem with_1 {n hi : Int} (h : 0 ≤ hi) (h1 : n < 0) : withV n 0 hi = 0 := by unfold withV; split <;> (try split) <;> (try split) <;> omega
theorem with_2 {n hi : Int} (h1 : 0 ≤ n) (h2 : n ≤ hi) : withV n 0 hi = n := by unfold withV; split <;> (try split) <;> (try split) <;> omega
theorem with_3 {n hi : Int} (h : 0 ≤ hi) (h1 : hi < n) : withV n 0 hi = hi := by unfold withV; split <;> (try split) <;> (try split) <;> omega
theorem flV_64 {a : Int} (a0 : -9007199254740992 ≤ a) (a1 : a ≤ 9007199254740992) : flV a 64 = a / 64 := by
  unfold flV flo; rw [clV_in (n := a) (by omega), clV_in (n := 64) (by omega)]; simp

theorem fl_at (a b : Int) (W w : World) (h : At W w) :
    Calls Try.prog 42 #[.int .i64 a, .int .i64 b] w fun e w' => e = .returned (.tuple #[.int .i64 (flV a b), .bool (nzB b)]) ∧ At W w' :=
  (quot_floor a b w).mono fun e w' ⟨he, n, hn⟩ => ⟨he, hn ▸ h.draws n⟩

theorem am_within (n hi : Int) (h : 0 ≤ hi) (w : World) : Calls Try.prog 39 #[.int .i64 n, .int .i64 hi] w fun e w' => e = .returned (.int .i64 (withV n 0 hi)) ∧ w = w' := by
  rcases (by omega : n < 0 ∨ (0 ≤ n ∧ n ≤ hi) ∨ hi < n) with h1 | ⟨h1, h2⟩ | h1
  · rw [with_1 h h1]
    go_enter Try.func39, Try.ntmps39
    go_wp2
    all_goals go_ret
    all_goals exact ⟨ret_i (by omega), rfl⟩
  · rw [with_2 h1 h2]
    go_enter Try.func39, Try.ntmps39
    go_wp2
    all_goals go_ret
    all_goals exact ⟨ret_i (by omega), rfl⟩
  · rw [with_3 h h1]
    go_enter Try.func39, Try.ntmps39
    go_wp2
    all_goals go_ret
    all_goals exact ⟨ret_i (by omega), rfl⟩
theorem am_counted (b : Int) (w : World) : Calls Try.prog 41 #[.int .i64 b] w fun e w' => e = .returned (.int .i64 (cbV b)) ∧ w = w' := by
  go_enter Try.func41, Try.ntmps41
  go_wp2_with (go_at_call 39; refine (am_within _ _ (by omega) _).mono ?_; rintro e w' ⟨rfl, rfl⟩)
  all_goals go_ret
  all_goals exact ⟨rfl, rfl⟩
theorem am_start (a : Int) (w : World) : Calls Try.prog 31 #[.int .i64 a] w fun e w' => e = .returned (.int .i64 (64 * lgV a)) ∧ w = w' := by
  have ⟨b0, b1⟩ := lg_bd a
  have HW := Lib.hid (show ∀ w, Calls Try.prog 39 #[.int .i64 a, .int .i64 4095] w fun e w' => e = .returned (.int .i64 (lgV a)) ∧ w = w' from fun w => am_within a 4095 (by omega) w)
  go_enter Try.func31, Try.ntmps31
  go_wp2_with (go_at_call 39; refine (HW.out _).mono ?_; rintro e w' ⟨rfl, rfl⟩)
  all_goals go_ret
  all_goals exact ⟨ret_i (by omega), rfl⟩
theorem am_level (b : Int) (w : World) : Calls Try.prog 33 #[.int .i64 b] w fun e w' => e = .returned (.int .i64 (cbV b / 64)) ∧ w = w' := by
  have ⟨b0, b1⟩ := cb_bd b
  go_enter Try.func33, Try.ntmps33
  go_wp2_with (go_at_call 41; refine (am_counted _ _).mono ?_; rintro e w' ⟨rfl, rfl⟩)
  all_goals go_ret
  all_goals exact ⟨ret_i (by omega), rfl⟩
theorem am_step_sh (b a : Int) (W w : World) (h : At W w) : Calls Try.prog 34 #[.int .i64 b, .int .i64 a, .bool true] w fun e w' => e = .returned (.int .i64 (cbV b)) ∧ At W w' := by
  go_enter Try.func34, Try.ntmps34
  go_wp2_with (go_at_call 41; refine (am_counted _ _).mono ?_; rintro e w' ⟨rfl, rfl⟩)
  all_goals go_ret
  all_goals exact ⟨rfl, by assumption⟩
theorem am_step_no (b a : Int) (W w : World) (h : At W w) : Calls Try.prog 34 #[.int .i64 b, .int .i64 a, .bool false] w fun e w' => e = .returned (.int .i64 (amS b a)) ∧ At W w' := by
  have ⟨b0, b1⟩ := cb_bd b
  have ⟨a0, a1⟩ := lg_bd a
  have HF := Lib.hid (show ∀ w, At W w → Calls Try.prog 42 #[.int .i64 (64 * lgV a - cbV b), .int .i64 64] w fun e w' => e = .returned (.tuple #[.int .i64 ((64 * lgV a - cbV b) / 64), .bool (nzB 64)]) ∧ At W w' from fun w h => by
    have := fl_at (64 * lgV a - cbV b) 64 W w h
    rwa [flV_64 (by omega) (by omega)] at this)
  unfold amS
  go_enter Try.func34, Try.ntmps34
  go_wp2_with (first
    | (go_at_call 41; refine (am_counted _ _).mono ?_; rintro e w' ⟨rfl, rfl⟩)
    | (go_at_call 31; refine (am_start _ _).mono ?_; rintro e w' ⟨rfl, rfl⟩)
    | (go_at_call 42; refine (HF.out _ (by assumption)).mono ?_; rintro e w' ⟨rfl, hb⟩))
  all_goals go_ret
  all_goals exact ⟨rfl, by assumption⟩

/-! ### The document's. -/
theorem ra_light (n : Int) (w : World) : Calls Try.prog 43 #[.int .i64 n] w fun e w' => e = .returned (.int .i64 (lgV n)) ∧ w = w' := by
  unfold lgV
  rcases (by omega : n < 0 ∨ (0 ≤ n ∧ n ≤ 4095) ∨ 4095 < n) with h1 | ⟨h1, h2⟩ | h1
  · rw [with_1 (by omega) h1]
    go_enter Try.func43, Try.ntmps43
    go_wp2
    all_goals go_ret
    all_goals exact ⟨ret_i (by omega), rfl⟩
  · rw [with_2 h1 h2]
    go_enter Try.func43, Try.ntmps43
    go_wp2
    all_goals go_ret
    all_goals exact ⟨ret_i (by omega), rfl⟩
  · rw [with_3 (by omega) h1]
    go_enter Try.func43, Try.ntmps43
    go_wp2
    all_goals go_ret
    all_goals exact ⟨ret_i (by omega), rfl⟩
theorem ra_held (n : Int) (w : World) : Calls Try.prog 38 #[.int .i64 n] w fun e w' => e = .returned (.int .i64 (cbV n)) ∧ w = w' := by
  unfold cbV
  rcases (by omega : n < 0 ∨ (0 ≤ n ∧ n ≤ 262080) ∨ 262080 < n) with h1 | ⟨h1, h2⟩ | h1
  · rw [with_1 (by omega) h1]
    go_enter Try.func38, Try.ntmps38
    go_wp2
    all_goals go_ret
    all_goals exact ⟨ret_i (by omega), rfl⟩
  · rw [with_2 h1 h2]
    go_enter Try.func38, Try.ntmps38
    go_wp2
    all_goals go_ret
    all_goals exact ⟨ret_i (by omega), rfl⟩
  · rw [with_3 (by omega) h1]
    go_enter Try.func38, Try.ntmps38
    go_wp2
    all_goals go_ret
    all_goals exact ⟨ret_i (by omega), rfl⟩
theorem ra_start (a : Int) (w : World) : Calls Try.prog 35 #[.int .i64 a] w fun e w' => e = .returned (.int .i64 (64 * lgV a)) ∧ w = w' := by
  have ⟨b0, b1⟩ := lg_bd a
  go_enter Try.func35, Try.ntmps35
  go_wp2_with (go_at_call 43; refine (ra_light _ _).mono ?_; rintro e w' ⟨rfl, rfl⟩)
  all_goals go_ret
  all_goals exact ⟨ret_i (by omega), rfl⟩
theorem ra_level (b : Int) (w : World) : Calls Try.prog 26 #[.int .i64 b] w fun e w' => e = .returned (.int .i64 (cbV b / 64)) ∧ w = w' := by
  have ⟨b0, b1⟩ := cb_bd b
  go_enter Try.func26, Try.ntmps26
  go_wp2_with (go_at_call 38; refine (ra_held _ _).mono ?_; rintro e w' ⟨rfl, rfl⟩)
  all_goals go_ret
  all_goals exact ⟨ret_i (by omega), rfl⟩
theorem ra_step_sh (b a : Int) (w : World) : Calls Try.prog 37 #[.int .i64 b, .int .i64 a, .bool true] w fun e w' => e = .returned (.int .i64 (cbV b)) ∧ w = w' := by
  go_enter Try.func37, Try.ntmps37
  go_wp2_with (go_at_call 38; refine (ra_held _ _).mono ?_; rintro e w' ⟨rfl, rfl⟩)
  all_goals go_ret
  all_goals exact ⟨rfl, rfl⟩
theorem ra_step_no (b a : Int) (w : World) : Calls Try.prog 37 #[.int .i64 b, .int .i64 a, .bool false] w fun e w' => e = .returned (.int .i64 (amS b a)) ∧ w = w' := by
  have ⟨b0, b1⟩ := cb_bd b
  have ⟨a0, a1⟩ := lg_bd a
  have HF := Lib.hid (show ∀ w, Calls Try.prog 45 #[.int .i64 (64 * lgV a - cbV b), .int .i64 64] w fun e w' => e = .returned (.tuple #[.int .i64 ((64 * lgV a - cbV b) / 64), .bool (nzB 64)]) ∧ w = w' from fun w => by
    have := ref2_floor (64 * lgV a - cbV b) 64 w
    rwa [flV_64 (by omega) (by omega)] at this)
  unfold amS
  go_enter Try.func37, Try.ntmps37
  go_wp2_with (first
    | (go_at_call 38; refine (ra_held _ _).mono ?_; rintro e w' ⟨rfl, rfl⟩)
    | (go_at_call 43; refine (ra_light _ _).mono ?_; rintro e w' ⟨rfl, rfl⟩)
    | (go_at_call 45; refine (HF.out _).mono ?_; rintro e w' ⟨rfl, rfl⟩))
  all_goals go_ret
  all_goals exact ⟨rfl, rfl⟩

end Go.Proofs.Ytmgbegmhanbcnaa
