/- Contracts of package slew, the document's, and the law package's own. -/
import Derived.Test.YtbglkokdnkcknaaSat
import Derived.Test.YtbglkokdnkcknaaBox
namespace Go.Proofs.Ytbglkokdnkcknaa
open Go.RowKit
set_option linter.unusedVariables false

/-- An opening that counts. -/
def fuV (n : Int) : Int := min (max n 0) 300
def slV (was want up down : Int) : Int := min (max (fuV want) (fuV was - fuV down)) (fuV was + fuV up)
theorem fu_bd (n : Int) : 0 ≤ fuV n ∧ fuV n ≤ 300 := by unfold fuV; omega

theorem sl_counted (n : Int) (w : World) : Calls Try.prog 43 #[.int .i64 n] w fun e w' => e = .returned (.int .i64 (fuV n)) ∧ w = w' := by
  unfold fuV
  go_enter Try.func43, Try.ntmps43
  go_wp2
  all_goals go_ret
  all_goals exact ⟨ret_i (by omega), rfl⟩
theorem rs_rest (n : Int) (w : World) : Calls Try.prog 44 #[.int .i64 n] w fun e w' => e = .returned (.int .i64 (fuV n)) ∧ w = w' := by
  unfold fuV
  go_enter Try.func44, Try.ntmps44
  go_wp2
  all_goals go_ret
  all_goals exact ⟨ret_i (by omega), rfl⟩
theorem sl_step (was want up down : Int) (w : World) : Calls Try.prog 14 #[.int .i64 was, .int .i64 want, .int .i64 up, .int .i64 down] w fun e w' => e = .returned (.int .i64 (slV was want up down)) ∧ w = w' := by
  unfold slV
  have ⟨a0, a1⟩ := fu_bd was
  have ⟨b0, b1⟩ := fu_bd want
  have ⟨c0, c1⟩ := fu_bd up
  have ⟨d0, d1⟩ := fu_bd down
  go_enter Try.func14, Try.ntmps14
  go_wp2_with (go_at_call 43; refine (sl_counted _ _).mono ?_; rintro e w' ⟨rfl, rfl⟩)
  all_goals go_ret
  all_goals exact ⟨ret_i (by omega), rfl⟩
theorem rs_step (was want up down : Int) (w : World) : Calls Try.prog 15 #[.int .i64 was, .int .i64 want, .int .i64 up, .int .i64 down] w fun e w' => e = .returned (.int .i64 (slV was want up down)) ∧ w = w' := by
  unfold slV
  have ⟨a0, a1⟩ := fu_bd was
  have ⟨b0, b1⟩ := fu_bd want
  have ⟨c0, c1⟩ := fu_bd up
  have ⟨d0, d1⟩ := fu_bd down
  go_enter Try.func15, Try.ntmps15
  go_wp2_with (go_at_call 44; refine (rs_rest _ _).mono ?_; rintro e w' ⟨rfl, rfl⟩)
  all_goals go_ret
  all_goals exact ⟨ret_i (by omega), rfl⟩
theorem law28_awake (w : World) : Calls Try.prog 16 #[] w fun e w' => e = .returned (.bool true) ∧ w = w' := by
  have e1 : slV 10 50 8 30 = 18 := by decide +kernel
  have e2 : slV 50 10 8 30 = 20 := by decide +kernel
  have e3 : slV 10 12 8 30 = 12 := by decide +kernel
  have e4 : slV 400 900 1 1 = 300 := by decide +kernel
  go_enter Try.func16, Try.ntmps16
  go_wp2_with (go_at_call 14; refine (sl_step _ _ _ _ _).mono ?_; rintro e w' ⟨rfl, rfl⟩)
  all_goals go_ret
  all_goals exact ⟨rfl, rfl⟩
end Go.Proofs.Ytbglkokdnkcknaa
