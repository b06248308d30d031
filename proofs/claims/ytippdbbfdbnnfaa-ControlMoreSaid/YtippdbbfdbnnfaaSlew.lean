/- Contracts of package slew, the document's, and the law package's own. -/
import Derived.Test.YtippdbbfdbnnfaaSat
import Derived.Test.YtippdbbfdbnnfaaBox
namespace Go.Proofs.Ytippdbbfdbnnfaa
open Go.RowKit
set_option linter.unusedVariables false
set_option linter.unusedSimpArgs false

/-- An opening that counts. -/
def fuV (n : Int) : Int := min (max n 0) 300
def slV (was want up down : Int) : Int := min (max (fuV want) (fuV was - fuV down)) (fuV was + fuV up)
theorem fu_bd (n : Int) : 0 ≤ fuV n ∧ fuV n ≤ 300 := by unfold fuV; omega

theorem sl_counted (n : Int) (w : World) : Calls Try.prog 130 #[.int .i64 n] w fun e w' => e = .returned (.int .i64 (fuV n)) ∧ w = w' := by
  unfold fuV
  go_enter Try.func130, Try.ntmps130
  go_wp2
  all_goals go_ret
  all_goals exact ⟨ret_i (by omega), rfl⟩
theorem sl_step (was want up down : Int) (w : World) : Calls Try.prog 109 #[.int .i64 was, .int .i64 want, .int .i64 up, .int .i64 down] w fun e w' => e = .returned (.int .i64 (slV was want up down)) ∧ w = w' := by
  unfold slV
  have ⟨a0, a1⟩ := fu_bd was
  have ⟨b0, b1⟩ := fu_bd want
  have ⟨c0, c1⟩ := fu_bd up
  have ⟨d0, d1⟩ := fu_bd down
  go_enter Try.func109, Try.ntmps109
  go_wp2_with (go_at_call 130; refine (sl_counted _ _).mono ?_; rintro e w' ⟨rfl, rfl⟩)
  all_goals go_ret
  all_goals exact ⟨ret_i (by omega), rfl⟩
end Go.Proofs.Ytippdbbfdbnnfaa
