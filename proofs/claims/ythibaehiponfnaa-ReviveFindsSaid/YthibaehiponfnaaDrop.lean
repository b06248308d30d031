/- Contracts of package dropset, of arguments within what the laws take; and the law package's own. -/
import Derived.Test.YthibaehiponfnaaQLaw
import Derived.Test.YthibaehiponfnaaLift
namespace Go.Proofs.Ythibaehiponfnaa
set_option maxRecDepth 100000
open Go.RowKit
set_option linter.unusedVariables false
set_option linter.unusedSimpArgs false

/-- A set that is known. -/
def Kn (f : Int) : Prop := f = 10 ∨ f = 15 ∨ f = 20 ∨ f = 60
theorem clV_lit {n : Int} (h0 : -9007199254740992 ≤ n) (h1 : n ≤ 9007199254740992) : clV n = n := clV_in (by omega)
theorem flo_pos {x y : Int} (hy : 0 < y) : flo x y = x / y := by unfold flo; rw [if_pos hy]
theorem flV_small {a b : Int} (a0 : -9007199254740992 ≤ a) (a1 : a ≤ 9007199254740992) (b0 : 0 < b) (b1 : b ≤ 9007199254740992) : flV a b = a / b := by
  unfold flV; rw [clV_lit a0 a1, clV_lit (by omega) b1, if_neg (by omega), flo_pos b0]
theorem nzB_small {b : Int} (b0 : 0 < b) (b1 : b ≤ 9007199254740992) : nzB b = true := by
  unfold nzB; rw [clV_lit (by omega) b1]; simp; omega
theorem mq_small {a b c : Int} (a0 : -9007199254740992 ≤ a) (a1 : a ≤ 9007199254740992) (b0 : -9007199254740992 ≤ b) (b1 : b ≤ 9007199254740992) (c0 : 0 < c) (c1 : c ≤ 9007199254740992)
    (h0 : -9007199254740992 ≤ a * b / c) (h1 : a * b / c ≤ 9007199254740992) : mqV a b c = a * b / c ∧ mqE a b c = 0 := by
  unfold mqV mqE
  rw [clV_lit a0 a1, clV_lit b0 b1, clV_lit (by omega) c1, if_neg (by omega), if_neg (by omega), flo_pos c0, clV_lit h0 h1, clB_in (by omega)]
  exact ⟨rfl, rfl⟩

theorem ds_known (f : Int) (hf : Kn f) (w : World) :
    Calls Try.prog 25 #[.int .i64 f] w fun e w' => e = .returned (.bool true) ∧ w = w' := by
  rcases hf with rfl | rfl | rfl | rfl
  all_goals
    go_enter Try.func25, Try.ntmps25
    go_wp2
    all_goals go_ret
    all_goals exact ⟨rfl, rfl⟩
theorem ds_known_not (f : Int) (h0 : (f == 10) = false) (h1 : (f == 15) = false) (h2 : (f == 20) = false) (h3 : (f == 60) = false) (w : World) :
    Calls Try.prog 25 #[.int .i64 f] w fun e w' => e = .returned (.bool false) ∧ w = w' := by
  go_enter Try.func25, Try.ntmps25
  go_wp2
  all_goals go_ret
  all_goals exact ⟨rfl, rfl⟩

theorem hour_in {r f : Int} (hf : Kn f) (r0 : 1 ≤ r) (r1 : r ≤ 1000) : 10 ≤ r * f ∧ r * f ≤ 60000 := by rcases hf with rfl | rfl | rfl | rfl <;> omega

/-! ### The law package's own. -/
def setV (k : Nat) : Int := if k % 4 = 0 then 10 else if k % 4 = 1 then 15 else if k % 4 = 2 then 20 else 60
theorem set_kn (k : Nat) : Kn (setV k) := by unfold Kn setV; split <;> (try split) <;> (try split) <;> simp
end Go.Proofs.Ythibaehiponfnaa
