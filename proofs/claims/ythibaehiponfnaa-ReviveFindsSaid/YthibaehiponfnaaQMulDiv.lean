/- Contract of quot.MulDiv: a panic of ratio is recovered, and told as the limit and ErrBig. -/
import Derived.Test.YthibaehiponfnaaQRatio
import Derived.Defers
import Derived.Recover
import Derived.Laws.Pointers
namespace Go.Proofs.Ythibaehiponfnaa
set_option maxRecDepth 100000
open Go.RowKit
set_option linter.unusedVariables false
set_option linter.unusedSimpArgs false

theorem at_drewN {B : Nat} {a w : World} (h : Below B a w) (n : Nat) : Below B a (w.drewN n) := h.trans ⟨rfl, rfl, rfl, Nat.le_refl _, fun _ _ => rfl⟩
theorem clV_same {n : Int} (h : clB n = false) : clV n = n := by
  refine clV_in ?_
  unfold clB withB at h; simp at h; omega

end Go.Proofs.Ythibaehiponfnaa
