/- Contracts of package quot but for MulDiv, and of the document's answers for it. -/
import Derived.Test.YthibaehiponfnaaQMath
import Derived.Test.YthibaehiponfnaaSatLaws
namespace Go.Proofs.Ythibaehiponfnaa
set_option maxRecDepth 100000
open Go.RowKit
set_option linter.unusedVariables false
set_option linter.unusedSimpArgs false

theorem nzB_t {b : Int} (h : clV b = 0) : nzB b = false := by simp [nzB, h]
theorem nzB_f {b : Int} (h : ¬ clV b = 0) : nzB b = true := by simp [nzB, h]

theorem mul_back {x y : Int} (hy : y ≠ 0) : (flo x y * y).natAbs ≤ x.natAbs + y.natAbs := by
  obtain ⟨m, a, b, c⟩ := flo_spec x hy
  by_cases h : 0 < y
  · have := b h; omega
  · have := c (by omega); omega

/-! ### The document's answers. -/
end Go.Proofs.Ythibaehiponfnaa
