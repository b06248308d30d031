/- Contracts of quot.size and quot.ratio: the quotient of the product, or a panic with the limit. -/
import Derived.Test.YthibaehiponfnaaQDivW
import Derived.Test.YthibaehiponfnaaQTold
import Derived.WalkLawsBesides
namespace Go.Proofs.Ythibaehiponfnaa
set_option maxRecDepth 100000
open Go.RowKit
set_option linter.unusedVariables false
set_option linter.unusedSimpArgs false

/-- The size of the quotient: rounded up where it is below 0. -/
def sizeQ (x y z : Int) : Int := if (x < 0 ↔ y < 0) then (x.natAbs : Int) * (y.natAbs : Int) / z else ((x.natAbs : Int) * (y.natAbs : Int) + (z - 1)) / z
theorem up_div {p d : Int} (d0 : 0 < d) : flo (-p) d = -((p + (d - 1)) / d) := by
  have e := Int.mul_ediv_add_emod (p + (d - 1)) d
  have e0 := Int.emod_nonneg (p + (d - 1)) (b := d) (by omega)
  have e1 := Int.emod_lt_of_pos (p + (d - 1)) (b := d) d0
  refine flo_unique (m := d - 1 - (p + (d - 1)) % d) ?_ (fun _ => ⟨by omega, by omega⟩) (fun h => absurd h (by omega)) (by omega)
  rw [Int.neg_mul, Int.mul_comm]; omega
theorem flo_same_sign {x y z : Int} (z0 : 0 < z) (h : x < 0 ↔ y < 0) : flo (x * y) z = (x.natAbs : Int) * (y.natAbs : Int) / z := by
  rw [abs_same h]; unfold flo; rw [if_pos z0]
theorem flo_other_sign {x y z : Int} (z0 : 0 < z) (h : ¬ (x < 0 ↔ y < 0)) : flo (x * y) z = -(((x.natAbs : Int) * (y.natAbs : Int) + (z - 1)) / z) := by
  rw [← abs_other h, up_div z0]

end Go.Proofs.Ythibaehiponfnaa
