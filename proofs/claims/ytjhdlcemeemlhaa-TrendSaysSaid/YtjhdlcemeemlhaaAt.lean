/- How a law's walk keeps the world in mind: of what was there at its beginning nothing has turned. -/
import Derived.WalkKit
import Derived.WalkSmall
import Derived.Below
import Derived.Test.YtjhdlcemeemlhaaRows
namespace Go.Proofs.Ytjhdlcemeemlhaa
set_option maxRecDepth 100000
open Go.RowKit

/-- Of what was there in W nothing has turned in w. -/
def At (W w : World) : Prop := Below W.heap.size W w
theorem At.refl (w : World) : At w w := Below.refl _ _
theorem At.draws {W w : World} (h : At W w) (n : Nat) : At W (w.drewN n) := below_drewN h n
theorem At.drew {W w : World} (h : At W w) : At W w.drew := h.draws 1
theorem At.below {W w w' : World} (h : At W w) (k : Below w.heap.size w w') : At W w' := Below.trans h (k.mono (Below.size h))
theorem At.eq {W w w' : World} (h : At W w) (k : w = w') : At W w' := k ▸ h
end Go.Proofs.Ytjhdlcemeemlhaa
