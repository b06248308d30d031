/- For a drawn region with free allocs ('go_region_held3'): a block that is known whole, while nothing of W has turned, as ONE fact that is no '∧' to the region's tactics. -/
import Derived.Test.YthibaehiponfnaaBox
import Derived.Deep.RegionHeld3
import Derived.Deep.DrawnRows
namespace Go.Proofs.Ythibaehiponfnaa
set_option maxRecDepth 100000
open Go.RowKit
set_option linter.unusedVariables false
set_option linter.unusedSimpArgs false

/-- Block g is known whole, and nothing of W has turned. -/
structure Bx (W : World) (g : Nat) (cs : Array Value) (w : World) : Prop where
  box : Box w g cs
  bel : Below W.heap.size W w
  old : W.heap.size ≤ g
namespace Bx
variable {W w w' : World} {g : Nat} {cs : Array Value}
theorem call (h : Bx W g cs w) (hb : Below w.heap.size w w') : Bx W g cs w' := ⟨h.box.below hb, below_call h.bel hb, h.old⟩
theorem drew (h : Bx W g cs w) : Bx W g cs w.drew := ⟨h.box, Below.drew h.bel, h.old⟩
theorem alloc (h : Bx W g cs w) (o : Obj) : Bx W g cs (w.alloc o) := ⟨h.box.alloc o, below_alloc_on h.bel o, h.old⟩
theorem far (h : Bx W g cs w) {p : Addr} (hp : g < p.block) (v : Value) : Bx W g cs (w.setCell p v) := ⟨h.box.far (by omega) v, below_set_on h.bel (by have := h.old; omega) _, h.old⟩
theorem far2 (h : Bx W g cs w) {p : Addr} (hp : p.block ≠ g) (ho : W.heap.size ≤ p.block) (v : Value) : Bx W g cs (w.setCell p v) := ⟨h.box.far hp v, below_set_on h.bel ho _, h.old⟩
theorem cell (h : Bx W g cs w) (i : Nat) (v : Value) (hv : cs[i]? = some v) : w.cell? ⟨g, i, none⟩ = some v := (h.box.2.1 i).trans hv
theorem lt (h : Bx W g cs w) : g < w.heap.size := h.box.1
end Bx
theorem kp_mk {W w : World} {g : Nat} {v0 v1 v2 : Value} (h : Bx W g #[v0, v1, v2] w) :
    w.cell? ⟨g, 0, none⟩ = some v0 ∧ w.cell? ⟨g, 1, none⟩ = some v1 ∧ w.cell? ⟨g, 2, none⟩ = some v2 ∧ g < w.heap.size ∧ Bx W g #[v0, v1, v2] w :=
  ⟨h.box.three.1, h.box.three.2.1, h.box.three.2.2.1, h.box.1, h⟩
theorem kp_out {W w : World} {g : Nat} {v0 v1 v2 : Value} (h : w.cell? ⟨g, 0, none⟩ = some v0 ∧ w.cell? ⟨g, 1, none⟩ = some v1 ∧ w.cell? ⟨g, 2, none⟩ = some v2 ∧ g < w.heap.size ∧ Bx W g #[v0, v1, v2] w) :
    Bx W g #[v0, v1, v2] w := h.2.2.2.2
end Go.Proofs.Ythibaehiponfnaa
