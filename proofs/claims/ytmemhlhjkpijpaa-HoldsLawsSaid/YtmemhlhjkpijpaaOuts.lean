/- What ticks have told, as it lies. -/
import Derived.Test.YtmemhlhjkpijpaaMonD
namespace Go.Proofs.Ytmemhlhjkpijpaa
open Go.RowKit
set_option linter.unusedVariables false
set_option linter.unusedSimpArgs false
set_option maxRecDepth 100000

/-- What ticks have told, as it lies; nil let in. -/
def Outs (w : World) (A : Option Addr) (m : Nat) (os : Nat → Ou) : Prop :=
  0 < m → ∃ b off, A = some ⟨b, off, none⟩ ∧ b < w.heap.size ∧ ∀ i, i < m → ∀ j, j < 11 → w.cell? ⟨b, off + i * 11 + j, none⟩ = (os i).cells[j]?
theorem Outs.below {w w' : World} {A : Option Addr} {m : Nat} {os : Nat → Ou} (h : Outs w A m os) (hb : Below w.heap.size w w') : Outs w' A m os := fun h0 => by
  obtain ⟨b, off, e, hl, hc⟩ := h h0
  exact ⟨b, off, e, Nat.lt_of_lt_of_le hl hb.size, fun i hi j hj => (hb.cell (p := ⟨b, off + i * 11 + j, none⟩) hl).trans (hc i hi j hj)⟩
end Go.Proofs.Ytmemhlhjkpijpaa
