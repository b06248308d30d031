/- The law package's own check 'awake' of stage 4; what a law's walk takes of the calls. -/
import Derived.Test.YtknhejpomemilaaMake
namespace Go.Proofs.Ytknhejpomemilaa
set_option maxRecDepth 100000
open Go.RowKit
set_option linter.unusedVariables false
set_option linter.unusedSimpArgs false

theorem Ints.at_W {W w : World} {A : Option Addr} {n : Nat} {xs : List Int} (h : Ints W A n xs) (hb : At W w) : Ints w A n xs := h.below hb
theorem At.trans {a b c : World} (h : At a b) (g : At b c) : At a c := Below.trans h (g.mono h.size)

theorem ints_new (w : World) (xs : List Int) : Ints (w.alloc (.cells (xs.map (Value.int .i64)).toArray 3)) (some ⟨w.heap.size, 0, none⟩) xs.length xs := by
  refine ⟨rfl, fun _ => ⟨w.heap.size, 0, rfl, by simp, fun i hi => ?_⟩⟩
  rw [World.cell?_alloc_at _ _ _ _ (by simp)]
  simp [List.getD, List.getElem?_eq_getElem hi]

end Go.Proofs.Ytknhejpomemilaa
