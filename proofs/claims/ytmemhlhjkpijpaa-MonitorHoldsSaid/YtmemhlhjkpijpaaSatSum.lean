/- sat.Sum and the document's Sum over a slice that reads as a list; the law package's own check 'awake' answers true. -/
import Derived.Test.YtmemhlhjkpijpaaSatLaws
import Derived.Test.YtmemhlhjkpijpaaLift
namespace Go.Proofs.Ytmemhlhjkpijpaa
set_option maxRecDepth 100000
open Go.RowKit
set_option linter.unusedVariables false
set_option linter.unusedSimpArgs false

def sumP : List Int → Int × Bool := fun l => l.foldl (fun s n => (addV s.1 n, s.2 || addB s.1 n)) (0, false)
def sumV (l : List Int) : Int := (sumP l).1
def sumsB (l : List Int) : Bool := (sumP l).2
theorem sumP_step (xs : List Int) (k : Nat) (hk : k < xs.length) : sumP (xs.take (k + 1)) = (addV (sumV (xs.take k)) (xs.getD k 0), sumsB (xs.take k) || addB (sumV (xs.take k)) (xs.getD k 0)) := by
  unfold sumV sumsB sumP
  rw [List.take_add_one, List.foldl_append]
  simp [List.getD, List.getElem?_eq_getElem hk]
theorem sumV_step (xs : List Int) (k : Nat) (hk : k < xs.length) : sumV (xs.take (k + 1)) = addV (sumV (xs.take k)) (xs.getD k 0) := by
  show (sumP _).1 = _; rw [sumP_step xs k hk]
theorem sumB_step (xs : List Int) (k : Nat) (hk : k < xs.length) : sumsB (xs.take (k + 1)) = (sumsB (xs.take k) || addB (sumV (xs.take k)) (xs.getD k 0)) := by
  show (sumP _).2 = _; rw [sumP_step xs k hk]

theorem ints_lit (w : World) : Ints (w.alloc (.cells #[.int .i64 1, .int .i64 2, .int .i64 3] 3)) (some ⟨w.heap.size, 0, none⟩) 3 [1, 2, 3] := by
  refine ⟨rfl, fun _ => ⟨w.heap.size, 0, rfl, by simp, fun i hi => ?_⟩⟩
  rw [World.cell?_alloc_at _ _ _ _ rfl]
  match i, hi with
  | 0, _ => rfl
  | 1, _ => rfl
  | 2, _ => rfl

end Go.Proofs.Ytmemhlhjkpijpaa
