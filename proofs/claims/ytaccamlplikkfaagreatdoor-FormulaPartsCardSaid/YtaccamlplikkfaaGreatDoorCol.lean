/- A made list: what stands in each of its places. -/
import Derived.Test.YtaccamlplikkfaaGreatDoorApp
import Derived.Test.YtaccamlplikkfaaGreatDoorTruths
import Derived.Test.YtaccamlplikkfaaGreatDoorCalm
import Derived.Test.YtaccamlplikkfaaGreatDoorLeaf
import Derived.Test.YtaccamlplikkfaaGreatDoorBox
namespace Go.Proofs.YtaccamlplikkfaaGreatDoor
set_option maxRecDepth 100000
open Go.RowKit
set_option linter.unusedVariables false
set_option linter.unusedSimpArgs false

/-- A made list: what stands in each place. -/
structure Col (w : World) (g n : Nat) (F : Nat → Value) : Prop where
  lt : g < w.heap.size
  cell : ∀ i, i < n → w.cell? ⟨g, i, none⟩ = some (F i)
  frz : ∀ i, w.frozen? ⟨g, i, none⟩ = false
namespace Col
variable {w w' : World} {g n : Nat} {F G : Nat → Value}
theorem below (h : Col w g n F) (hb : Below w.heap.size w w') : Col w' g n F :=
  ⟨Nat.lt_of_lt_of_le h.lt hb.size, fun i hi => (hb.cell (p := ⟨g, i, none⟩) h.lt).trans (h.cell i hi), fun i => (hb.frozen (p := ⟨g, i, none⟩) h.lt).trans (h.frz i)⟩
theorem alloc (h : Col w g n F) (o : Obj) : Col (w.alloc o) g n F := h.below (below_alloc_on (Below.refl _ _) o)
theorem drew (h : Col w g n F) : Col w.drew g n F := ⟨h.lt, h.cell, h.frz⟩
theorem far (h : Col w g n F) {p : Addr} (hp : p.block ≠ g) (v : Value) : Col (w.setCell p v) g n F :=
  ⟨by rw [size_setCell]; exact h.lt, fun i hi => (World.cell?_setCell_other w p _ v (fun e => hp (congrArg Addr.block e))).trans (h.cell i hi), fun i => (World.frozen?_setCell _ _ _ _).trans (h.frz i)⟩
theorem set (h : Col w g n F) {k : Nat} (hk : k < n) (v : Value) : Col (w.setCell ⟨g, k, none⟩ v) g n (fun i => if i = k then v else F i) := by
  refine ⟨by rw [size_setCell]; exact h.lt, fun i hi => ?_, fun i => (World.frozen?_setCell _ _ _ _).trans (h.frz i)⟩
  by_cases e : i = k
  · subst e
    rw [if_pos rfl, World.cell?_setCell_same w _ _ (h.cell i hi)]
  · rw [if_neg e, World.cell?_setCell_other w _ _ _ (fun q => e (by have := congrArg Addr.off q; simp at this; omega))]
    exact h.cell i hi
theorem congr (h : Col w g n F) (e : ∀ i, i < n → F i = G i) : Col w g n G := ⟨h.lt, fun i hi => by rw [← e i hi]; exact h.cell i hi, h.frz⟩
end Col
theorem col_new (w : World) (n : Nat) (z : Value) (t : TypeId) : Col (w.alloc (.cells (madeCells #[z] n) t)) w.heap.size n (fun _ => z) := by
  refine ⟨by simp, fun i hi => ?_, fun i => ?_⟩
  · rw [World.cell?_alloc_at _ _ _ _ rfl]
    unfold madeCells
    rw [Array.getElem?_map, Array.getElem?_range, if_pos hi]
    simp [Nat.mod_one]
  · rw [frozen?_alloc_cells]
    unfold World.frozen?
    rw [Array.getElem?_eq_none (Nat.le_refl _)]
theorem col_at {w : World} {n g : Nat} {z : Value} {t : TypeId} (h : w.heap.size = g) : Col (w.alloc (.cells (madeCells #[z] n) t)) g n (fun _ => z) := h ▸ col_new w n z t
theorem Col.ints {w : World} {g n : Nat} {f : Nat → Int} (h : Col w g n (fun i => .int .i64 (f i))) : Ints w (some ⟨g, 0, none⟩) n ((List.range n).map f) := by
  refine ⟨by simp, fun _ => ⟨g, 0, rfl, h.lt, fun i hi => ?_⟩⟩
  rw [Nat.zero_add, h.cell i hi]
  simp [List.getD, hi]
theorem Col.truths {w : World} {g n : Nat} {f : Nat → Bool} (h : Col w g n (fun i => .bool (f i))) : Truths w (some ⟨g, 0, none⟩) n ((List.range n).map f) := by
  refine ⟨by simp, fun _ => ⟨g, 0, rfl, h.lt, fun i hi => ?_⟩⟩
  rw [Nat.zero_add, h.cell i hi]
  simp [List.getD, hi]

theorem Col.of_block {w w' : World} {g n : Nat} {F : Nat → Value} (h : Col w g n F) (e : w'.heap[g]? = w.heap[g]?) : Col w' g n F := by
  refine ⟨?_, fun i hi => ?_, fun i => ?_⟩
  · have h1 := h.lt
    rw [Array.getElem?_eq_getElem h1] at e
    exact (Array.getElem?_eq_some_iff.1 e).1
  · rw [← h.cell i hi]; unfold World.cell?; rw [e]
  · rw [← h.frz i]; unfold World.frozen?; rw [e]
theorem Col.grown {w1 wr : World} {g n : Nat} {F : Nat → Value} {v : Value} {o : Obj} (h : Col wr g n F) (hv : v.ownBlock ≠ some g) (hg : (wr.alloc o).grownBy w1 v.ownBlock) : Col w1 g n F :=
  (h.alloc o).of_block (hg.block g (by have := h.lt; simp; omega) (fun e => hv e.symm))
end Go.Proofs.YtaccamlplikkfaaGreatDoor
