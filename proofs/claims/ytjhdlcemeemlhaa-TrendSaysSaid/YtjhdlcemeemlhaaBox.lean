/- A block of the call's own that is known whole: a struct variable. It is kept over new blocks, draws, stores elsewhere and calls that turn nothing old. -/
import Derived.Test.YtjhdlcemeemlhaaTail
namespace Go.Proofs.Ytjhdlcemeemlhaa
set_option maxRecDepth 100000
open Go.RowKit
set_option linter.unusedVariables false
set_option linter.unusedSimpArgs false

/-- Block g holds just these cells, none frozen. -/
def Box (w : World) (g : Nat) (cs : Array Value) : Prop := g < w.heap.size ∧ (∀ i, w.cell? ⟨g, i, none⟩ = cs[i]?) ∧ ∀ i, w.frozen? ⟨g, i, none⟩ = false

theorem box_new (w : World) (cs : Array Value) (t : TypeId) : Box (w.alloc (.cells cs t)) w.heap.size cs := by
  refine ⟨by simp, fun i => World.cell?_alloc_at _ _ _ _ rfl, fun i => ?_⟩
  rw [frozen?_alloc_cells]
  unfold World.frozen?
  rw [Array.getElem?_eq_none (Nat.le_refl _)]
theorem box_at (w : World) (cs : Array Value) (t : TypeId) {g : Nat} (h : w.heap.size = g) : Box (w.alloc (.cells cs t)) g cs := h ▸ box_new w cs t
theorem Box.alloc {w : World} {g : Nat} {cs : Array Value} (h : Box w g cs) (o : Obj) : Box (w.alloc o) g cs :=
  ⟨by have := h.1; simp; omega, fun i => (World.cell?_alloc_lt w o _ h.1).trans (h.2.1 i), fun i => by
    have hb : Below w.heap.size w (w.alloc o) := (Below.refl _ _).alloc (Nat.le_refl _) o
    exact (hb.frozen (p := ⟨g, i, none⟩) h.1).trans (h.2.2 i)⟩
theorem Box.below {w w' : World} {g : Nat} {cs : Array Value} (h : Box w g cs) (hb : Below w.heap.size w w') : Box w' g cs :=
  ⟨Nat.lt_of_lt_of_le h.1 hb.size, fun i => (hb.cell (p := ⟨g, i, none⟩) h.1).trans (h.2.1 i), fun i => (hb.frozen (p := ⟨g, i, none⟩) h.1).trans (h.2.2 i)⟩
theorem Box.near {w : World} {g : Nat} {cs : Array Value} (h : Box w g cs) (u : Near w) : Box u.at_ g cs := h.below u.below
theorem Box.drewN {w : World} {g : Nat} {cs : Array Value} (h : Box w g cs) (n : Nat) : Box (w.drewN n) g cs := h
theorem Box.drew {w : World} {g : Nat} {cs : Array Value} (h : Box w g cs) : Box w.drew g cs := h
theorem size_setCell (w : World) (p : Addr) (v : Value) : (w.setCell p v).heap.size = w.heap.size := by simp [World.setCell]
/-- What a cell holds behind a store, whatever was there: a rule without a condition (the walk's own has one, and two stores to one block nest it too deep). -/
theorem cell_set_ite (w : World) (a b : Addr) (v : Value) : (w.setCell a v).cell? b = if a = b then (w.cell? a).map (fun _ => v) else w.cell? b := by
  by_cases h : a = b
  · subst h
    rw [if_pos rfl]
    cases hc : w.cell? a with
    | some u => exact World.cell?_setCell_same w a v hc
    | none =>
      unfold World.cell? World.setCell at *
      simp only [Array.getElem?_modify, if_true] at *
      cases hb : w.heap[a.block]? with
      | none => simp
      | some o =>
        rw [hb] at hc
        cases o with
        | cells c t r =>
          simp only [hb, Option.map_some] at *
          split at hc
          · rename_i hs; simp [hs]
          · rename_i hs
            simp only [hs]
            simp at hc ⊢
            omega
        | _ => simp
  · rw [if_neg h]
    exact World.cell?_setCell_other w a b v h
theorem Box.far {w : World} {g : Nat} {cs : Array Value} (h : Box w g cs) {p : Addr} (hp : p.block ≠ g) (v : Value) : Box (w.setCell p v) g cs :=
  ⟨by rw [size_setCell]; exact h.1, fun i => (World.cell?_setCell_other w p _ v (fun e => hp (congrArg Addr.block e))).trans (h.2.1 i), fun i => (World.frozen?_setCell _ _ _ _).trans (h.2.2 i)⟩
theorem box_far {w : World} {g : Nat} {cs : Array Value} {p : Addr} (hp : p.block ≠ g) (h : Box w g cs) (v : Value) : Box (w.setCell p v) g cs := h.far hp v
theorem Box.set {w : World} {g : Nat} {cs : Array Value} (h : Box w g cs) {i : Nat} (hi : i < cs.size) (v : Value) : Box (w.setCell ⟨g, i, none⟩ v) g (cs.setIfInBounds i v) := by
  refine ⟨by rw [size_setCell]; exact h.1, fun j => ?_, fun j => (World.frozen?_setCell _ _ _ _).trans (h.2.2 j)⟩
  by_cases e : i = j
  · subst e
    rw [World.cell?_setCell_same w _ v ((h.2.1 i).trans (Array.getElem?_eq_getElem hi))]
    simp [hi]
  · rw [World.cell?_setCell_other w _ _ v (fun k => e (congrArg Addr.off k)), h.2.1 j]
    rw [Array.getElem?_setIfInBounds_ne e]
theorem Box.one {w : World} {g : Nat} {v0 : Value} (h : Box w g #[v0]) : w.cell? ⟨g, 0, none⟩ = some v0 ∧ (∀ i, w.frozen? ⟨g, i, none⟩ = false) ∧ g < w.heap.size := ⟨h.2.1 0, h.2.2, h.1⟩
theorem Box.two {w : World} {g : Nat} {v0 v1 : Value} (h : Box w g #[v0, v1]) : w.cell? ⟨g, 0, none⟩ = some v0 ∧ w.cell? ⟨g, 1, none⟩ = some v1 ∧ (∀ i, w.frozen? ⟨g, i, none⟩ = false) ∧ g < w.heap.size := ⟨h.2.1 0, h.2.1 1, h.2.2, h.1⟩
theorem Box.three {w : World} {g : Nat} {v0 v1 v2 : Value} (h : Box w g #[v0, v1, v2]) : w.cell? ⟨g, 0, none⟩ = some v0 ∧ w.cell? ⟨g, 1, none⟩ = some v1 ∧ w.cell? ⟨g, 2, none⟩ = some v2 ∧ (∀ i, w.frozen? ⟨g, i, none⟩ = false) ∧ g < w.heap.size := ⟨h.2.1 0, h.2.1 1, h.2.1 2, h.2.2, h.1⟩
theorem Box.four {w : World} {g : Nat} {v0 v1 v2 v3 : Value} (h : Box w g #[v0, v1, v2, v3]) : w.cell? ⟨g, 0, none⟩ = some v0 ∧ w.cell? ⟨g, 1, none⟩ = some v1 ∧ w.cell? ⟨g, 2, none⟩ = some v2 ∧ w.cell? ⟨g, 3, none⟩ = some v3 ∧ (∀ i, w.frozen? ⟨g, i, none⟩ = false) ∧ g < w.heap.size := ⟨h.2.1 0, h.2.1 1, h.2.1 2, h.2.1 3, h.2.2, h.1⟩
theorem Box.two_set {w : World} {g : Nat} {a b : Value} (h : Box w g #[a, b]) (x y : Value) : Box ((w.setCell ⟨g, 0, none⟩ x).setCell ⟨g, 1, none⟩ y) g #[x, y] :=
  (h.set (i := 0) (by simp) x).set (i := 1) (by simp) y
theorem Box.one_set {w : World} {g : Nat} {a : Value} (h : Box w g #[a]) (x : Value) : Box (w.setCell ⟨g, 0, none⟩ x) g #[x] := h.set (i := 0) (by simp) x
theorem Box.three_set {w : World} {g : Nat} {a b c : Value} (h : Box w g #[a, b, c]) (x y z : Value) : Box (((w.setCell ⟨g, 0, none⟩ x).setCell ⟨g, 1, none⟩ y).setCell ⟨g, 2, none⟩ z) g #[x, y, z] :=
  ((h.set (i := 0) (by simp) x).set (i := 1) (by simp) y).set (i := 2) (by simp) z
/-- A call that turns nothing old, met in a world in which nothing of W has turned. -/
theorem below_call {W w w' : World} (h : Below W.heap.size W w) (hb : Below w.heap.size w w') : Below W.heap.size W w' := h.trans (hb.mono h.size)
end Go.Proofs.Ytjhdlcemeemlhaa
