/- A []int of the call's own, grown by append. -/
import Derived.Test.YthibaehiponfnaaApp
import Derived.Deep.OwnRows
namespace Go.Proofs.Ythibaehiponfnaa
set_option maxRecDepth 100000
open Go.RowKit
set_option linter.unusedVariables false
set_option linter.unusedSimpArgs false

/-- A list that a call has put together so far. -/
def Grown (w : World) (ys : List Int) (v : Value) (wr : World) : Prop :=
  (∃ B d, v = .slice B ys.length d ∧ ys.length ≤ d) ∧ wr.ownsRow w.heap.size 3 1 v ys.length (ys.map (Value.int .i64)) ∧ Below w.heap.size w wr
theorem Grown.form {w wr : World} {ys : List Int} {v : Value} (h : Grown w ys v wr) : ∃ B d, v = .slice B ys.length d ∧ ys.length ≤ d ∧ Ints wr B ys.length ys := by
  obtain ⟨⟨B, d, rfl, hd⟩, ho, _⟩ := h; exact ⟨B, d, rfl, hd, Ints.of_own ho rfl⟩
theorem Grown.nil (w : World) : Grown w [] (.slice none 0 0) w :=
  ⟨⟨none, 0, rfl, Nat.le_refl _⟩, by simpa using World.ownsRow_nil w w.heap.size 3 1, Below.refl _ _⟩
theorem Grown.empty (w : World) : Grown w [] (.slice (some ⟨w.heap.size, 0, none⟩) 0 0) (w.alloc (.cells #[] 3)) :=
  ⟨⟨_, 0, rfl, Nat.le_refl _⟩, World.ownsRow_lit w #[] 0 (Nat.le_refl _) (Nat.zero_le _) rfl, (Below.refl _ _).alloc (Nat.le_refl _) _⟩
theorem Grown.next {w wr w1 : World} {ys : List Int} {v v' : Value} {x : Int} {cs : Obj} (h : Grown w ys v wr)
    (ho : w1.ownsRow w.heap.size 3 1 v' (ys.length + 1) (ys.map (Value.int .i64) ++ [.int .i64 x])) (hg : (wr.alloc cs).grownBy w1 v.ownBlock) : Grown w (ys ++ [x]) v' w1 := by
  obtain ⟨_, hown, hb⟩ := h
  refine ⟨by simpa using own_form ho, by simpa using ho, (hb.alloc hb.size _).grown hg (by have := hb.size; simp; omega) (fun g hg => by have := (hown.lt g hg).1; omega)⟩

theorem Grown.below {w wr w1 : World} {ys : List Int} {v : Value} (h : Grown w ys v wr) (hb : Below wr.heap.size wr w1) : Grown w ys v w1 := by
  refine ⟨h.1, ⟨h.2.1.1, ?_⟩, Below.trans h.2.2 (hb.mono h.2.2.size)⟩
  rcases h.2.1.2 with h2 | ⟨g, cap, cur, hv, hg, hh, r⟩
  · exact .inl h2
  · exact .inr ⟨g, cap, cur, hv, hg, by rw [hb.block g (Array.getElem?_eq_some_iff.1 hh).1]; exact hh, r⟩
end Go.Proofs.Ythibaehiponfnaa
