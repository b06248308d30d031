/- The lists that ring.Last and the document make anew. -/
import Derived.Test.YthijabhnmjbboaaRead
import Derived.Deep.OwnRows
namespace Go.Proofs.Ythijabhnmjbboaa
open Go.RowKit
set_option linter.unusedVariables false
set_option linter.unusedSimpArgs false

theorem drop_take_step (xs : List Int) (r j : Nat) (h : r + j < xs.length) : (xs.drop r).take (j + 1) = (xs.drop r).take j ++ [xs.getD (r + j) 0] := by
  rw [List.take_add_one]
  congr 1
  rw [List.getElem?_drop, List.getElem?_eq_getElem h]
  simp [List.getD, List.getElem?_eq_getElem h]

/-- A list of numbers that is the call's own, and not nil. -/
def OwnSome (w : World) (ys : List Int) (e : Ending) (w' : World) : Prop :=
  ∃ g d, e = .returned (.slice (some ⟨g, 0, none⟩) ys.length d) ∧ w'.ownsRow w.heap.size 3 1 (.slice (some ⟨g, 0, none⟩) ys.length d) ys.length (ys.map (Value.int .i64)) ∧ Below w.heap.size w w'
theorem OwnSome.own {w w' : World} {e : Ending} {ys : List Int} (h : OwnSome w ys e w') : OwnInts w ys e w' := by
  obtain ⟨g, d, he, ho, hb⟩ := h; exact ⟨_, he, ho, hb⟩
/-- What the document has put together of a list so far. -/
def Sofar (w : World) (xs : List Int) (r : Nat) (v : Value) (j : Nat) (wr : World) : Prop :=
  (∃ B d, v = .slice B j d ∧ j ≤ d) ∧ wr.ownsRow w.heap.size 3 1 v j (((xs.drop r).take j).map (Value.int .i64)) ∧ Below w.heap.size w wr
theorem Sofar.start (w : World) (xs : List Int) (r : Nat) : Sofar w xs r (.slice none 0 0) 0 w :=
  ⟨⟨none, 0, rfl, Nat.le_refl _⟩, by simpa using World.ownsRow_nil w w.heap.size 3 1, Below.refl _ _⟩
theorem Sofar.form {w wr : World} {xs : List Int} {r j : Nat} {v : Value} (h : Sofar w xs r v j wr) : ∃ B d, v = .slice B j d := by
  obtain ⟨⟨B, d, rfl, _⟩, _⟩ := h; exact ⟨B, d, rfl⟩
theorem Sofar.next {w wr w1 : World} {xs : List Int} {r j : Nat} {v v' : Value} {x : Int} {cs : Obj} (h : Sofar w xs r v j wr) (hj : r + j < xs.length) (hx : xs.getD (r + j) 0 = x)
    (ho : w1.ownsRow w.heap.size 3 1 v' (j + 1) (((xs.drop r).take j).map (Value.int .i64) ++ [.int .i64 x])) (hg : (wr.alloc cs).grownBy w1 v.ownBlock) : Sofar w xs r v' (j + 1) w1 := by
  obtain ⟨_, hown, hb⟩ := h
  refine ⟨own_form ho, ?_, (hb.alloc hb.size _).grown hg (by have := hb.size; simp; omega) (fun g hg => by have := (hown.lt g hg).1; omega)⟩
  rw [drop_take_step xs r j hj, hx]
  simpa using ho
theorem Sofar.done {w wr : World} {xs : List Int} {r n : Nat} {v : Value} (h : Sofar w xs r v (n - r) wr) (hl : xs.length = n) : NewInts w (xs.drop r) (.returned v) wr := by
  obtain ⟨_, hown, hb⟩ := h
  rw [List.take_of_length_le (by simp; omega)] at hown
  exact NewInts.of_own hown (by simp; omega) hb
theorem Sofar.done1 {w wr w1 : World} {xs : List Int} {r n : Nat} {v v' : Value} {x : Int} {cs : Obj} (h : Sofar w xs r v (n - r) wr) (hl : xs.length = n)
    (ho : w1.ownsRow w.heap.size 3 1 v' (n - r + 1) (((xs.drop r).take (n - r)).map (Value.int .i64) ++ [.int .i64 x])) (hg : (wr.alloc cs).grownBy w1 v.ownBlock) : NewInts w (xs.drop r ++ [x]) (.returned v') w1 := by
  obtain ⟨_, hown, hb⟩ := h
  rw [List.take_of_length_le (by simp; omega)] at ho
  exact NewInts.of_own (n := n - r + 1) (by simpa using ho) (by simp; omega) ((hb.alloc hb.size _).grown hg (by have := hb.size; simp; omega) (fun g hg => by have := (hown.lt g hg).1; omega))

end Go.Proofs.Ythijabhnmjbboaa
