/- Three lists of the call's own that grow side by side: one of numbers, two of truths; and a struct variable beside them. -/
import Derived.Test.YtaccamlplikkfaaGreatDoorApp
import Derived.Test.YtaccamlplikkfaaGreatDoorTruths
import Derived.Test.YtaccamlplikkfaaGreatDoorBox
import Derived.Maps.AppendAt
namespace Go.Proofs.YtaccamlplikkfaaGreatDoor
set_option maxRecDepth 100000
open Go.RowKit
set_option linter.unusedVariables false
set_option linter.unusedSimpArgs false

/-- Two values that don't lie in one block. -/
def Ap (a b : Value) : Prop := ∀ g, a.ownBlock = some g → b.ownBlock = some g → False
theorem Ap.symm {a b : Value} (h : Ap a b) : Ap b a := fun g h1 h2 => h g h2 h1
theorem Ap.ne {a b : Value} (h : Ap a b) : a.ownBlock = none ∨ a.ownBlock ≠ b.ownBlock := by
  cases ha : a.ownBlock with
  | none => exact .inl rfl
  | some g => exact .inr (fun e => h g ha e.symm)
theorem Ap.moved {a b b' : Value} {N : Nat} (h : Ap a b) (hb : b'.ownBlock = b.ownBlock ∨ b'.ownBlock = some N) (ha : ∀ g, a.ownBlock = some g → g < N) : Ap a b' := fun g h1 h2 => by
  rcases hb with e | e
  · exact h g h1 (e ▸ h2)
  · rw [e] at h2
    cases h2
    exact absurd (ha _ h1) (Nat.lt_irrefl _)

structure Tri (w wr : World) (vl vd vs : Value) (L : List Int) (D S : List Bool) : Prop where
  l : wr.ownsRow w.heap.size 3 1 vl L.length (L.map (Value.int .i64))
  d : wr.ownsRow w.heap.size 4 1 vd D.length (D.map Value.bool)
  s : wr.ownsRow w.heap.size 4 1 vs S.length (S.map Value.bool)
  ld : Ap vl vd
  ls : Ap vl vs
  ds : Ap vd vs
  bel : Below w.heap.size w wr
namespace Tri
variable {w wr w1 : World} {vl vd vs : Value} {L : List Int} {D S : List Bool}
theorem nil (w : World) : Tri w w (.slice none 0 0) (.slice none 0 0) (.slice none 0 0) [] [] [] :=
  ⟨World.ownsRow_nil _ _ _ _, World.ownsRow_nil _ _ _ _, World.ownsRow_nil _ _ _ _, (fun g h => nomatch h), (fun g h => nomatch h), (fun g h => nomatch h), Below.refl _ _⟩
theorem below (h : Tri w wr vl vd vs L D S) (hb : Below wr.heap.size wr w1) : Tri w w1 vl vd vs L D S := by
  have hl : ∀ {e sz n v cs}, wr.ownsRow w.heap.size e sz v n cs → w1.ownsRow w.heap.size e sz v n cs := fun {e sz n v cs} h => by
    refine ⟨h.1, ?_⟩
    rcases h.2 with h2 | ⟨g, cap, cur, hv, hg, hh, r⟩
    · exact .inl h2
    · exact .inr ⟨g, cap, cur, hv, hg, by rw [hb.block g (Array.getElem?_eq_some_iff.1 hh).1]; exact hh, r⟩
  exact ⟨hl h.l, hl h.d, hl h.s, h.ld, h.ls, h.ds, Below.trans h.bel (hb.mono h.bel.size)⟩
theorem bel_next {base : World} {v : Value} {o : Obj} {e n : Nat} {cs : List Value} (hb : Below base.heap.size base wr) (ho : wr.ownsRow base.heap.size e 1 v n cs) (hg : (wr.alloc o).grownBy w1 v.ownBlock) : Below base.heap.size base w1 :=
  (hb.alloc hb.size _).grown hg (by have := hb.size; simp; omega) (fun g hg => by have := (ho.lt g hg).1; omega)
theorem l_next {vl' : Value} {x : Int} {o : Obj} (h : Tri w wr vl vd vs L D S) (ho : w1.ownsRow w.heap.size 3 1 vl' (L.length + 1) (L.map (Value.int .i64) ++ [.int .i64 x])) (hg : (wr.alloc o).grownBy w1 vl.ownBlock) (ha : vl'.ownBlock = vl.ownBlock ∨ vl'.ownBlock = some (wr.heap.size + 1)) :
    Tri w w1 vl' vd vs (L ++ [x]) D S :=
  ⟨by simpa using ho, (h.d.alloc o).kept hg h.ld.symm.ne, (h.s.alloc o).kept hg h.ls.symm.ne, (h.ld.symm.moved ha (fun g hg => by have := (h.d.lt g hg).2; omega)).symm, (h.ls.symm.moved ha (fun g hg => by have := (h.s.lt g hg).2; omega)).symm, h.ds, bel_next h.bel h.l hg⟩
theorem d_next {vd' : Value} {x : Bool} {o : Obj} (h : Tri w wr vl vd vs L D S) (ho : w1.ownsRow w.heap.size 4 1 vd' (D.length + 1) (D.map Value.bool ++ [.bool x])) (hg : (wr.alloc o).grownBy w1 vd.ownBlock) (ha : vd'.ownBlock = vd.ownBlock ∨ vd'.ownBlock = some (wr.heap.size + 1)) :
    Tri w w1 vl vd' vs L (D ++ [x]) S :=
  ⟨(h.l.alloc o).kept hg h.ld.ne, by simpa using ho, (h.s.alloc o).kept hg h.ds.symm.ne, h.ld.moved ha (fun g hg => by have := (h.l.lt g hg).2; omega), h.ls, (h.ds.symm.moved ha (fun g hg => by have := (h.s.lt g hg).2; omega)).symm, bel_next h.bel h.d hg⟩
theorem s_next {vs' : Value} {x : Bool} {o : Obj} (h : Tri w wr vl vd vs L D S) (ho : w1.ownsRow w.heap.size 4 1 vs' (S.length + 1) (S.map Value.bool ++ [.bool x])) (hg : (wr.alloc o).grownBy w1 vs.ownBlock) (ha : vs'.ownBlock = vs.ownBlock ∨ vs'.ownBlock = some (wr.heap.size + 1)) :
    Tri w w1 vl vd vs' L D (S ++ [x]) :=
  ⟨(h.l.alloc o).kept hg h.ls.ne, (h.d.alloc o).kept hg h.ds.ne, by simpa using ho, h.ld, h.ls.moved ha (fun g hg => by have := (h.l.lt g hg).2; omega), h.ds.moved ha (fun g hg => by have := (h.d.lt g hg).2; omega), bel_next h.bel h.s hg⟩
end Tri
/-- A struct variable that lies apart from a list that grows. -/
theorem Box.of_block {w w' : World} {g : Nat} {cs : Array Value} (h : Box w g cs) (e : w'.heap[g]? = w.heap[g]?) : Box w' g cs := by
  refine ⟨?_, fun i => ?_, fun i => ?_⟩
  · have h1 := h.1
    rw [Array.getElem?_eq_getElem h1] at e
    exact (Array.getElem?_eq_some_iff.1 e).1
  · rw [← h.2.1 i]; unfold World.cell?; rw [e]
  · rw [← h.2.2 i]; unfold World.frozen?; rw [e]
theorem Box.grown {w wr w1 : World} {g : Nat} {cs : Array Value} {v : Value} {o : Obj} (h : Box wr g cs) (hv : v.ownBlock ≠ some g) (hg : (wr.alloc o).grownBy w1 v.ownBlock) : Box w1 g cs :=
  (h.alloc o).of_block (hg.block g (by have := h.1; simp; omega) (fun e => hv e.symm))
theorem moved_ne {v v' : Value} {N g : Nat} (h : v.ownBlock ≠ some g) (ha : v'.ownBlock = v.ownBlock ∨ v'.ownBlock = some N) (hg : g < N) : v'.ownBlock ≠ some g := fun e => by
  rcases ha with a | a
  · exact h (a ▸ e)
  · rw [a] at e; cases e; exact Nat.lt_irrefl _ hg
end Go.Proofs.YtaccamlplikkfaaGreatDoor
