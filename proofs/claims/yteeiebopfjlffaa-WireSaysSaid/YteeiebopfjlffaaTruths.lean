/- A slice of truths that reads as a list; nil let in. And such a list of the call's own, grown by append. -/
import Derived.Test.YteeiebopfjlffaaLeaf
import Derived.Test.YteeiebopfjlffaaAt
import Derived.Deep.OwnRows
import Derived.OwnWalk
import Derived.Laws.OwnMore
namespace Go.Proofs.Yteeiebopfjlffaa
set_option maxRecDepth 100000
open Go.ChangeShapes Go.WideShapes Go.ChangeAt Go.RowKit Go.Deep
set_option linter.unusedVariables false
set_option linter.unusedSimpArgs false

def Truths (w : World) (A : Option Addr) (n : Nat) (ps : List Bool) : Prop :=
  ps.length = n ∧ (0 < n → ∃ b off, A = some ⟨b, off, Option.none⟩ ∧ b < w.heap.size ∧ ∀ i, i < n → w.cell? ⟨b, off + i, Option.none⟩ = some (.bool (ps.getD i false)))
theorem Truths.below {w w' : World} {A : Option Addr} {n : Nat} {ps : List Bool} (h : Truths w A n ps) (hb : Below w.heap.size w w') : Truths w' A n ps :=
  ⟨h.1, fun hn => by
    obtain ⟨b, off, rfl, hlt, hc⟩ := h.2 hn
    exact ⟨b, off, rfl, Nat.lt_of_lt_of_le hlt hb.size, fun i hi => (hb.cell (p := ⟨b, off + i, Option.none⟩) hlt).trans (hc i hi)⟩⟩
theorem Truths.at_ {w : World} {A : Option Addr} {n : Nat} {ps : List Bool} (h : Truths w A n ps) {i : Nat} (hi : i < n) : ∃ b off, A = some ⟨b, off, Option.none⟩ ∧ b < w.heap.size ∧ w.cell? ⟨b, off + i, Option.none⟩ = some (.bool (ps.getD i false)) := by
  obtain ⟨b, off, e, hb, hc⟩ := h.2 (by omega)
  exact ⟨b, off, e, hb, hc i hi⟩
theorem Truths.no {w : World} {A : Option Addr} : Truths w A 0 [] := ⟨rfl, fun h => absurd h (by omega)⟩
theorem Truths.of_rows {w : World} {A : Option Addr} {n : Nat} {rs : List (List Value)} (h : Rows [.bool] w A n rs) : ∃ ps, Truths w A n ps := by
  refine ⟨(List.range n).map (fun i => match (rs.getD i []).getD 0 undef with | .bool b => b | _ => false), by simp, fun hn => ?_⟩
  obtain ⟨b, off, e, hb, hc⟩ := h.2.2 hn
  refine ⟨b, off, e, hb, fun i hi => ?_⟩
  obtain ⟨_, hk⟩ := h.2.1 i hi
  obtain ⟨x, hx⟩ := hk 0 .bool rfl
  have h1 := hc i hi 0 (by simp)
  rw [hx] at h1
  have e1 : off + (i * [TypeDesc.bool].length + 0) = off + i := by simp
  rw [e1] at h1
  rw [h1]
  simp only [List.getD_eq_getElem?_getD] at hx
  simp [List.getD, hi, hx]
theorem Truths.of_own {w : World} {base e n : Nat} {A : Option Addr} {c : Nat} {ps : List Bool} (h : w.ownsRow base e 1 (.slice A n c) n (ps.map Value.bool)) (hn : ps.length = n) : Truths w A n ps := by
  refine ⟨hn, fun h0 => ?_⟩
  rcases h.2 with ⟨_, e⟩ | ⟨g, cap, cur, hv, _, hg, hnc, _, hsz, htk⟩
  · omega
  · have hA : A = some ⟨g, 0, Option.none⟩ := by injection hv
    subst hA
    have hlt : g < w.heap.size := by
      rcases Nat.lt_or_ge g w.heap.size with hlt | hge
      · exact hlt
      · rw [Array.getElem?_eq_none hge] at hg; cases hg
    refine ⟨g, 0, rfl, hlt, fun i hi => ?_⟩
    have hk := h.cellAt i (by omega)
    rw [Nat.zero_add, hk]
    simp [List.getD, List.getElem?_eq_getElem (show i < ps.length by omega)]

theorem truth_info : (Try.prog.info? 4).map (fun i => (i.zero, i.size, i.bytes)) = some (some (.bool false), 1, 1) := by kernel_rfl
theorem own_formT {w : World} {base e n : Nat} {v : Value} {cs : List Value} (h : w.ownsRow base e 1 v n cs) : ∃ B d, v = .slice B n d ∧ n ≤ d := by
  rcases h.2 with ⟨hv, h0⟩ | ⟨g, cap, cur, hv, _, _, hnc, _⟩
  · exact ⟨Option.none, 0, by rw [hv, h0], by omega⟩
  · exact ⟨_, _, hv, hnc⟩

/-- A list of truths that a call has put together so far. -/
def GrownT (w : World) (ys : List Bool) (v : Value) (wr : World) : Prop :=
  (∃ B d, v = .slice B ys.length d ∧ ys.length ≤ d) ∧ wr.ownsRow w.heap.size 4 1 v ys.length (ys.map Value.bool) ∧ Below w.heap.size w wr
theorem GrownT.form {w wr : World} {ys : List Bool} {v : Value} (h : GrownT w ys v wr) : ∃ B d, v = .slice B ys.length d ∧ ys.length ≤ d ∧ Truths wr B ys.length ys := by
  obtain ⟨⟨B, d, rfl, hd⟩, ho, _⟩ := h; exact ⟨B, d, rfl, hd, Truths.of_own ho rfl⟩
theorem GrownT.nil (w : World) : GrownT w [] (.slice Option.none 0 0) w :=
  ⟨⟨Option.none, 0, rfl, Nat.le_refl _⟩, by simpa using World.ownsRow_nil w w.heap.size 4 1, Below.refl _ _⟩
theorem GrownT.next {w wr w1 : World} {ys : List Bool} {v v' : Value} {x : Bool} {cs : Obj} (h : GrownT w ys v wr)
    (ho : w1.ownsRow w.heap.size 4 1 v' (ys.length + 1) (ys.map Value.bool ++ [.bool x])) (hg : (wr.alloc cs).grownBy w1 v.ownBlock) : GrownT w (ys ++ [x]) v' w1 := by
  obtain ⟨_, hown, hb⟩ := h
  refine ⟨by simpa using own_formT ho, by simpa using ho, (hb.alloc hb.size _).grown hg (by have := hb.size; simp; omega) (fun g hg => by have := (hown.lt g hg).1; omega)⟩
theorem GrownT.more {w wr w1 : World} {ys zs : List Bool} {v v' : Value} (h : GrownT w ys v wr)
    (ho : w1.ownsRow w.heap.size 4 1 v' (ys.length + zs.length) (ys.map Value.bool ++ zs.map Value.bool)) (hg : wr.grownBy w1 v.ownBlock) : GrownT w (ys ++ zs) v' w1 := by
  obtain ⟨_, hown, hb⟩ := h
  refine ⟨by simpa using own_formT ho, by simpa using ho, hb.grown hg (by have := hb.size; omega) (fun g hg => by have := (hown.lt g hg).1; omega)⟩
theorem GrownT.below {w wr w1 : World} {ys : List Bool} {v : Value} (h : GrownT w ys v wr) (hb : Below wr.heap.size wr w1) : GrownT w ys v w1 := by
  refine ⟨h.1, ⟨h.2.1.1, ?_⟩, Below.trans h.2.2 (hb.mono h.2.2.size)⟩
  rcases h.2.1.2 with h2 | ⟨g, cap, cur, hv, hg, hh, r⟩
  · exact .inl h2
  · exact .inr ⟨g, cap, cur, hv, hg, by rw [hb.block g (Array.getElem?_eq_some_iff.1 hh).1]; exact hh, r⟩
/-- A store to such a list. -/
theorem own_set {w W : World} {base n d g : Nat} {ys : List Bool} (h : w.ownsRow base 4 1 (.slice (some ⟨g, 0, Option.none⟩) n d) n (ys.map Value.bool)) (hb : Below base W w) (i : Nat) (x : Bool) :
    (w.setCell ⟨g, i, Option.none⟩ (.bool x)).ownsRow base 4 1 (.slice (some ⟨g, 0, Option.none⟩) n d) n ((ys.set i x).map Value.bool) ∧ Below base W (w.setCell ⟨g, i, Option.none⟩ (.bool x)) := by
  obtain ⟨h1, h2⟩ := h.stored i (.bool x)
  refine ⟨by rw [List.map_set]; exact h1, hb.setCell (h.lt g rfl).1 _⟩
end Go.Proofs.Yteeiebopfjlffaa
