/- Blocks that a drawn region makes and fills in any order: what is known of them all along. -/
import Derived.Test.YtmemhlhjkpijpaaLooseS
import Derived.Test.YtmemhlhjkpijpaaWorld
namespace Go.Proofs.Ytmemhlhjkpijpaa
set_option maxRecDepth 100000
open Go.RowKit
set_option linter.unusedVariables false
set_option linter.unusedSimpArgs false

theorem box_in {w w' : World} {g z : Nat} {cs : Array Value} (h : Box w g cs) (hb : Below z w w') (hz : g < z) : Box w' g cs :=
  ⟨Nat.lt_of_lt_of_le h.1 hb.size, fun i => (hb.cell (p := ⟨g, i, none⟩) hz).trans (h.2.1 i), fun i => (hb.frozen (p := ⟨g, i, none⟩) hz).trans (h.2.2 i)⟩
theorem loose_store {P : Program} {ops : Array Oper} {Q : Exit → Act → World → Prop} {o : Oper} {a : Act} {w w' : World} {R : Value → World → Prop} (hg : o.guard = Option.none) (hd : o.dst = Option.none) (h : (execOp a.eval o).run P w = .ok .skip w') (hR : R undef w') : looseStep P ops o a w Q R := by
  unfold looseStep
  rw [if_pos (by simp [Region.wanted, hg])]
  unfold Oper.wp
  rw [h]
  exact ⟨undef, rfl, hR⟩
/-- N blocks: those made stand at their q, hold their Z ahead of their store and their C behind it. -/
def Blks (N base : Nat) (Z C : Nat → Array Value) (al st : Nat → Bool) (V : Nat → Value) (w : World) : Prop :=
  ∃ q : Nat → Nat, ∀ i, i < N → (st i = true → al i = true) ∧ (al i = true → V i = .pointer (some ⟨q i, 0, none⟩) ∧ base ≤ q i ∧ Box w (q i) (if st i = true then C i else Z i) ∧ ∀ j, j < N → al j = true → j ≠ i → q j ≠ q i)
theorem upd {α : Type} {p q : Prop} [Decidable p] [Decidable q] (h : p ↔ q) (a b : α) : ite p a b = ite q a b := by
  by_cases hp : p
  · rw [if_pos hp, if_pos (h.1 hp)]
  · rw [if_neg hp, if_neg (fun hq => hp (h.2 hq))]
theorem Blks.none {N base : Nat} {Z C : Nat → Array Value} {V : Nat → Value} {w : World} {al st : Nat → Bool} (ha : ∀ i, i < N → al i = false) (hs : ∀ i, i < N → st i = false) : Blks N base Z C al st V w :=
  ⟨fun _ => 0, fun i hi => ⟨fun h => (by rw [hs i hi] at h; cases h), fun h => (by rw [ha i hi] at h; cases h)⟩⟩
theorem Blks.congr {N base : Nat} {Z C : Nat → Array Value} {al st al' st' : Nat → Bool} {V V' : Nat → Value} {w : World} (h : Blks N base Z C al st V w) (ha : ∀ i, i < N → al' i = al i) (hs : ∀ i, i < N → st' i = st i) (hv : ∀ i, i < N → al i = true → V' i = V i) : Blks N base Z C al' st' V' w := by
  obtain ⟨q, h⟩ := h
  refine ⟨q, fun i hi => ?_⟩
  obtain ⟨h1, h2⟩ := h i hi
  rw [ha i hi, hs i hi]
  refine ⟨h1, fun hal => ?_⟩
  obtain ⟨e, hb, hx, hd⟩ := h2 hal
  exact ⟨(hv i hi hal).trans e, hb, hx, fun j hj haj hne => hd j hj ((ha j hj).symm.trans haj) hne⟩
theorem Blks.call {N base : Nat} {Z C : Nat → Array Value} {al st : Nat → Bool} {V : Nat → Value} {w w' : World} (h : Blks N base Z C al st V w) (hb : Below w.heap.size w w') : Blks N base Z C al st V w' := by
  obtain ⟨q, h⟩ := h
  refine ⟨q, fun i hi => ⟨(h i hi).1, fun hal => ?_⟩⟩
  obtain ⟨e, hq, hx, hd⟩ := (h i hi).2 hal
  exact ⟨e, hq, hx.below hb, hd⟩
theorem Blks.alloc {N base : Nat} {Z C : Nat → Array Value} {al st : Nat → Bool} {V : Nat → Value} {w : World} (h : Blks N base Z C al st V w) (hB : base ≤ w.heap.size) (t : TypeId) (k : Nat) (hk : al k = false) {al' st' : Nat → Bool} {V' : Nat → Value}
    (ha : ∀ i, i < N → al' i = if i = k then true else al i) (hs : ∀ i, i < N → st' i = st i) (hv : ∀ i, i < N → V' i = if i = k then .pointer (some ⟨w.heap.size, 0, Option.none⟩) else V i) :
    Blks N base Z C al' st' V' (w.alloc (.cells (Z k) t)) := by
  obtain ⟨q, h⟩ := h
  refine ⟨fun i => if i = k then w.heap.size else q i, fun i hi => ?_⟩
  rw [ha i hi, hs i hi, hv i hi]
  obtain ⟨h1, h2⟩ := h i hi
  by_cases e : i = k
  · subst e
    simp only [if_true, true_implies]
    have hst : st i = false := by
      cases hx : st i with
      | false => rfl
      | true => have := h1 hx; rw [hk] at this; cases this
    refine ⟨fun _ => trivial, trivial, hB, ?_, fun j hj haj hne => ?_⟩
    · rw [hst, if_neg (by simp)]
      exact box_new w (Z i) t
    · rw [ha j hj, if_neg hne] at haj
      obtain ⟨_, _, hx, _⟩ := (h j hj).2 haj
      rw [if_neg hne]
      have := hx.1
      omega
  · simp only [if_neg e]
    refine ⟨h1, fun hal => ?_⟩
    obtain ⟨e1, hb, hx, hd⟩ := h2 hal
    refine ⟨e1, hb, hx.alloc _, fun j hj haj hne => ?_⟩
    rw [ha j hj] at haj
    by_cases ej : j = k
    · rw [if_pos ej]
      have := hx.1
      omega
    · rw [if_neg ej] at haj ⊢
      exact hd j hj haj hne
/-- One of them, made and not filled yet. -/
theorem Blks.get {N base : Nat} {Z C : Nat → Array Value} {al st : Nat → Bool} {V : Nat → Value} {w : World} (h : Blks N base Z C al st V w) (k : Nat) (hk : k < N) (ha : al k = true) (hs : st k = false) :
    ∃ g, V k = .pointer (some ⟨g, 0, Option.none⟩) ∧ base ≤ g ∧ Box w g (Z k) ∧ ∀ (w' : World) (st' : Nat → Bool), Box w' g (C k) → (∀ g' cs, g' ≠ g → Box w g' cs → Box w' g' cs) → (∀ i, i < N → st' i = if i = k then true else st i) → Blks N base Z C al st' V w' := by
  obtain ⟨q, h⟩ := h
  obtain ⟨e1, hb, hx, hd⟩ := (h k hk).2 ha
  rw [hs, if_neg (by simp)] at hx
  refine ⟨q k, e1, hb, hx, fun w' st' hC hO hst => ⟨q, fun i hi => ?_⟩⟩
  obtain ⟨h1, h2⟩ := h i hi
  rw [hst i hi]
  by_cases e : i = k
  · subst e
    rw [if_pos rfl]
    exact ⟨fun _ => ha, fun _ => ⟨e1, hb, by rw [if_pos rfl]; exact hC, hd⟩⟩
  · rw [if_neg e]
    refine ⟨h1, fun hal => ?_⟩
    obtain ⟨e2, hb2, hx2, hd2⟩ := h2 hal
    exact ⟨e2, hb2, hO _ _ (hd i hi hal e) hx2, hd2⟩
theorem Blks.full {N base : Nat} {Z C : Nat → Array Value} {al st : Nat → Bool} {V : Nat → Value} {w : World} (h : Blks N base Z C al st V w) (ha : ∀ i, i < N → al i = true) (hs : ∀ i, i < N → st i = true) :
    ∃ q : Nat → Nat, ∀ i, i < N → V i = .pointer (some ⟨q i, 0, Option.none⟩) ∧ base ≤ q i ∧ Box w (q i) (C i) ∧ ∀ j, j < N → j ≠ i → q j ≠ q i := by
  obtain ⟨q, h⟩ := h
  refine ⟨q, fun i hi => ?_⟩
  obtain ⟨e, hb, hx, hd⟩ := (h i hi).2 (ha i hi)
  rw [hs i hi, if_pos rfl] at hx
  exact ⟨e, hb, hx, fun j hj hne => hd j hj (ha j hj) hne⟩
theorem Box.seven_set {w : World} {g : Nat} {v0 v1 v2 v3 v4 v5 v6 : Value} (h : Box w g #[v0, v1, v2, v3, v4, v5, v6]) (x0 x1 x2 x3 x4 x5 x6 : Value) :
    Box (((((((w.setCell ⟨g, 0, Option.none⟩ x0).setCell ⟨g, 1, Option.none⟩ x1).setCell ⟨g, 2, Option.none⟩ x2).setCell ⟨g, 3, Option.none⟩ x3).setCell ⟨g, 4, Option.none⟩ x4).setCell ⟨g, 5, Option.none⟩ x5).setCell ⟨g, 6, Option.none⟩ x6) g #[x0, x1, x2, x3, x4, x5, x6] := by
  have h0 := box_cast (cs' := #[x0, v1, v2, v3, v4, v5, v6]) (Box.set h (i := 0) (by simp) x0) rfl
  have h1 := box_cast (cs' := #[x0, x1, v2, v3, v4, v5, v6]) (Box.set h0 (i := 1) (by simp) x1) rfl
  have h2 := box_cast (cs' := #[x0, x1, x2, v3, v4, v5, v6]) (Box.set h1 (i := 2) (by simp) x2) rfl
  have h3 := box_cast (cs' := #[x0, x1, x2, x3, v4, v5, v6]) (Box.set h2 (i := 3) (by simp) x3) rfl
  have h4 := box_cast (cs' := #[x0, x1, x2, x3, x4, v5, v6]) (Box.set h3 (i := 4) (by simp) x4) rfl
  have h5 := box_cast (cs' := #[x0, x1, x2, x3, x4, x5, v6]) (Box.set h4 (i := 5) (by simp) x5) rfl
  exact box_cast (cs' := #[x0, x1, x2, x3, x4, x5, x6]) (Box.set h5 (i := 6) (by simp) x6) rfl
theorem Box.eight_put {w : World} {g : Nat} {v0 v1 v2 v3 v4 v5 v6 v7 : Value} (h : Box w g #[v0, v1, v2, v3, v4, v5, v6, v7]) (x0 x1 x2 x3 x4 x5 x6 x7 : Value) :
    Box ((((((((w.setCell ⟨g, 0, Option.none⟩ x0).setCell ⟨g, 1, Option.none⟩ x1).setCell ⟨g, 2, Option.none⟩ x2).setCell ⟨g, 3, Option.none⟩ x3).setCell ⟨g, 4, Option.none⟩ x4).setCell ⟨g, 5, Option.none⟩ x5).setCell ⟨g, 6, Option.none⟩ x6).setCell ⟨g, 7, Option.none⟩ x7) g #[x0, x1, x2, x3, x4, x5, x6, x7] := by
  have h0 := box_cast (cs' := #[x0, v1, v2, v3, v4, v5, v6, v7]) (Box.set h (i := 0) (by simp) x0) rfl
  have h1 := box_cast (cs' := #[x0, x1, v2, v3, v4, v5, v6, v7]) (Box.set h0 (i := 1) (by simp) x1) rfl
  have h2 := box_cast (cs' := #[x0, x1, x2, v3, v4, v5, v6, v7]) (Box.set h1 (i := 2) (by simp) x2) rfl
  have h3 := box_cast (cs' := #[x0, x1, x2, x3, v4, v5, v6, v7]) (Box.set h2 (i := 3) (by simp) x3) rfl
  have h4 := box_cast (cs' := #[x0, x1, x2, x3, x4, v5, v6, v7]) (Box.set h3 (i := 4) (by simp) x4) rfl
  have h5 := box_cast (cs' := #[x0, x1, x2, x3, x4, x5, v6, v7]) (Box.set h4 (i := 5) (by simp) x5) rfl
  have h6 := box_cast (cs' := #[x0, x1, x2, x3, x4, x5, x6, v7]) (Box.set h5 (i := 6) (by simp) x6) rfl
  exact box_cast (cs' := #[x0, x1, x2, x3, x4, x5, x6, x7]) (Box.set h6 (i := 7) (by simp) x7) rfl
end Go.Proofs.Ytmemhlhjkpijpaa
