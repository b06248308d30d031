/- What an eye sees of some lights, one by one. -/
import Derived.Test.YtmgbegmhanbcnaaEye
import Derived.Deep.LoopGhost
namespace Go.Proofs.Ytmgbegmhanbcnaa
open Go.RowKit
set_option linter.unusedVariables false
set_option linter.unusedSimpArgs false
set_option maxRecDepth 100000

/-- What an eye has in mind. -/
structure Gz where
  bg : Bool
  ba : Int
  sh : Bool
  on : Bool
  rn : Int
  wt : Int
  ru : Int
  ra : Int
def gz0 : Gz := ⟨false, 0, false, false, 0, 0, 0, 0⟩
def gzS (e : Gz) (a : Int) : Bool := eyS e.bg e.ba a e.sh
def gzE (e : Gz) (a : Int) : Bool := dbO e.on e.rn (gzS e a) && !e.on
def gzN (e : Gz) (a : Int) : Gz := ⟨true, eyN (eyB e.bg e.ba a) a (gzS e a), gzS e a, dbO e.on e.rn (gzS e a), dbR e.on e.rn (gzS e a), rfV e.wt (gzE e a), sgV e.ru (gzS e a), raV e.ra a 0⟩
def gzD (e : Gz) (a : Int) : Bool := rfB e.wt (gzE e a)
def gzT (e : Gz) (a : Int) : Bool := decide (12 ≤ sgV e.ru (gzS e a))
def gzF (e : Gz) (a : Int) : Bool := faB (raV e.ra a 0) 0
/-- Behind so many lights. -/
def gzAt (xs : List Int) : Nat → Gz
  | 0 => gz0
  | k + 1 => gzN (gzAt xs k) (xs.getD k 0)
/-- What is seen in tick i: a drop, whether it is shaded, a stream, a fault. -/
def snB (xs : List Int) (i j : Nat) : Bool :=
  match j with
  | 0 => gzD (gzAt xs i) (xs.getD i 0)
  | 1 => gzS (gzAt xs i) (xs.getD i 0)
  | 2 => gzT (gzAt xs i) (xs.getD i 0)
  | _ => gzF (gzAt xs i) (xs.getD i 0)

/-- Rows of four truths. -/
structure Sees (w : World) (g n : Nat) (f : Nat → Nat → Bool) : Prop where
  lt : g < w.heap.size
  cell : ∀ i j, i < n → j < 4 → w.cell? ⟨g, i * 4 + j, none⟩ = some (.bool (f i j))
  frz : ∀ i, w.frozen? ⟨g, i, none⟩ = false
theorem Sees.below {w w' : World} {g n : Nat} {f : Nat → Nat → Bool} (h : Sees w g n f) (hb : Below w.heap.size w w') : Sees w' g n f :=
  ⟨Nat.lt_of_lt_of_le h.lt hb.size, fun i j hi hj => (hb.cell (p := ⟨g, i * 4 + j, none⟩) h.lt).trans (h.cell i j hi hj), fun i => (hb.frozen (p := ⟨g, i, none⟩) h.lt).trans (h.frz i)⟩
theorem Sees.far {w : World} {g n : Nat} {f : Nat → Nat → Bool} (h : Sees w g n f) {p : Addr} (hp : p.block ≠ g) (v : Value) : Sees (w.setCell p v) g n f :=
  ⟨by rw [size_setCell]; exact h.lt, fun i j hi hj => (World.cell?_setCell_other w p _ v (fun e => hp (congrArg Addr.block e))).trans (h.cell i j hi hj), fun i => (World.frozen?_setCell _ _ _ _).trans (h.frz i)⟩
theorem Sees.set1 {w : World} {g n : Nat} {f : Nat → Nat → Bool} (h : Sees w g n f) {k m : Nat} (hk : k < n) (hm : m < 4) (b : Bool) : Sees (w.setCell ⟨g, k * 4 + m, none⟩ (.bool b)) g n (fun i j => if i = k ∧ j = m then b else f i j) := by
  refine ⟨by rw [size_setCell]; exact h.lt, fun i j hi hj => ?_, fun i => (World.frozen?_setCell _ _ _ _).trans (h.frz i)⟩
  by_cases e : i = k ∧ j = m
  · obtain ⟨rfl, rfl⟩ := e
    rw [if_pos ⟨rfl, rfl⟩, World.cell?_setCell_same w _ _ (h.cell i j hi hj)]
  · rw [if_neg e, World.cell?_setCell_other w _ _ _ (fun q => e (by have := congrArg Addr.off q; simp at this; omega))]
    exact h.cell i j hi hj
theorem Sees.congr {w : World} {g n : Nat} {f f' : Nat → Nat → Bool} (h : Sees w g n f) (e : ∀ i j, i < n → j < 4 → f i j = f' i j) : Sees w g n f' :=
  ⟨h.lt, fun i j hi hj => by rw [← e i j hi hj]; exact h.cell i j hi hj, h.frz⟩
theorem Sees.set4 {w : World} {g n : Nat} {f : Nat → Nat → Bool} (h : Sees w g n f) {k : Nat} (hk : k < n) (b0 b1 b2 b3 : Bool) :
    Sees ((((w.setCell ⟨g, k * 4, none⟩ (.bool b0)).setCell ⟨g, k * 4 + 1, none⟩ (.bool b1)).setCell ⟨g, k * 4 + 2, none⟩ (.bool b2)).setCell ⟨g, k * 4 + 3, none⟩ (.bool b3)) g n
      (fun i j => if i = k then (match j with | 0 => b0 | 1 => b1 | 2 => b2 | _ => b3) else f i j) := by
  refine ((((h.set1 hk (m := 0) (by omega) b0).set1 hk (m := 1) (by omega) b1).set1 hk (m := 2) (by omega) b2).set1 hk (m := 3) (by omega) b3).congr ?_
  intro i j hi hj
  by_cases e : i = k
  · subst e
    match j, hj with
    | 0, _ => simp
    | 1, _ => simp
    | 2, _ => simp
    | 3, _ => simp
  · simp [e]
theorem sees_new (w : World) (n : Nat) (t : TypeId) : Sees (w.alloc (.cells (madeCells #[.bool false, .bool false, .bool false, .bool false] (n * 4)) t)) w.heap.size n (fun _ _ => false) := by
  refine ⟨by simp, fun i j hi hj => ?_, fun i => ?_⟩
  · rw [World.cell?_alloc_at _ _ _ _ rfl]
    unfold madeCells
    rw [Array.getElem?_map, Array.getElem?_range, if_pos (by omega)]
    have hm : (i * 4 + j) % 4 = j := by omega
    simp only [Option.map_some, List.size_toArray, List.length_cons, List.length_nil, hm]
    match j, hj with
    | 0, _ => rfl
    | 1, _ => rfl
    | 2, _ => rfl
    | 3, _ => rfl
  · rw [frozen?_alloc_cells]
    unfold World.frozen?
    rw [Array.getElem?_eq_none (Nat.le_refl _)]
theorem Box.eight_set {w : World} {g : Nat} {v0 v1 v2 v3 v4 v5 v6 v7 : Value} (h : Box w g #[v0, v1, v2, v3, v4, v5, v6, v7]) (x0 x1 x2 x3 x4 x5 x6 x7 : Value) :
    Box ((((((((w.setCell ⟨g, 0, none⟩ x0).setCell ⟨g, 1, none⟩ x1).setCell ⟨g, 2, none⟩ x2).setCell ⟨g, 3, none⟩ x3).setCell ⟨g, 4, none⟩ x4).setCell ⟨g, 5, none⟩ x5).setCell ⟨g, 6, none⟩ x6).setCell ⟨g, 7, none⟩ x7) g #[x0, x1, x2, x3, x4, x5, x6, x7] := by
  have h0 : Box _ g #[x0, v1, v2, v3, v4, v5, v6, v7] := h.set (i := 0) (by simp) x0
  have h1 : Box _ g #[x0, x1, v2, v3, v4, v5, v6, v7] := h0.set (i := 1) (by simp) x1
  have h2 : Box _ g #[x0, x1, x2, v3, v4, v5, v6, v7] := h1.set (i := 2) (by simp) x2
  have h3 : Box _ g #[x0, x1, x2, x3, v4, v5, v6, v7] := h2.set (i := 3) (by simp) x3
  have h4 : Box _ g #[x0, x1, x2, x3, x4, v5, v6, v7] := h3.set (i := 4) (by simp) x4
  have h5 : Box _ g #[x0, x1, x2, x3, x4, x5, v6, v7] := h4.set (i := 5) (by simp) x5
  have h6 : Box _ g #[x0, x1, x2, x3, x4, x5, x6, v7] := h5.set (i := 6) (by simp) x6
  have h7 : Box _ g #[x0, x1, x2, x3, x4, x5, x6, x7] := h6.set (i := 7) (by simp) x7
  exact h7
theorem Sees.far8 {w : World} {e g n : Nat} {f : Nat → Nat → Bool} (h : Sees w g n f) (hp : e ≠ g) (x0 x1 x2 x3 x4 x5 x6 x7 : Value) :
    Sees ((((((((w.setCell ⟨e, 0, none⟩ x0).setCell ⟨e, 1, none⟩ x1).setCell ⟨e, 2, none⟩ x2).setCell ⟨e, 3, none⟩ x3).setCell ⟨e, 4, none⟩ x4).setCell ⟨e, 5, none⟩ x5).setCell ⟨e, 6, none⟩ x6).setCell ⟨e, 7, none⟩ x7) g n f :=
  (((((((h.far (p := ⟨e, 0, none⟩) hp x0).far (p := ⟨e, 1, none⟩) hp x1).far (p := ⟨e, 2, none⟩) hp x2).far (p := ⟨e, 3, none⟩) hp x3).far (p := ⟨e, 4, none⟩) hp x4).far (p := ⟨e, 5, none⟩) hp x5).far (p := ⟨e, 6, none⟩) hp x6).far (p := ⟨e, 7, none⟩) hp x7
theorem Box.far4 {w : World} {e g o0 o1 o2 o3 : Nat} {cs : Array Value} (h : Box w e cs) (hp : g ≠ e) (x0 x1 x2 x3 : Value) :
    Box ((((w.setCell ⟨g, o0, none⟩ x0).setCell ⟨g, o1, none⟩ x1).setCell ⟨g, o2, none⟩ x2).setCell ⟨g, o3, none⟩ x3) e cs :=
  (((h.far (p := ⟨g, o0, none⟩) hp x0).far (p := ⟨g, o1, none⟩) hp x1).far (p := ⟨g, o2, none⟩) hp x2).far (p := ⟨g, o3, none⟩) hp x3

end Go.Proofs.Ytmgbegmhanbcnaa
