/- Rows of structs of a call's own: what they hold as flat cells; one element stored; grown by one or by a list; sorted. -/
import Derived.Test.YtjhdlcemeemlhaaTrN
import Derived.Laws.AppendOwn
import Derived.Laws.IdiomCopy
import Derived.Laws.CopyRow
import Derived.OwnWalk
import Derived.Shelf.GgSortFunc.InsertionK
namespace Go.Proofs.Ytjhdlcemeemlhaa
open Go.RowKit Go.Sort
set_option linter.unusedVariables false
set_option linter.unusedSimpArgs false
set_option maxRecDepth 100000

theorem add_off (g o j : Nat) : (⟨g, o, none⟩ : Addr).add j = ⟨g, o + j, none⟩ := by
  unfold Addr.add
  by_cases h : j = 0
  · subst h; rfl
  · simp [h]
theorem row_form {W : World} {base size n : Nat} {e : TypeId} {v : Value} {xs : List Value} (h : W.ownsRow base e size v n xs) : ∃ A c, v = .slice A n c ∧ n ≤ c := by
  rcases h.2 with ⟨rfl, rfl⟩ | ⟨g, cap, cur, rfl, _, _, hcap, _⟩
  · exact ⟨_, _, rfl, Nat.le_refl _⟩
  · exact ⟨_, _, rfl, hcap⟩
section
variable {α : Type} {enc : α → List Value} {k : Nat} (hk : ∀ x, (enc x).length = k)
include hk
theorem fl_len (l : List α) : (l.flatMap enc).length = l.length * k := by
  induction l with
  | nil => simp
  | cons t l ih => rw [List.flatMap_cons, List.length_append, ih, List.length_cons, hk, Nat.add_mul, Nat.one_mul]; omega
theorem fl_at (z : α) : ∀ (l : List α) (i j : Nat), i < l.length → j < k → (l.flatMap enc)[i * k + j]? = (enc (l.getD i z))[j]?
  | [], _, _, h, _ => absurd h (by simp)
  | t :: l, 0, j, _, hj => by
    rw [List.flatMap_cons, List.getElem?_append_left (by rw [hk]; omega), Nat.zero_mul, Nat.zero_add]
    rfl
  | t :: l, i + 1, j, h, hj => by
    have ih := fl_at z l i j (by simpa using h) hj
    rw [List.flatMap_cons, List.getElem?_append_right (by rw [hk, Nat.add_mul, Nat.one_mul]; omega), hk, show (i + 1) * k + j - k = i * k + j by rw [Nat.add_mul, Nat.one_mul]; omega, ih]
    rfl
theorem fl_set : ∀ (l : List α) (i : Nat) (x : α), i < l.length → (l.flatMap enc).take (i * k) ++ enc x ++ (l.flatMap enc).drop (i * k + k) = (l.set i x).flatMap enc
  | [], _, _, h => absurd h (by simp)
  | t :: l, 0, x, _ => by
    rw [Nat.zero_mul, Nat.zero_add, List.flatMap_cons, List.take_zero, List.nil_append, List.drop_left' (hk t)]
    rfl
  | t :: l, i + 1, x, h => by
    have ih := fl_set l i x (by simpa using h)
    have e1 : (i + 1) * k = (enc t).length + i * k := by rw [hk, Nat.add_mul, Nat.one_mul, Nat.add_comm]
    have e2 : (i + 1) * k + k = (enc t).length + (i * k + k) := by rw [e1, Nat.add_assoc]
    rw [e2, e1, List.flatMap_cons, List.take_length_add_append, List.drop_length_add_append, List.append_assoc, List.append_assoc, ← List.append_assoc (List.take _ _), ih]
    rfl
end
/-- The cells of a row that a call owns. -/
theorem row_cells {α : Type} {enc : α → List Value} {k : Nat} (hk : ∀ x, (enc x).length = k) (z : α) {W : World} {base n c : Nat} {e : TypeId} {A : Option Addr} {l : List α} (h : W.ownsRow base e k (.slice A n c) n (l.flatMap enc)) (hl : l.length = n) (h0 : 0 < n) :
    ∃ g, A = some ⟨g, 0, none⟩ ∧ base ≤ g ∧ g < W.heap.size ∧ ∀ i, i < n → ∀ j, j < k → W.cell? ⟨g, i * k + j, none⟩ = (enc (l.getD i z))[j]? := by
  rcases h.2 with ⟨_, e⟩ | ⟨g, cap, cur, e, hg, hc, _⟩
  · omega
  · cases e
    have hk' := h.cells (g := g) rfl
    refine ⟨g, rfl, hg, (Array.getElem?_eq_some_iff.1 hc).1, fun i hi j hj => ?_⟩
    have e1 := fl_at hk z l i j (by omega) hj
    have hlt : j < (enc (l.getD i z)).length := by rw [hk]; exact hj
    rw [List.getElem?_eq_getElem hlt] at e1
    have h1 := hk' _ _ e1
    rw [add_off, Nat.zero_add] at h1
    rw [h1, List.getElem?_eq_getElem hlt]
theorem bkC_len (b : Bk) : (bkC b).length = 7 := rfl
theorem miC_len (b : Mi) : (miC b).length = 8 := rfl
theorem bks_row {W : World} {base n c : Nat} {e : TypeId} {A : Option Addr} {l : List Bk} (h : W.ownsRow base e 7 (.slice A n c) n (l.flatMap bkC)) (hl : l.length = n) : Bks W A n (atL l) := fun h0 => by
  obtain ⟨g, e, _, hg, hc⟩ := row_cells bkC_len no0 h hl h0
  exact ⟨g, 0, e, hg, fun i hi j hj => by rw [Nat.zero_add]; exact hc i hi j hj⟩
/-- A list of cells stored into a row. -/
theorem setCells_row {W : World} {g o : Nat} {vs : List Value} {cur : Array Value} {t : TypeId} (hg : W.heap[g]? = some (.cells cur t (0, 0))) (hl : o + vs.length ≤ cur.size) (h1 : ∀ v ∈ vs, v.oneCell' = true) :
    W.setCells g o vs = W.setRow g (cur.toList.take o ++ vs ++ cur.toList.drop (o + vs.length)).toArray := by
  have r1 := run_storeCells_at Try.prog g o t vs 0 cur W hg (by simpa using hl) h1
  have r2 := run_storeCells_cells (P := Try.prog) g o vs 0 W (fun j hj => by
    have : o + j < cur.size := by omega
    simp [World.cell?, hg, this]) (fun j hj => by simp [World.frozen?, hg]) h1
  rw [r1] at r2
  simp only [Nat.add_zero] at r2
  exact (Result.ok.inj r2).2.symm
theorem take_put (a v : List Value) (o m : Nat) (h1 : o + v.length ≤ m) (h2 : m ≤ a.length) : (a.take o ++ v ++ a.drop (o + v.length)).take m = (a.take m).take o ++ v ++ (a.take m).drop (o + v.length) := by
  have t1 : (a.take o).length = o := by rw [List.length_take]; omega
  rw [List.append_assoc, List.append_assoc, List.take_append (l₁ := a.take o), t1, List.take_of_length_le (l := a.take o) (by rw [t1]; omega), List.take_append (l₁ := v), List.take_of_length_le (l := v) (by omega), List.take_take, Nat.min_eq_left (by omega), List.drop_take, Nat.sub_sub]
theorem own_set {α : Type} {enc : α → List Value} {k : Nat} (hk : ∀ x, (enc x).length = k) {W : World} {base n c g K : Nat} {e : TypeId} {l : List α} {x : α} (h : W.ownsRow base e k (.slice (some ⟨g, 0, none⟩) n c) n (l.flatMap enc)) (hl : l.length = n) (hK : K < n) (h1 : ∀ v ∈ enc x, v.oneCell' = true) :
    (W.setCells g (K * k) (enc x)).ownsRow base e k (.slice (some ⟨g, 0, none⟩) n c) n ((l.set K x).flatMap enc) ∧ W.grownBy (W.setCells g (K * k) (enc x)) (some g) := by
  rcases h.2 with ⟨hn, _⟩ | ⟨g', cap, cur, hv, hb, hh, r1, r2, r3, r4⟩
  · simp at hn
  · have hv' : g = g' ∧ c = cap := by simpa using hv
    obtain ⟨rfl, rfl⟩ := hv'
    have hle : K * k + k ≤ n * k := by have := Nat.mul_le_mul_right k (show K + 1 ≤ n from hK); rwa [Nat.add_mul, Nat.one_mul] at this
    have hcap : n * k ≤ c * k := Nat.mul_le_mul_right k r1
    have hfit : K * k + (enc x).length ≤ cur.size := by rw [hk, r3]; omega
    rw [setCells_row hh hfit h1]
    refine ⟨⟨by rw [fl_len hk, List.length_set, hl], .inr ⟨g, c, _, rfl, hb, setRow_heap W g cur _ e _ hh, r1, r2, ?_, ?_⟩⟩, rfl, rfl, rfl, ?_, fun i hi hne => ?_⟩
    · simp only [List.size_toArray, List.length_append, List.length_take, List.length_drop, Array.length_toList]
      rw [hk]; rw [hk] at hfit; omega
    · have hlen : cur.toList.length = c * k := by rw [Array.length_toList, r3]
      rw [← fl_set hk l K x (by omega), ← r4, List.toList_toArray, take_put _ _ _ _ (by rw [hk]; exact hle) (by rw [hlen]; exact hcap), hk]
    · simp [World.setRow]
    · exact setRow_other W g i _ (fun e => hne (by rw [e]))
/-- Sorted in place. -/
theorem fl_flat {α : Type} [Inhabited α] {enc : α → List Value} {k : Nat} (hk : ∀ x, (enc x).length = k) (h0 : 0 < k) (l : List α) : (flatK enc k l.toArray).toList = l.flatMap enc := by
  apply List.ext_getElem?
  intro t
  by_cases ht : t < l.length * k
  · have hi : t / k < l.length := (Nat.div_lt_iff_lt_mul h0).2 ht
    have hj : t % k < k := Nat.mod_lt _ h0
    have e1 := fl_at hk default l (t / k) (t % k) hi hj
    rw [show t / k * k + t % k = t by rw [Nat.mul_comm]; exact Nat.div_add_mod t k] at e1
    rw [e1]
    have e2 := get_flatK enc k l.toArray t (by simpa using ht)
    have ht' : t < (flatK enc k l.toArray).size := by simpa using ht
    rw [getElem!_pos _ t ht'] at e2
    rw [Array.getElem?_toList, Array.getElem?_eq_getElem ht', e2]
    have e3 : l.toArray[t / k]! = l.getD (t / k) default := by
      rw [getElem!_pos _ _ (by simpa using hi)]
      simp [List.getD, List.getElem?_eq_getElem hi]
    rw [e3]
    have hlt : t % k < (enc (l.getD (t / k) default)).length := by rw [hk]; exact hj
    rw [List.getElem?_eq_getElem hlt, getElem!_pos (enc (l.getD (t / k) default)) (t % k) hlt]
  · rw [List.getElem?_eq_none (by simp; omega), List.getElem?_eq_none (by rw [fl_len hk]; omega)]
theorem holds_row {α : Type} [Inhabited α] {enc : α → List Value} {k : Nat} (hk : ∀ x, (enc x).length = k) (h0 : 0 < k) {W : World} {base n c g : Nat} {e : TypeId} {l : List α} (h : W.ownsRow base e k (.slice (some ⟨g, 0, none⟩) n c) n (l.flatMap enc)) (hl : l.length = n) :
    HoldsK enc k W g 0 l.toArray := by
  rcases h.2 with ⟨hn, _⟩ | ⟨g', cap, cur, hv, hb, hh, r1, r2, r3, r4⟩
  · simp at hn
  · have hv' : g = g' ∧ c = cap := by simpa using hv
    obtain ⟨rfl, rfl⟩ := hv'
    intro t ht
    have ht1 : t < n * k := by simpa [hl] using ht
    have ht2 : t < cur.size := by rw [r3]; exact Nat.lt_of_lt_of_le ht1 (Nat.mul_le_mul_right k r1)
    refine ⟨?_, by simp [World.frozen?, hh]⟩
    have e1 : (flatK enc k l.toArray).toList[t]? = cur.toList[t]? := by rw [fl_flat hk h0, ← r4, List.getElem?_take_of_lt ht1]
    rw [Array.getElem?_toList, Array.getElem?_toList, Array.getElem?_eq_getElem ht, Array.getElem?_eq_getElem ht2] at e1
    have e2 := Option.some.inj e1
    rw [getElem!_pos _ t ht]
    simp [World.cell?, hh, ht2, id, e2]
theorem sorted_row {α : Type} [Inhabited α] {enc : α → List Value} {k : Nat} (hk : ∀ x, (enc x).length = k) (h0 : 0 < k) {W : World} {base n c g q : Nat} {e : TypeId} {l d : List α} {os : Array Obj} (h : W.ownsRow base e k (.slice (some ⟨g, 0, none⟩) n c) n (l.flatMap enc)) (hd : d.length = n) :
    (sortWorldK enc k W g 0 q d.toArray os).ownsRow base e k (.slice (some ⟨g, 0, none⟩) n c) n (d.flatMap enc) ∧ W.grownBy (sortWorldK enc k W g 0 q d.toArray os) (some g) := by
  rcases h.2 with ⟨hn, _⟩ | ⟨g', cap, cur, hv, hb, hh, r1, r2, r3, r4⟩
  · simp at hn
  · have hv' : g = g' ∧ c = cap := by simpa using hv
    obtain ⟨rfl, rfl⟩ := hv'
    have hg : g < W.heap.size := (Array.getElem?_eq_some_iff.1 hh).1
    have hheap : (sortWorldK enc k W g 0 q d.toArray os).heap[g]? = some (.cells (putCells id 0 (flatK enc k d.toArray) cur) e (0, 0)) := by
      unfold sortWorldK putRowK
      rw [heap_grow_old _ _ (by simpa [putRow, mapBlock, Sort.ahead] using hg)]
      simp [putRow, mapBlock, Sort.ahead, Array.getElem?_modify, hh, onCells]
    have hle : n * k ≤ cur.size := by rw [r3]; exact Nat.mul_le_mul_right k r1
    refine ⟨⟨by rw [fl_len hk, hd], .inr ⟨g, c, _, rfl, hb, hheap, r1, r2, by simp [putCells, r3], ?_⟩⟩, rfl, rfl, rfl, ?_, fun i hi hne => ?_⟩
    · rw [← fl_flat hk h0]
      apply List.ext_getElem?
      intro j
      by_cases hj : j < n * k
      · have hj2 : j < (flatK enc k d.toArray).size := by simpa [hd] using hj
        rw [List.getElem?_take_of_lt hj, Array.getElem?_toList, Array.getElem?_toList, Array.getElem?_eq_getElem hj2]
        simp [putCells, hd, hj, show j < cur.size by omega]
      · rw [List.getElem?_take_eq_none (by omega), List.getElem?_eq_none (by simp [hd]; omega)]
    · simp [sortWorldK, putRowK, putRow, mapBlock, Sort.ahead, grow]
    · unfold sortWorldK putRowK
      rw [heap_grow_old _ _ (by simpa [putRow, mapBlock, Sort.ahead] using hi)]
      have : g ≠ i := fun e => hne (by rw [e])
      simp [putRow, mapBlock, Sort.ahead, Array.getElem?_modify, this]
end Go.Proofs.Ytjhdlcemeemlhaa
