/- An argument that is a struct or an array, of whatever depth, whose cells are numbers, truths and strings: opened to its cells. And a slice of such elements. -/
import Derived.Test.YtjhdlcemeemlhaaLift
import Derived.ChangeMaps5
import Derived.ChangeArms
import Derived.Deep.Slices
namespace Go.Proofs.Ytjhdlcemeemlhaa
set_option maxRecDepth 100000
open Go.ChangeShapes Go.WideShapes Go.ChangeAt Go.RowKit Go.Deep
set_option linter.unusedVariables false
set_option linter.unusedSimpArgs false

/-- What a cell of this type holds. -/
def leafIs : TypeDesc → Value → Prop
  | .int k, v => ∃ a, v = .int k a ∧ (Lit.int k a).wf = true
  | .float k, v => ∃ a, v = .float k a ∧ (Lit.float k a).wf = true
  | .bool, v => ∃ b, v = .bool b
  | .string, v => ∃ s : ByteArray, v = .string s ∧ s.size ≤ maxLen
  | _, _ => False
/-- These are the cells of a type. -/
def leafB (P : Program) : Nat → TypeId → List TypeDesc → Bool
  | 0, _, _ => false
  | n + 1, t, ls =>
    match P.underlying t with
    | some .bool => match ls with
      | [.bool] => true
      | _ => false
    | some (.int k) => match ls with
      | [.int k'] => decide (k' = k)
      | _ => false
    | some (.float k) => match ls with
      | [.float k'] => decide (k' = k)
      | _ => false
    | some .string => match ls with
      | [.string] => true
      | _ => false
    | some (.struct fs) => decide (ls.length = P.cellsOf t) && (fs.toList.all fun f => decide (f.offset + P.cellsOf f.type ≤ P.cellsOf t) && leafB P n f.type ((ls.drop f.offset).take (P.cellsOf f.type))) &&
        ((List.range ls.length).all fun i => fs.toList.any fun f => decide (f.offset ≤ i) && decide (i < f.offset + P.cellsOf f.type))
    | some (.array m e) => decide (ls.length = P.cellsOf t) && decide (P.cellsOf t = m * P.cellsOf e) && decide (0 < P.cellsOf e) && (List.range m).all fun i => leafB P n e ((ls.drop (i * P.cellsOf e)).take (P.cellsOf e))
    | _ => false

section
variable {H : Type} {enc : TypeId × Value → H} {P : Program} {W : World} {base : Nat} {sp : Nat → Bool} {held : Bool}

def LeavesIs (ls : List TypeDesc) (cs : List Value) : Prop := cs.length = ls.length ∧ ∀ i l, ls[i]? = some l → leafIs l (cs.getD i undef)

theorem getD_part {cs : List Value} {o c i : Nat} (h0 : o ≤ i) (h1 : i < o + c) : ((cs.drop o).take c).getD (i - o) undef = cs.getD i undef := by
  simp only [List.getD_eq_getElem?_getD]
  rw [List.getElem?_take_of_lt (by omega), List.getElem?_drop, show o + (i - o) = i by omega]
theorem get_part {ls : List TypeDesc} {o c i : Nat} (h0 : o ≤ i) (h1 : i < o + c) : ((ls.drop o).take c)[i - o]? = ls[i]? := by
  rw [List.getElem?_take_of_lt (by omega), List.getElem?_drop, show o + (i - o) = i by omega]

theorem mapM_at {α β : Type} (f : α → Option β) : ∀ (L : List α) (ys : List β), L.mapM f = some ys → ∀ a ∈ L, ∃ y, f a = some y
  | [], _, _ => by simp
  | a :: L, ys, h => by
    rw [List.mapM_cons] at h
    simp only [bind, Option.bind_eq_some_iff, pure, Option.some.injEq] at h
    obtain ⟨y, hy, zs, hz, _⟩ := h
    intro b hb
    rcases List.mem_cons.1 hb with rfl | hb
    · exact ⟨y, hy⟩
    · exact mapM_at f L zs hz b hb

theorem leaves_of : ∀ (n : Nat) (t : TypeId) (ls : List TypeDesc) (fuel : Nat) (cs : List Value) (x : DataW H × List MemPlace),
    leafB P n t ls = true → DataW.trod enc P W base sp held fuel t cs = some x → LeavesIs ls cs
  | 0, _, _, _, _, _, h, _ => by simp [leafB] at h
  | n + 1, t, ls, 0, cs, x, h, ht => by simp [DataW.trod] at ht
  | n + 1, t, ls, fuel + 1, cs, x, h, ht => by
    unfold leafB at h
    unfold DataW.trod at ht
    cases hu : P.underlying t with
    | none => rw [hu] at h; simp at h
    | some u =>
      rw [hu] at h ht
      cases u with
      | bool =>
        match ls, h with
        | [.bool], _ =>
          match cs, ht with
          | [.bool b], _ => exact ⟨rfl, fun i l hl => by
              match i, hl with
              | 0, hl => simp at hl; subst hl; exact ⟨b, rfl⟩⟩
      | int k =>
        match ls, h with
        | [.int k'], h =>
          have hk : k' = k := by simpa using h
          subst hk
          match cs, ht with
          | [.int k2 a], ht =>
            by_cases hc : k2 = k' ∧ (Lit.int k' a).wf = true
            · obtain ⟨rfl, hw⟩ := hc
              exact ⟨rfl, fun i l hl => by
                match i, hl with
                | 0, hl => simp at hl; subst hl; exact ⟨a, rfl, hw⟩⟩
            · simp [hc] at ht
      | float k =>
        match ls, h with
        | [.float k'], h =>
          have hk : k' = k := by simpa using h
          subst hk
          match cs, ht with
          | [.float k2 a], ht =>
            by_cases hc : k2 = k' ∧ (Lit.float k' a).wf = true
            · obtain ⟨rfl, hw⟩ := hc
              exact ⟨rfl, fun i l hl => by
                match i, hl with
                | 0, hl => simp at hl; subst hl; exact ⟨a, rfl, hw⟩⟩
            · simp [hc] at ht
      | string =>
        match ls, h with
        | [.string], _ =>
          match cs, ht with
          | [.string s], ht =>
            by_cases hc : s.size ≤ maxLen
            · exact ⟨rfl, fun i l hl => by
                match i, hl with
                | 0, hl => simp at hl; subst hl; exact ⟨s, rfl, hc⟩⟩
            · simp [hc] at ht
      | struct fs =>
        simp only [Bool.and_eq_true, decide_eq_true_eq, List.all_eq_true, List.any_eq_true, List.mem_range] at h
        obtain ⟨⟨hl, hf⟩, hcov⟩ := h
        simp only at ht
        by_cases hc : cs.length = P.cellsOf t
        · rw [if_pos hc] at ht
          simp only [Option.map_eq_some_iff] at ht
          obtain ⟨ys, hy, _⟩ := ht
          refine ⟨by omega, fun i l hi => ?_⟩
          have hi2 : i < ls.length := (List.getElem?_eq_some_iff.1 hi).1
          obtain ⟨f, hfm, h0, h1⟩ := hcov i hi2
          obtain ⟨y, hy2⟩ := mapM_at _ _ _ hy f hfm
          obtain ⟨_, hk⟩ := leaves_of n f.type _ fuel _ y (hf f hfm).2 hy2
          have := hk (i - f.offset) l (by rw [get_part h0 h1]; exact hi)
          rwa [getD_part h0 h1] at this
        · simp [hc] at ht
      | array m e =>
        simp only [Bool.and_eq_true, decide_eq_true_eq, List.all_eq_true, List.mem_range] at h
        obtain ⟨⟨⟨hl, hm⟩, hp⟩, hf⟩ := h
        simp only at ht
        by_cases hc : cs.length = P.cellsOf t
        · rw [if_pos hc] at ht
          simp only [Option.map_eq_some_iff] at ht
          obtain ⟨ys, hy, _⟩ := ht
          refine ⟨by omega, fun i l hi => ?_⟩
          have hi2 : i < ls.length := (List.getElem?_eq_some_iff.1 hi).1
          have hj : i / P.cellsOf e < m := by rw [Nat.div_lt_iff_lt_mul hp]; omega
          have hd := Nat.div_add_mod i (P.cellsOf e)
          have hmod := Nat.mod_lt i hp
          rw [Nat.mul_comm] at hd
          obtain ⟨y, hy2⟩ := mapM_at _ _ _ hy (i / P.cellsOf e) (by simpa using hj)
          obtain ⟨_, hk⟩ := leaves_of n e _ fuel _ y (hf _ hj) hy2
          have h0 : i / P.cellsOf e * P.cellsOf e ≤ i := by omega
          have h1 : i < i / P.cellsOf e * P.cellsOf e + P.cellsOf e := by omega
          have := hk (i - i / P.cellsOf e * P.cellsOf e) l (by rw [get_part h0 h1]; exact hi)
          rwa [getD_part h0 h1] at this
        · simp [hc] at ht
      | _ => simp at h

/-- A struct or an array by value, opened to its cells. -/
theorem open_leaves {t : TypeId} {v : Value} {d : DataW H} {ps : List MemPlace} {r : Reach} {b0 : Nat} (n : Nat) (ls : List TypeDesc)
    (ha : (match P.underlying t with | some (.struct _) => true | some (.array _ _) => true | _ => false) = true) (hls : leafB P n t ls = true)
    (hval : Value.okWide P W r b0 t v) (hd : DataW.Trod enc P W base sp held t v d ps) : ∃ cs : List Value, v = .agg cs.toArray ∧ LeavesIs ls cs := by
  obtain ⟨fuel, hf⟩ := hd
  have hk := leaves_of (enc := enc) n t ls fuel _ _ hls hf
  cases hu : P.underlying t with
  | none => rw [hu] at ha; simp at ha
  | some u =>
    rw [hu] at ha
    cases u with
    | struct fs =>
      simp only [Value.okWide, hu] at hval
      obtain ⟨cs, rfl, _⟩ := hval
      exact ⟨cs.toList, by simp, by simpa [Value.cells] using hk⟩
    | array m e =>
      simp only [Value.okWide, hu] at hval
      obtain ⟨cs, rfl, _⟩ := hval
      exact ⟨cs.toList, by simp, by simpa [Value.cells] using hk⟩
    | _ => simp at ha
end

/-! ### A slice whose elements have such cells; nil let in. -/
def Rows (ls : List TypeDesc) (w : World) (A : Option Addr) (n : Nat) (rs : List (List Value)) : Prop :=
  rs.length = n ∧ (∀ i, i < n → LeavesIs ls (rs.getD i [])) ∧
    (0 < n → ∃ b off, A = some ⟨b, off, Option.none⟩ ∧ b < w.heap.size ∧ ∀ i, i < n → ∀ j, j < ls.length → w.cell? ⟨b, off + (i * ls.length + j), Option.none⟩ = some ((rs.getD i []).getD j undef))
theorem Rows.below {ls : List TypeDesc} {w w' : World} {A : Option Addr} {n : Nat} {rs : List (List Value)} (h : Rows ls w A n rs) (hb : Below w.heap.size w w') : Rows ls w' A n rs :=
  ⟨h.1, h.2.1, fun hn => by
    obtain ⟨b, off, rfl, hlt, hc⟩ := h.2.2 hn
    exact ⟨b, off, rfl, Nat.lt_of_lt_of_le hlt hb.size, fun i hi j hj => (hb.cell (p := ⟨b, off + (i * ls.length + j), Option.none⟩) hlt).trans (hc i hi j hj)⟩⟩

theorem open_rows_arg {H : Type} {enc : TypeId × Value → H} {P : Program} {W : World} {t e : TypeId} {nb base : Nat} {v : Value} {d : DataW H} {p : List MemPlace} (n : Nat) (ls : List TypeDesc)
    (ht : P.underlying t = some (.slice e)) (hls : leafB P n e ls = true) (hc : P.cellsOf e = ls.length) (hp : 0 < ls.length) (hb : P.bytesOf e = nb)
    (hval : Value.okWide P W .any base t v) (h : DataW.Trod enc P W 0 (fun _ => true) true t v d p) (hlt : ∀ x ∈ p, x.block < W.heap.size)
    (hw : ∀ n ∈ d.weights P t, n ≤ reachBytes) :
    ∃ A n c rs, v = .slice A n c ∧ Rows ls W A n rs ∧ n ≤ c ∧ n * nb ≤ 140737488351232 := by
  obtain ⟨A, len, cap, rfl⟩ := okWide_slice ht hval
  obtain ⟨fuel, hf⟩ := h
  rcases open_slice ht hf with ⟨hcs, hx⟩ | ⟨a, len', cap', m, n', D, Pl, hcs, _, hl, hm, hmm, hx, hi⟩
  · simp [Value.cells] at hcs
    obtain ⟨rfl, rfl, rfl⟩ := hcs
    exact ⟨none, 0, 0, [], rfl, ⟨rfl, fun i h => absurd h (by omega), fun h => absurd h (by omega)⟩, by omega, by omega⟩
  · simp [Value.cells] at hcs
    obtain ⟨rfl, rfl, rfl⟩ := hcs
    simp only [Prod.mk.injEq] at hx
    obtain ⟨rfl, rfl⟩ := hx
    simp only [if_true] at hmm
    obtain rfl := hmm
    have hwt : (len + (m - len)) * nb ≤ 140737488351232 := by
      have := hw ((len + (m - len)) * nb) (by simp [DataW.weights, ht, hb])
      simpa [reachBytes] using this
    have hle : len * nb ≤ (len + (m - len)) * nb := Nat.mul_le_mul_right _ (by omega)
    have hch : ∀ i, ∃ cs' : List Value, i < m → W.cells? 0 (a.add (i * P.cellsOf e)) (P.cellsOf e) = some cs' ∧ LeavesIs ls cs' := by
      intro i
      by_cases hic : i < m
      · obtain ⟨cs', h1, h2⟩ := hi i hic
        exact ⟨cs', fun _ => ⟨h1, leaves_of n e ls _ _ _ hls h2⟩⟩
      · exact ⟨[], fun h => absurd h hic⟩
    obtain ⟨R, hR⟩ : ∃ R : Nat → List Value, ∀ i, i < m → W.cells? 0 (a.add (i * P.cellsOf e)) (P.cellsOf e) = some (R i) ∧ LeavesIs ls (R i) :=
      ⟨fun i => Classical.choose (hch i), fun i => Classical.choose_spec (hch i)⟩
    have hg : ∀ i, i < len → ((List.range len).map R).getD i [] = R i := by
      intro i hi
      simp [List.getD_eq_getElem?_getD, hi]
    refine ⟨some a, len, m, (List.range len).map R, rfl, ⟨by simp, fun i hi => by rw [hg i hi]; exact (hR i (by omega)).2, fun hn => ?_⟩, hl, by omega⟩
    have hcell : ∀ i, i < len → ∀ j, j < ls.length → W.cell? (a.add (i * ls.length + j)) = some ((R i).getD j undef) := by
      intro i hi j hj
      obtain ⟨h1, h2, h3⟩ := hR i (by omega)
      obtain ⟨_, h4, h5⟩ := World.cells?_some h1
      have := h5 j (by omega)
      rw [add_add, hc] at this
      rw [this, List.getD_eq_getElem?_getD, List.getElem?_eq_getElem (by omega)]
      rfl
    obtain ⟨b, off, spot⟩ := a
    have hspot : spot = none := by simpa [Addr.add] using World.cell?_spot (hcell 0 hn 0 hp)
    subst hspot
    refine ⟨b, off, rfl, hlt (.cell b off) ?_, fun i hi j hj => ?_⟩
    · refine List.mem_append_left _ (MemPlace.mem_row.2 ⟨0, ?_, by simp⟩)
      rw [hc]; exact Nat.mul_pos (by omega) hp
    · rw [hg i hi, ← hcell i hi j hj]
      rw [Go.WideShapes.add_plain]
end Go.Proofs.Ytjhdlcemeemlhaa
