/- Runs of truths: the plain mathematics. -/
import Derived.Test.YtgfioiclhoiobaaStream
namespace Go.Proofs.Ytgfioiclhoiobaa
open Go.RowKit
set_option linter.unusedVariables false

theorem sg_in {r : Int} (h0 : 0 ≤ r) (h1 : r ≤ 1099511627776) (p : Bool) : sgV r p = if p = true then r + 1 else 0 := by
  unfold sgV; rw [withT_2 h0 h1]
theorem rn_le (ps : List Bool) : ∀ k : Nat, rnK ps k ≤ k
  | 0 => by simp [rnK]
  | k + 1 => by
    have h := rn_le ps k
    have ⟨b0, b1⟩ := rn_bd ps k
    unfold rnK sgV withV
    split
    · split <;> (try split) <;> (try split) <;> omega
    · omega
theorem rn_next (ps : List Bool) {k : Nat} (hk : k ≤ 1000) : rnK ps (k + 1) = if ps.getD k false = true then rnK ps k + 1 else 0 := by
  have h := rn_le ps k
  have ⟨b0, b1⟩ := rn_bd ps k
  show sgV (rnK ps k) (ps.getD k false) = _
  exact sg_in b0 (by omega) _
theorem rn_same {ps qs : List Bool} : ∀ k : Nat, (∀ i, i < k → ps.getD i false = qs.getD i false) → rnK ps k = rnK qs k
  | 0, _ => rfl
  | k + 1, h => by
    show sgV (rnK ps k) (ps.getD k false) = sgV (rnK qs k) (qs.getD k false)
    rw [rn_same k (fun i hi => h i (by omega)), h k (by omega)]
theorem str_same {ps qs : List Bool} {n : Nat} (h : ∀ i, i < n → ps.getD i false = qs.getD i false) : strB ps n = strB qs n := by
  unfold strB
  rw [Bool.eq_iff_iff, List.any_eq_true, List.any_eq_true]
  constructor
  · rintro ⟨k, hk, h1⟩
    exact ⟨k, hk, by rw [← rn_same (k + 1) (fun i hi => h i (by have := List.mem_range.1 hk; omega))]; exact h1⟩
  · rintro ⟨k, hk, h1⟩
    exact ⟨k, hk, by rw [rn_same (k + 1) (fun i hi => h i (by have := List.mem_range.1 hk; omega))]; exact h1⟩
theorem str_iff {ps : List Bool} {n : Nat} : strB ps n = true ↔ ∃ k, k < n ∧ 12 ≤ rnK ps (k + 1) := by
  unfold strB
  rw [List.any_eq_true]
  constructor
  · rintro ⟨k, hk, h⟩; exact ⟨k, List.mem_range.1 hk, by simpa using h⟩
  · rintro ⟨k, hk, h⟩; exact ⟨k, List.mem_range.2 hk, by simpa using h⟩
theorem str_next (ps : List Bool) (n : Nat) : strB ps (n + 1) = (strB ps n || decide (12 ≤ rnK ps (n + 1))) := by
  unfold strB; rw [List.range_succ, List.any_append]; simp
theorem str_short (ps : List Bool) {n : Nat} (h : n ≤ 11) : strB ps n = false :=
  str_no fun j hj => by have := rn_le ps (j + 1); omega
/-- So many at the end are true. -/
theorem rn_last (ps : List Bool) : ∀ (k : Nat), k ≤ 1000 → ∀ q : Nat, (q : Int) ≤ rnK ps k ↔ q ≤ k ∧ ∀ d, d < q → ps.getD (k - 1 - d) false = true
  | 0, _, q => by
    simp only [rnK]
    constructor
    · intro h; exact ⟨by omega, fun d hd => absurd hd (by omega)⟩
    · intro h; omega
  | k + 1, hk, q => by
    rw [rn_next ps (by omega)]
    have ih := rn_last ps k (by omega)
    cases hp : ps.getD k false
    · simp only [Bool.false_eq_true, if_false]
      constructor
      · intro h; exact ⟨by omega, fun d hd => absurd hd (by omega)⟩
      · rintro ⟨h1, h2⟩
        rcases Nat.eq_zero_or_pos q with h0 | h0
        · omega
        · have := h2 0 h0
          simp only [Nat.add_sub_cancel, Nat.sub_zero] at this
          rw [hp] at this; cases this
    · simp only [if_true]
      cases q with
      | zero =>
        have := (rn_bd ps k).1
        constructor
        · intro _; exact ⟨by omega, fun d hd => absurd hd (by omega)⟩
        · intro _; omega
      | succ q =>
        have hq := ih q
        constructor
        · intro h
          obtain ⟨h1, h2⟩ := hq.1 (by omega)
          refine ⟨by omega, fun d hd => ?_⟩
          cases d with
          | zero => simpa using hp
          | succ d =>
            have := h2 d (by omega)
            rwa [show k + 1 - 1 - (d + 1) = k - 1 - d by omega]
        · rintro ⟨h1, h2⟩
          have := hq.2 ⟨by omega, fun d hd => by
            have := h2 (d + 1) (by omega)
            rwa [show k + 1 - 1 - (d + 1) = k - 1 - d by omega] at this⟩
          omega
theorem rn_go {ps : List Bool} {i q : Nat} (hi : i < 1000) (h : (q : Int) < rnK ps (i + 1)) : q ≤ i ∧ ps.getD (i - q) false = true := by
  obtain ⟨h1, h2⟩ := (rn_last ps (i + 1) (by omega) (q + 1)).1 (by omega)
  exact ⟨by omega, by have := h2 q (by omega); rwa [show i + 1 - 1 - q = i - q by omega] at this⟩
theorem rn_ends {ps : List Bool} {i q : Nat} (hi : i < 1000) (h : (q : Int) = rnK ps (i + 1)) (hq : q ≤ i) : ps.getD (i - q) false = false := by
  cases hp : ps.getD (i - q) false
  · rfl
  · have hl := (rn_last ps (i + 1) (by omega) q).1 (by omega)
    have := (rn_last ps (i + 1) (by omega) (q + 1)).2 ⟨by omega, fun d hd => by
      rcases (by omega : d < q ∨ d = q) with h | rfl
      · exact hl.2 d h
      · rwa [show i + 1 - 1 - d = i - d by omega]⟩
    omega
/-- Twelve side by side. -/
theorem str_window {ps qs : List Bool} {i : Nat} (hi : 11 ≤ i) (hi2 : i < 1000) (h : ∀ d, d < 12 → qs.getD d false = ps.getD (i - 11 + d) false) : strB qs 12 = decide (12 ≤ rnK ps (i + 1)) := by
  rw [Bool.eq_iff_iff, str_iff]
  simp only [decide_eq_true_eq]
  constructor
  · rintro ⟨k, hk, h1⟩
    have hl := rn_le qs (k + 1)
    obtain rfl : k = 11 := by omega
    obtain ⟨_, h2⟩ := (rn_last qs 12 (by omega) 12).1 h1
    refine (rn_last ps (i + 1) (by omega) 12).2 ⟨by omega, fun d hd => ?_⟩
    have := h2 d hd
    rw [h _ (by omega)] at this
    rwa [show i - 11 + (12 - 1 - d) = i + 1 - 1 - d by omega] at this
  · intro h1
    obtain ⟨_, h2⟩ := (rn_last ps (i + 1) (by omega) 12).1 h1
    refine ⟨11, by omega, (rn_last qs 12 (by omega) 12).2 ⟨by omega, fun d hd => ?_⟩⟩
    rw [h _ (by omega), show i - 11 + (12 - 1 - d) = i + 1 - 1 - d by omega]
    exact h2 d hd

/-! ### Two lists, put together. -/
theorem rn_head (xs ys : List Bool) {k : Nat} (hk : k ≤ xs.length) : rnK (xs ++ ys) k = rnK xs k :=
  rn_same k fun i hi => by simp [List.getD, List.getElem?_append_left (show i < xs.length by omega)]
theorem rn_behind (xs ys : List Bool) : ∀ j : Nat, j ≤ 500 → xs.length ≤ 400 → rnK (xs ++ false :: ys) (xs.length + 1 + j) = rnK ys j
  | 0, _, ha => by
    show rnK (xs ++ false :: ys) (xs.length + 1) = 0
    rw [rn_next _ (by omega)]
    simp [List.getD]
  | j + 1, h, ha => by
    have ih := rn_behind xs ys j (by omega) ha
    rw [show xs.length + 1 + (j + 1) = (xs.length + 1 + j) + 1 by omega, rn_next (xs ++ false :: ys) (k := xs.length + 1 + j) (by omega), rn_next ys (k := j) (by omega), ih]
    have : (xs ++ false :: ys).getD (xs.length + 1 + j) false = ys.getD j false := by
      simp only [List.getD, List.getElem?_append_right (show xs.length ≤ xs.length + 1 + j by omega), show xs.length + 1 + j - xs.length = j + 1 by omega, List.getElem?_cons_succ]
    rw [this]
theorem rn_more (xs ys : List Bool) : ∀ j : Nat, j ≤ 500 → xs.length ≤ 400 → rnK ys j ≤ rnK (xs ++ ys) (xs.length + j)
  | 0, _, ha => (rn_bd _ _).1
  | j + 1, h, ha => by
    have ih := rn_more xs ys j (by omega) ha
    rw [show xs.length + (j + 1) = (xs.length + j) + 1 by omega, rn_next (xs ++ ys) (k := xs.length + j) (by omega), rn_next ys (k := j) (by omega)]
    have : (xs ++ ys).getD (xs.length + j) false = ys.getD j false := by
      simp only [List.getD, List.getElem?_append_right (show xs.length ≤ xs.length + j by omega), show xs.length + j - xs.length = j by omega]
    rw [this]
    split <;> omega
theorem str_apart (xs ys : List Bool) (ha : xs.length ≤ 400) (hb : ys.length ≤ 400) : strB (xs ++ false :: ys) (xs.length + 1 + ys.length) = (strB xs xs.length || strB ys ys.length) := by
  rw [Bool.eq_iff_iff, Bool.or_eq_true, str_iff, str_iff, str_iff]
  constructor
  · rintro ⟨k, hk, h⟩
    rcases (by omega : k < xs.length ∨ k = xs.length ∨ xs.length < k) with h1 | h1 | h1
    · rw [rn_head xs _ (by omega)] at h
      exact .inl ⟨k, h1, h⟩
    · subst h1
      have := rn_behind xs ys 0 (by omega) ha
      simp only [Nat.add_zero] at this
      rw [this] at h
      simp [rnK] at h
    · rw [show k + 1 = xs.length + 1 + (k - xs.length) by omega, rn_behind xs ys _ (by omega) ha] at h
      exact .inr ⟨k - xs.length - 1, by omega, by rwa [show k - xs.length - 1 + 1 = k - xs.length by omega]⟩
  · rintro (⟨k, hk, h⟩ | ⟨k, hk, h⟩)
    · exact ⟨k, by omega, by rwa [rn_head xs _ (by omega)]⟩
    · exact ⟨xs.length + 1 + k, by omega, by rw [show xs.length + 1 + k + 1 = xs.length + 1 + (k + 1) by omega, rn_behind xs ys _ (by omega) ha]; exact h⟩
theorem str_joined (xs ys : List Bool) (ha : xs.length ≤ 400) (hb : ys.length ≤ 400) (h : (strB xs xs.length || strB ys ys.length) = true) : strB (xs ++ ys) (xs.length + ys.length) = true := by
  rw [Bool.or_eq_true, str_iff, str_iff] at h
  rw [str_iff]
  rcases h with ⟨k, hk, h⟩ | ⟨k, hk, h⟩
  · exact ⟨k, by omega, by rwa [rn_head xs _ (by omega)]⟩
  · exact ⟨xs.length + k, by omega, by have := rn_more xs ys (k + 1) (by omega) ha; rw [show xs.length + k + 1 = xs.length + (k + 1) by omega]; omega⟩
end Go.Proofs.Ytgfioiclhoiobaa
