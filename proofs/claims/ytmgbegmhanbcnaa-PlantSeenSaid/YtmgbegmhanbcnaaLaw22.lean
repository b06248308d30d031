/- The law package's own check of the eye; the numbers of an eye from tick to tick. -/
import Derived.Test.YtmgbegmhanbcnaaEyeL
namespace Go.Proofs.Ytmgbegmhanbcnaa
open Go.RowKit
set_option linter.unusedVariables false
set_option linter.unusedSimpArgs false
set_option maxRecDepth 100000

/-- An eye at tick k, when the last drop was in tick L, and the last R ticks were shaded. -/
def ApIn (e : Gz) (k : Nat) (L R : Int) : Prop :=
  0 ≤ R ∧ R ≤ k ∧ e.ru = R ∧ 0 ≤ e.wt ∧ e.wt ≤ 4 ∧ (e.wt = 0 → L + 5 ≤ k) ∧ (0 < e.wt → e.wt = L + 5 - k) ∧ (e.sh = e.on → e.rn = 0) ∧ (e.sh ≠ e.on → e.rn = 1) ∧ (e.sh = true → 1 ≤ R)
theorem ap_start : ApIn gz0 0 (-9) 0 := by
  refine ⟨by omega, by omega, rfl, by decide, by decide, fun _ => by omega, fun h => absurd h (by decide), fun _ => rfl, fun h => absurd rfl h, fun h => absurd h (by decide)⟩
theorem dw_in {n : Int} (h0 : 0 ≤ n) (h1 : n ≤ 4) : dwV n = n := by unfold dwV; split <;> (try split) <;> omega
theorem sg_in {R : Int} (s : Bool) (h0 : 0 ≤ R) (h1 : R ≤ 1000000) : sgV R s = if s = true then R + 1 else 0 := by
  unfold sgV; rw [with_2 h0 (by omega)]
theorem ap_next {e : Gz} {k : Nat} {L R : Int} (a : Int) (h : ApIn e k L R) (hk : k ≤ 100000) :
    ApIn (gzN e a) (k + 1) (if gzD e a = true then (k : Int) else L) (if gzS e a = true then R + 1 else 0) ∧
      (gzD e a = true → 5 ≤ (k : Int) - L ∧ gzS e a = true ∧ 1 ≤ R) ∧ gzT e a = decide (12 ≤ (if gzS e a = true then R + 1 else 0)) := by
  obtain ⟨h0, h1, h2, h3, h4, h5, h6, h7, h8, h9⟩ := h
  have hT : gzT e a = decide (12 ≤ (if gzS e a = true then R + 1 else 0)) := by
    unfold gzT; rw [h2, sg_in _ h0 (by omega)]
  have hru : (gzN e a).ru = if gzS e a = true then R + 1 else 0 := by
    show sgV e.ru (gzS e a) = _
    rw [h2, sg_in _ h0 (by omega)]
  have hE : gzE e a = true → gzS e a = true ∧ 1 ≤ R := by
    unfold gzE dbO
    intro h
    rw [Bool.and_eq_true] at h
    obtain ⟨ha, hb⟩ := h
    have hon : e.on = false := by simpa using hb
    rw [hon] at ha h7 h8
    cases hs : gzS e a
    · rw [hs] at ha; simp at ha
    · refine ⟨rfl, ?_⟩
      rw [hs, if_neg (by simp)] at ha
      cases hsh : e.sh
      · have := h7 hsh
        rw [this] at ha; simp at ha
      · exact h9 hsh
  have hD : gzD e a = (decide (e.wt = 0) && gzE e a) := by unfold gzD rfB; rw [dw_in h3 h4]
  have hwt : (gzN e a).wt = if 0 < e.wt then e.wt - 1 else if gzE e a = true then 4 else 0 := by
    show rfV e.wt (gzE e a) = _
    unfold rfV; rw [dw_in h3 h4]
  have hsh : (gzN e a).sh = gzS e a := rfl
  have hon : (gzN e a).on = dbO e.on e.rn (gzS e a) := rfl
  have hrn : (gzN e a).rn = dbR e.on e.rn (gzS e a) := rfl
  refine ⟨⟨?_, ?_, hru, ?_, ?_, ?_, ?_, ?_, ?_, ?_⟩, ?_, hT⟩
  · split <;> omega
  · split <;> omega
  · rw [hwt]; split <;> (try split) <;> omega
  · rw [hwt]; split <;> (try split) <;> omega
  · rw [hwt, hD]
    intro h
    cases hE2 : gzE e a
    · simp only [Bool.and_false]
      rw [if_neg (by simp)]
      rw [hE2] at h
      by_cases hw : 0 < e.wt
      · have := h6 hw; rw [if_pos hw] at h; omega
      · have := h5 (by omega); omega
    · rw [hE2] at h
      by_cases hw : 0 < e.wt
      · have := h6 hw
        rw [if_pos hw] at h
        rw [decide_eq_false (by omega), Bool.false_and, if_neg (by simp)]
        omega
      · rw [if_neg hw, if_pos rfl] at h; omega
  · rw [hwt, hD]
    intro h
    by_cases hw : 0 < e.wt
    · have := h6 hw
      rw [if_pos hw] at h ⊢
      rw [decide_eq_false (by omega), Bool.false_and, if_neg (by simp)]
      omega
    · rw [if_neg hw] at h ⊢
      cases hE2 : gzE e a
      · rw [hE2, if_neg (by simp)] at h; omega
      · rw [if_pos rfl, decide_eq_true (by omega), Bool.true_and, if_pos rfl]; omega
  · rw [hsh, hon, hrn]
    unfold dbO dbR
    intro h
    split
    · rfl
    · rename_i hne
      rw [if_neg hne] at h
      split
      · rfl
      · rename_i hr
        rw [if_neg hr] at h
        exact absurd h hne
  · rw [hsh, hon, hrn]
    unfold dbO dbR
    intro h
    split
    · rename_i he
      rw [if_pos he] at h
      exact absurd he h
    · rename_i hne
      rw [if_neg hne] at h
      split
      · rename_i hr
        rw [if_pos hr] at h
        exact absurd rfl h
      · rfl
  · rw [hsh]
    intro h
    rw [if_pos h]; omega
  · rw [hD]
    intro h
    rw [Bool.and_eq_true, decide_eq_true_eq] at h
    obtain ⟨ha, hb⟩ := h
    have := h5 ha
    obtain ⟨hc, hd⟩ := hE hb
    exact ⟨by omega, hc, hd⟩
end Go.Proofs.Ytmgbegmhanbcnaa
