/- The drops of some lights, as numbers. -/
import Derived.Test.YtmgbegmhanbcnaaSpec2
namespace Go.Proofs.Ytmgbegmhanbcnaa
open Go.RowKit
set_option linter.unusedVariables false
set_option linter.unusedSimpArgs false
set_option maxRecDepth 100000

theorem fm_step {o s s' : Bool} {r : Int} (h0 : s = o → r = 0) (h1 : s ≠ o → r = 1) : dbO o r s' = if s' = s then s' else o := by
  cases o <;> cases s <;> cases s'
  · rw [h0 rfl]; decide
  · rw [h0 rfl]; decide
  · rw [h1 (by simp)]; decide
  · rw [h1 (by simp)]; decide
  · rw [h1 (by simp)]; decide
  · rw [h1 (by simp)]; decide
  · rw [h0 rfl]; decide
  · rw [h0 rfl]; decide
theorem gzN_on (e : Gz) (a : Int) : (gzN e a).on = dbO e.on e.rn (gzS e a) := by exact rfl
theorem gz_on (xs : List Int) (k : Nat) : (gzAt xs (k + 1)).on = dbO (gzAt xs k).on (gzAt xs k).rn (shF xs k) := by
  show (gzN (gzAt xs k) (xs.getD k 0)).on = _
  exact gzN_on _ _

/-- The drops ahead of tick k. -/
def dropsL (xs : List Int) : Nat → List Int
  | 0 => []
  | k + 1 => if gzD (gzAt xs k) (xs.getD k 0) = true then dropsL xs k ++ [(k : Int)] else dropsL xs k
def laD (ds : List Int) : Int := if ds.length = 0 then -9 else ds.getD (ds.length - 1) 0
theorem laD_push (ds : List Int) (x : Int) : laD (ds ++ [x]) = x := by
  unfold laD
  rw [if_neg (by simp)]
  simp [List.getD]
theorem dropsL_len (xs : List Int) : ∀ k, (dropsL xs k).length ≤ k
  | 0 => Nat.le_refl _
  | k + 1 => by
    have := dropsL_len xs k
    unfold dropsL
    split
    · simp; omega
    · omega
theorem laD_bd (xs : List Int) : ∀ k, -9 ≤ laD (dropsL xs k) ∧ laD (dropsL xs k) ≤ k
  | 0 => by show -9 ≤ (-9 : Int) ∧ (-9 : Int) ≤ ((0 : Nat) : Int); omega
  | k + 1 => by
    have := laD_bd xs k
    unfold dropsL
    split
    · rw [laD_push]; omega
    · omega
theorem ap_drops (xs : List Int) : ∀ k, k ≤ 100000 → ∃ R, ApIn (gzAt xs k) k (laD (dropsL xs k)) R
  | 0, _ => ⟨0, ap_start⟩
  | k + 1, h => by
    obtain ⟨R, hR⟩ := ap_drops xs k (by omega)
    have hn := (ap_next (xs.getD k 0) hR (by omega)).1
    refine ⟨if gzS (gzAt xs k) (xs.getD k 0) = true then R + 1 else 0, ?_⟩
    have e : laD (dropsL xs (k + 1)) = if gzD (gzAt xs k) (xs.getD k 0) = true then (k : Int) else laD (dropsL xs k) := by
      show laD (if gzD (gzAt xs k) (xs.getD k 0) = true then dropsL xs k ++ [(k : Int)] else dropsL xs k) = _
      split
      · exact laD_push _ _
      · rfl
    rw [e]
    exact hn
/-- Whether the last drop is near. -/
def rsB (ds : List Int) (t : Int) : Bool := decide (t - laD ds ≤ 4)
theorem drop_form (xs : List Int) (k : Nat) (hk : k ≤ 100000) : gzD (gzAt xs k) (xs.getD k 0) = ((gzAt xs (k + 1)).on && !(gzAt xs k).on && !rsB (dropsL xs k) k) := by
  obtain ⟨R, h⟩ := ap_drops xs k hk
  obtain ⟨_, _, _, h3, h4, h5, h6, _⟩ := h
  have hr : rsB (dropsL xs k) k = !decide ((gzAt xs k).wt = 0) := by
    unfold rsB
    by_cases e : (gzAt xs k).wt = 0
    · have := h5 e
      rw [decide_eq_true e, decide_eq_false (by omega)]; rfl
    · have := h6 (by omega)
      rw [decide_eq_false e, decide_eq_true (by omega)]; rfl
  rw [hr, Bool.not_not, gz_on]
  show rfB (gzAt xs k).wt (dbO (gzAt xs k).on (gzAt xs k).rn (gzS (gzAt xs k) (xs.getD k 0)) && !(gzAt xs k).on) = _
  unfold rfB
  rw [dw_in h3 h4, Bool.and_comm]
  rfl
theorem firm_on (xs : List Int) (n : Nat) (hn : n ≤ 100000) : ∀ k, k < n → fmB ((List.range n).map (shF xs)) k = (gzAt xs (k + 1)).on
  | 0, h => by
    rw [gz_on]
    show false = dbO gz0.on gz0.rn (shF xs 0)
    cases shF xs 0 <;> decide
  | k + 1, h => by
    have ih := firm_on xs n hn k (by omega)
    obtain ⟨R, hR⟩ := ap_drops xs (k + 1) (by omega)
    obtain ⟨_, _, _, _, _, _, _, h7, h8, _⟩ := hR
    rw [gz_sh] at h7 h8
    rw [gz_on, fm_step h7 h8]
    have e1 : ((List.range n).map (shF xs)).getD (k + 1) false = shF xs (k + 1) := by simp [List.getD, h]
    have e0 : ((List.range n).map (shF xs)).getD k false = shF xs k := by simp [List.getD, show k < n by omega]
    show (if ((List.range n).map (shF xs)).getD (k + 1) false = ((List.range n).map (shF xs)).getD k false then ((List.range n).map (shF xs)).getD (k + 1) false else fmB ((List.range n).map (shF xs)) k) = _
    rw [e1, e0, ih]
end Go.Proofs.Ytmgbegmhanbcnaa
