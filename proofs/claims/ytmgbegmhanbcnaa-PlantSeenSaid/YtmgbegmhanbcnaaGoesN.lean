/- The drops of a list that goes on, as numbers. -/
import Derived.Test.YtmgbegmhanbcnaaLaw23
namespace Go.Proofs.Ytmgbegmhanbcnaa
open Go.RowKit
set_option linter.unusedVariables false
set_option linter.unusedSimpArgs false
set_option maxRecDepth 100000

theorem btN_add (ds : List Int) (a b c : Int) (hab : a ≤ b) (hbc : b ≤ c) : ∀ k, btN ds a c k = btN ds a b k + btN ds b c k
  | 0 => rfl
  | k + 1 => by
    have ih := btN_add ds a b c hab hbc k
    unfold btN
    split <;> split <;> split <;> omega
theorem btN_first (ds : List Int) (n : Int) (q M : Nat) (hp : ∀ i, i < q → 0 ≤ ds.getD i 0 ∧ ds.getD i 0 < n) (hr : ∀ i, q ≤ i → i < M → n ≤ ds.getD i 0) : ∀ k, k ≤ M → btN ds 0 n k = if k ≤ q then k else q
  | 0, _ => by rw [if_pos (by omega)]; rfl
  | k + 1, h => by
    have ih := btN_first ds n q M hp hr k (by omega)
    unfold btN
    rw [ih]
    by_cases e : k < q
    · rw [if_pos (hp k e), if_pos (by omega), if_pos (by omega)]
    · have := hr k (by omega) (by omega)
      rw [if_neg (by omega), if_neg (show ¬ k + 1 ≤ q by omega)]
      split <;> omega
theorem getD_app {xs ys : List Int} {k : Nat} (h : k < xs.length) : (xs ++ ys).getD k 0 = xs.getD k 0 := by
  simp [List.getD, List.getElem?_append_left h]
theorem gz_app {xs ys : List Int} : ∀ k, k ≤ xs.length → gzAt (xs ++ ys) k = gzAt xs k
  | 0, _ => rfl
  | k + 1, h => by
    show gzN (gzAt (xs ++ ys) k) ((xs ++ ys).getD k 0) = gzN (gzAt xs k) (xs.getD k 0)
    rw [gz_app k (by omega), getD_app (by omega)]
theorem dropsL_app {xs ys : List Int} : ∀ k, k ≤ xs.length → dropsL (xs ++ ys) k = dropsL xs k
  | 0, _ => rfl
  | k + 1, h => by
    have ih := dropsL_app (xs := xs) (ys := ys) k (by omega)
    have e : gzD (gzAt (xs ++ ys) k) ((xs ++ ys).getD k 0) = gzD (gzAt xs k) (xs.getD k 0) := by rw [gz_app k (by omega), getD_app (by omega)]
    cases hd : gzD (gzAt xs k) (xs.getD k 0)
    · rw [drops_no hd, drops_no (e.trans hd), ih]
    · rw [drops_yes hd, drops_yes (e.trans hd), ih]
theorem drops_in (xs : List Int) : ∀ n, ∀ i, i < (dropsL xs n).length → 0 ≤ (dropsL xs n).getD i 0 ∧ (dropsL xs n).getD i 0 < n
  | 0, i, h => absurd h (by simp [dropsL])
  | n + 1, i, h => by
    have ih := drops_in xs n
    cases hd : gzD (gzAt xs n) (xs.getD n 0)
    · rw [drops_no hd] at h ⊢
      have := ih i h; omega
    · rw [drops_yes hd] at h ⊢
      by_cases e : i < (dropsL xs n).length
      · rw [getD_app e]; have := ih i e; omega
      · rw [List.length_append, List.length_singleton] at h
        obtain rfl : i = (dropsL xs n).length := by omega
        have e2 : (dropsL xs n ++ [(n : Int)]).getD (dropsL xs n).length 0 = n := by simp [List.getD]
        rw [e2]; omega
theorem drops_rise (xs : List Int) : ∀ n, ∀ i, i + 1 < (dropsL xs n).length → (dropsL xs n).getD i 0 < (dropsL xs n).getD (i + 1) 0
  | 0, i, h => absurd h (by simp [dropsL])
  | n + 1, i, h => by
    have ih := drops_rise xs n
    cases hd : gzD (gzAt xs n) (xs.getD n 0)
    · rw [drops_no hd] at h ⊢
      exact ih i h
    · rw [drops_yes hd] at h ⊢
      by_cases e : i + 1 < (dropsL xs n).length
      · rw [getD_app e, getD_app (by omega)]; exact ih i e
      · rw [List.length_append, List.length_singleton] at h
        obtain e1 : i + 1 = (dropsL xs n).length := by omega
        have e2 : (dropsL xs n ++ [(n : Int)]).getD (i + 1) 0 = n := by rw [e1]; simp [List.getD]
        rw [e2, getD_app (by omega)]
        exact (drops_in xs n i (by omega)).2
theorem drops_more (xs : List Int) (k : Nat) : ∀ n, k ≤ n → (dropsL xs k).length ≤ (dropsL xs n).length ∧ (∀ i, i < (dropsL xs k).length → (dropsL xs n).getD i 0 = (dropsL xs k).getD i 0) ∧ ∀ i, (dropsL xs k).length ≤ i → i < (dropsL xs n).length → (k : Int) ≤ (dropsL xs n).getD i 0
  | 0, h => by
    obtain rfl : k = 0 := by omega
    exact ⟨Nat.le_refl _, fun _ _ => rfl, fun i h1 h2 => by omega⟩
  | n + 1, h => by
    by_cases e : k = n + 1
    · subst e; exact ⟨Nat.le_refl _, fun _ _ => rfl, fun i h1 h2 => by omega⟩
    · obtain ⟨h1, h2, h3⟩ := drops_more xs k n (by omega)
      cases hd : gzD (gzAt xs n) (xs.getD n 0)
      · rw [drops_no hd]; exact ⟨h1, h2, h3⟩
      · rw [drops_yes hd]
        refine ⟨by simp; omega, fun i hi => by rw [getD_app (by omega)]; exact h2 i hi, fun i hi hl => ?_⟩
        by_cases e2 : i < (dropsL xs n).length
        · rw [getD_app e2]; exact h3 i hi e2
        · rw [List.length_append, List.length_singleton] at hl
          obtain rfl : i = (dropsL xs n).length := by omega
          have e3 : (dropsL xs n ++ [(n : Int)]).getD (dropsL xs n).length 0 = n := by simp [List.getD]
          rw [e3]; omega
end Go.Proofs.Ytmgbegmhanbcnaa
