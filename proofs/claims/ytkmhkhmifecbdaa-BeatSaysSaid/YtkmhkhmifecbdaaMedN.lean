/- Sorted lists of numbers: plain mathematics. -/
import Derived.Test.YtkmhkhmifecbdaaSort
import Derived.Test.YtkmhkhmifecbdaaRing
namespace Go.Proofs.Ytkmhkhmifecbdaa
set_option maxRecDepth 100000
set_option linter.unusedVariables false
set_option linter.unusedSimpArgs false

/-- Do the numbers rise? -/
def Up (l : List Int) : Prop := l.Pairwise (· ≤ ·)
theorem sortL_perm (l : List Int) : (sortL l).Perm l := List.mergeSort_perm l _
theorem sortL_up (l : List Int) : Up (sortL l) := by
  have := List.pairwise_mergeSort (le := fun x y : Int => decide (x ≤ y)) (by simp; omega) (by simp; omega) l
  simpa [Up, sortL] using this
theorem up_unique {l m : List Int} (hl : Up l) (hm : Up m) (h : l.Perm m) : l = m :=
  h.eq_of_pairwise (fun a b _ _ h1 h2 => Int.le_antisymm h1 h2) hl hm
theorem sortL_of {l m : List Int} (hl : Up l) (h : l.Perm m) : sortL m = l :=
  up_unique (sortL_up m) hl ((sortL_perm m).trans h.symm)
theorem sortL_same {l m : List Int} (h : l.Perm m) : sortL l = sortL m := (sortL_of (sortL_up m) ((sortL_perm m).trans h.symm))
/-- A number that is put ahead of all that are greater, and behind all others. -/
theorem sortL_put (ys : List Int) (x : Int) (S : List Int) (hS : sortL ys = S) (j : Nat) (hj : j ≤ S.length) (h1 : ∀ i, i < j → S.getD i 0 ≤ x) (h2 : ∀ i, j ≤ i → i < S.length → x < S.getD i 0) :
    sortL (ys ++ [x]) = S.take j ++ [x] ++ S.drop j := by
  have hu := sortL_up ys
  rw [hS] at hu
  have hp := sortL_perm ys
  rw [hS] at hp
  refine sortL_of ?_ ?_
  · unfold Up at *
    rw [List.pairwise_append, List.pairwise_append]
    refine ⟨⟨hu.sublist (List.take_sublist _ _), List.pairwise_singleton _ _, fun a ha b hb => ?_⟩, hu.sublist (List.drop_sublist _ _), fun a ha b hb => ?_⟩
    · rw [List.mem_singleton] at hb
      subst hb
      obtain ⟨i, hi, rfl⟩ := List.getElem_of_mem ha
      rw [List.length_take] at hi
      have := h1 i (by omega)
      rw [List.getElem_take]
      simpa [List.getD, List.getElem?_eq_getElem (show i < S.length by omega)] using this
    · obtain ⟨i, hi, rfl⟩ := List.getElem_of_mem hb
      rw [List.length_drop] at hi
      have h3 := h2 (j + i) (by omega) (by omega)
      rw [List.getElem_drop]
      have h4 : x < S[j + i] := by simpa [List.getD, List.getElem?_eq_getElem (show j + i < S.length by omega)] using h3
      rcases List.mem_append.1 ha with ha | ha
      · obtain ⟨k, hk, rfl⟩ := List.getElem_of_mem ha
        rw [List.length_take] at hk
        rw [List.getElem_take]
        have := h1 k (by omega)
        have h5 : S[k] ≤ x := by simpa [List.getD, List.getElem?_eq_getElem (show k < S.length by omega)] using this
        omega
      · rw [List.mem_singleton] at ha
        omega
  · have h := List.take_append_drop j S
    have h3 : (S.take j ++ [x] ++ S.drop j).Perm (S.take j ++ S.drop j ++ [x]) := by
      rw [List.append_assoc, List.append_assoc]
      exact List.Perm.append_left _ List.perm_append_comm
    rw [h] at h3
    exact h3.trans (hp.append_right _)
theorem up_le {S : List Int} (hu : Up S) {i j : Nat} (h : i ≤ j) (hj : j < S.length) : S.getD i 0 ≤ S.getD j 0 := by
  rcases Nat.lt_or_eq_of_le h with h | rfl
  · have := List.pairwise_iff_getElem.1 hu i j (by omega) hj h
    simpa [List.getD, List.getElem?_eq_getElem hj, List.getElem?_eq_getElem (show i < S.length by omega)] using this
  · exact Int.le_refl _

/-! ### What median answers. -/
def fiveL (xs : List Int) : List Int := sortL (lastL xs 5)
theorem five_cnt (n : Nat) : cntV n 5 = min n 5 := by unfold cntV; split <;> (try split) <;> omega
theorem fiveL_len (xs : List Int) : (fiveL xs).length = min xs.length 5 := by unfold fiveL; rw [sortL_len, lastL_len, five_cnt]
def midV (xs : List Int) : Int := if xs.length = 0 then 0 else (fiveL xs).getD ((min xs.length 5 - 1) / 2) 0
def sprV (xs : List Int) : Int := if xs.length = 0 then 0 else subV ((fiveL xs).getD (min xs.length 5 - 1) 0) ((fiveL xs).getD 0 0)
def anyB (n : Nat) : Bool := decide (0 < n)
end Go.Proofs.Ytkmhkhmifecbdaa
