/- What a part that may be is; what stands ahead of a part of a formula that is right. -/
import Derived.Test.YtmemhlhjkpijpaaMonD
namespace Go.Proofs.Ytmemhlhjkpijpaa
open Go.RowKit
set_option linter.unusedVariables false
set_option linter.unusedSimpArgs false
set_option maxRecDepth 100000

theorem my_ways {t : Tm} (h : myB t = true) : (ndN t.op = 0 ∧ ((t.op == 1) = true ∨ ((t.op == 1) = false ∧ (t.op == 2) = true))) ∨
    (ndN t.op = 1 ∧ (t.op == 1) = false ∧ (t.op == 2) = false ∧ ((t.op == 3) = true ∨ ((t.op == 3) = false ∧ (t.op == 6) = true) ∨ ((t.op == 3) = false ∧ (t.op == 6) = false ∧ (t.op == 7) = true))) ∨
    (ndN t.op = 2 ∧ (t.op == 1) = false ∧ (t.op == 2) = false ∧ (t.op == 3) = false ∧ (t.op == 6) = false ∧ (t.op == 7) = false) := by
  obtain ⟨op, a, b⟩ := t
  have ways : op = 1 ∨ op = 2 ∨ op = 3 ∨ op = 6 ∨ op = 7 ∨ op = 4 ∨ op = 5 ∨ op = 8 := by
    unfold myB at h
    dsimp only at h
    by_cases h2 : op = 2
    · omega
    · rw [if_neg h2] at h
      by_cases h6 : op = 6 ∨ op = 7
      · omega
      · rw [if_neg h6] at h
        by_cases h1 : op = 1 ∨ op = 3 ∨ op = 4 ∨ op = 5 ∨ op = 8
        · omega
        · rw [if_neg h1] at h; cases h
  rcases ways with rfl | rfl | rfl | rfl | rfl | rfl | rfl | rfl <;> (dsimp only; decide)
theorem ok_at (ts : Nat → Tm) {k n : Nat} (h : k < n) (hn : okB ts n = true) : myB (ts k) = true ∧ ndN (ts k).op ≤ rdN ts k := by
  have h1 := ok_down ts (k := k + 1) h hn
  unfold okB at h1
  cases hm : myB (ts k)
  · rw [hm] at h1; simp at h1
  · rw [hm] at h1
    refine ⟨rfl, ?_⟩
    by_cases hd : ndN (ts k).op ≤ rdN ts k
    · exact hd
    · rw [decide_eq_false hd] at h1; simp at h1
end Go.Proofs.Ytmemhlhjkpijpaa
