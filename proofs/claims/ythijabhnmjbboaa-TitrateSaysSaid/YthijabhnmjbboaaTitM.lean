/- Titrate: how a rate comes to another one, twice or half at a time, as plain arithmetic. -/
import Derived.Test.YthijabhnmjbboaaProgm
namespace Go.Proofs.Ythijabhnmjbboaa
set_option linter.unusedVariables false
set_option linter.unusedSimpArgs false

def stV (r n : Int) : Int := min (max n ((r + 1) / 2)) (r * 2)
def chE (r v s n : Int) : Int := if ckV r v s ≠ 0 then ckV r v s else if ckV n v s ≠ 0 then ckV n v s else if n = stV r n then 0 else 14
/-- The rates that lead from r to n, at most k of them. -/
def wayL : Nat → Int → Int → List Int
  | 0, _, _ => []
  | k + 1, r, n => if r = n then [] else stV r n :: wayL k (stV r n) n
/-- k steps are enough. -/
def Reach (k : Nat) (r n : Int) : Prop := (r ≤ n ∧ n ≤ r * 2 ^ k) ∨ (n ≤ r ∧ r ≤ n * 2 ^ k)
theorem reach_8 {r n : Int} (r0 : 5 ≤ r) (r1 : r ≤ 1000) (n0 : 5 ≤ n) (n1 : n ≤ 1000) : Reach 8 r n := by
  unfold Reach; omega
theorem reach_0 {r n : Int} (h : Reach 0 r n) : r = n := by unfold Reach at h; omega
theorem st_bd {r n : Int} (r0 : 5 ≤ r) (r1 : r ≤ 1000) (n0 : 5 ≤ n) (n1 : n ≤ 1000) : 5 ≤ stV r n ∧ stV r n ≤ 1000 := by
  unfold stV; omega
theorem pow_one (k : Nat) : (1 : Int) ≤ 2 ^ k := by
  induction k with
  | zero => simp
  | succ k ih => rw [Int.pow_succ]; omega
theorem reach_next {k : Nat} {r n : Int} (h : Reach (k + 1) r n) (r0 : 5 ≤ r) (n0 : 5 ≤ n) (hne : r ≠ n) : Reach k (stV r n) n := by
  have h0 := pow_one k
  unfold Reach at *
  rw [Int.pow_succ] at h
  generalize (2 : Int) ^ k = p at *
  have e1 : r * (p * 2) = r * 2 * p := by rw [Int.mul_comm p 2, Int.mul_assoc]
  have e2 : n * (p * 2) = n * p * 2 := by rw [Int.mul_assoc]
  rw [e1, e2] at h
  rcases h with ⟨h1, h2⟩ | ⟨h1, h2⟩
  · left
    have hs : stV r n = n ∨ stV r n = r * 2 := by unfold stV; omega
    rcases hs with e | e
    · rw [e]
      refine ⟨Int.le_refl _, ?_⟩
      have := Int.mul_le_mul_of_nonneg_left h0 (show 0 ≤ n by omega); omega
    · rw [e]; exact ⟨by unfold stV at e; omega, h2⟩
  · right
    have hs : stV r n = n ∨ stV r n = (r + 1) / 2 := by unfold stV; omega
    rcases hs with e | e
    · rw [e]
      refine ⟨Int.le_refl _, ?_⟩
      have := Int.mul_le_mul_of_nonneg_left h0 (show 0 ≤ n by omega); omega
    · rw [e]; exact ⟨by unfold stV at e; omega, by omega⟩
theorem st_ne {r n : Int} (r0 : 5 ≤ r) (n0 : 5 ≤ n) (hne : r ≠ n) : stV r n ≠ r := by unfold stV; omega
theorem st_st {r n : Int} (r0 : 5 ≤ r) (n0 : 5 ≤ n) : stV r (stV r n) = stV r n := by unfold stV; omega
theorem st_iff {r n : Int} (r0 : 5 ≤ r) (n0 : 5 ≤ n) : n = stV r n ↔ ¬ (r * 2 < n ∨ n * 2 < r) := by unfold stV; omega
theorem st_back {r n : Int} (r0 : 5 ≤ r) (n0 : 5 ≤ n) (h : n = stV r n) : r = stV n r := by unfold stV at *; omega
theorem way_len (k : Nat) : ∀ r n, (wayL k r n).length ≤ k := by
  induction k with
  | zero => intro r n; exact Nat.le_refl _
  | succ k ih =>
    intro r n
    unfold wayL
    split
    · exact Nat.zero_le _
    · have := ih (stV r n) n
      simp; omega
theorem way_done (k : Nat) (n : Int) : wayL k n n = [] := by
  cases k with
  | zero => rfl
  | succ k => unfold wayL; rw [if_pos rfl]
theorem way_more {k : Nat} {r n : Int} (h : Reach k r n) (hne : r ≠ n) : ∃ j, k = j + 1 ∧ wayL k r n = stV r n :: wayL j (stV r n) n := by
  cases k with
  | zero => exact absurd (reach_0 h) hne
  | succ k => exact ⟨k, rfl, by conv => lhs; unfold wayL; rw [if_neg hne]⟩
/-- A rate between two that may be with a set may be with it. -/
theorem st_ck {r v s n : Int} (h : ckV r v s = 0) (h2 : ckV n v s = 0) : ckV (stV r n) v s = 0 := by
  obtain ⟨hk, r0, r1, hr, v0, v1⟩ := ck_ok h
  obtain ⟨_, n0, n1, hn, _, _⟩ := ck_ok h2
  obtain ⟨b0, b1⟩ := st_bd r0 r1 n0 n1
  refine ck_of hk b0 b1 ?_ v0 v1
  have hm : stV r n ≤ r ∨ stV r n ≤ n := by unfold stV; omega
  have s0 : 0 ≤ s := by rcases hk with rfl | rfl | rfl | rfl <;> omega
  rcases hm with hm | hm
  · have := Int.mul_le_mul_of_nonneg_right hm s0; omega
  · have := Int.mul_le_mul_of_nonneg_right hm s0; omega
end Go.Proofs.Ythijabhnmjbboaa
