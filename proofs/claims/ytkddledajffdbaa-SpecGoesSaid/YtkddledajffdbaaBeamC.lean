/- Contracts of package beam: a step. -/
import Derived.Test.YtkddledajffdbaaSat
namespace Go.Proofs.Ytkddledajffdbaa
set_option maxRecDepth 100000
open Go.RowKit
set_option linter.unusedVariables false
set_option linter.unusedSimpArgs false

def sgV (run : Int) (p : Bool) : Int := if p = true then withV run 0 1099511627776 + 1 else 0
/-- The run behind so many of them. -/
def rnK (ps : List Bool) : Nat → Int
  | 0 => 0
  | k + 1 => sgV (rnK ps k) (ps.getD k false)
def strB (ps : List Bool) (n : Nat) : Bool := (List.range n).any fun k => decide (12 ≤ rnK ps (k + 1))
theorem withT_bd (n : Int) : 0 ≤ withV n 0 1099511627776 ∧ withV n 0 1099511627776 ≤ 1099511627776 := by unfold withV; split <;> (try split) <;> (try split) <;> omega
theorem withT_1 {n : Int} (h1 : n < 0) : withV n 0 1099511627776 = 0 := by unfold withV; split <;> (try split) <;> (try split) <;> omega
theorem withT_2 {n : Int} (h1 : 0 ≤ n) (h2 : n ≤ 1099511627776) : withV n 0 1099511627776 = n := by unfold withV; split <;> (try split) <;> (try split) <;> omega
theorem withT_3 {n : Int} (h1 : 1099511627776 < n) : withV n 0 1099511627776 = 1099511627776 := by unfold withV; split <;> (try split) <;> (try split) <;> omega
theorem rn_bd (ps : List Bool) : ∀ k : Nat, 0 ≤ rnK ps k ∧ rnK ps k ≤ 1099511627777
  | 0 => by simp [rnK]
  | k + 1 => by
    have := withT_bd (rnK ps k)
    unfold rnK sgV
    split <;> omega

theorem bm_step (r : Int) (p : Bool) (w : World) : Calls Try.prog 60 #[.int .i64 r, .bool p] w fun e w' => e = .returned (.int .i64 (sgV r p)) ∧ w = w' := by
  unfold sgV
  cases p
  · rw [if_neg (by simp)]
    go_enter Try.func60, Try.ntmps60
    go_wp2
    all_goals go_ret
    all_goals exact ⟨rfl, rfl⟩
  · rw [if_pos rfl]
    rcases (by omega : r < 0 ∨ (0 ≤ r ∧ r ≤ 1099511627776) ∨ 1099511627776 < r) with h1 | ⟨h1, h2⟩ | h1
    · rw [withT_1 h1]
      go_enter Try.func60, Try.ntmps60
      go_wp2
      all_goals go_ret
      all_goals exact ⟨rfl, rfl⟩
    · rw [withT_2 h1 h2]
      go_enter Try.func60, Try.ntmps60
      go_wp2
      all_goals go_ret
      all_goals exact ⟨rfl, rfl⟩
    · rw [withT_3 h1]
      go_enter Try.func60, Try.ntmps60
      go_wp2
      all_goals go_ret
      all_goals exact ⟨rfl, rfl⟩
theorem rb_step (r : Int) (p : Bool) (w : World) : Calls Try.prog 45 #[.int .i64 r, .bool p] w fun e w' => e = .returned (.int .i64 (sgV r p)) ∧ w = w' := by
  unfold sgV
  cases p
  · rw [if_neg (by simp)]
    go_enter Try.func45, Try.ntmps45
    go_wp2
    all_goals go_ret
    all_goals exact ⟨rfl, rfl⟩
  · rw [if_pos rfl]
    rcases (by omega : r < 0 ∨ (0 ≤ r ∧ r ≤ 1099511627776) ∨ 1099511627776 < r) with h1 | ⟨h1, h2⟩ | h1
    · rw [withT_1 h1]
      go_enter Try.func45, Try.ntmps45
      go_wp2
      all_goals go_ret
      all_goals exact ⟨rfl, rfl⟩
    · rw [withT_2 h1 h2]
      go_enter Try.func45, Try.ntmps45
      go_wp2
      all_goals go_ret
      all_goals exact ⟨rfl, rfl⟩
    · rw [withT_3 h1]
      go_enter Try.func45, Try.ntmps45
      go_wp2
      all_goals go_ret
      all_goals exact ⟨rfl, rfl⟩

end Go.Proofs.Ytkddledajffdbaa
