/- Contracts of package refract, the document's, and the law package's own. -/
import Derived.Test.YtfebbbgohcmlpaaSat
namespace Go.Proofs.Ytfebbbgohcmlpaa
open Go.RowKit
set_option linter.unusedVariables false

/-- How many ticks are left in which no drop counts. -/
def dwV (n : Int) : Int := if n < 0 then 0 else if 4 < n then 4 else n
def rfV (n : Int) (x : Bool) : Int := if 0 < dwV n then dwV n - 1 else if x = true then 4 else 0
def rfB (n : Int) (x : Bool) : Bool := decide (dwV n = 0) && x
theorem dw_bd (n : Int) : 0 ≤ dwV n ∧ dwV n ≤ 4 := by unfold dwV; split <;> (try split) <;> omega
theorem rf_busy {n : Int} (x : Bool) (h : 0 < dwV n) : rfV n x = dwV n - 1 ∧ rfB n x = false := by
  unfold rfV rfB; rw [if_pos h]; exact ⟨rfl, by simp; omega⟩
theorem rf_drop {n : Int} (h : dwV n = 0) : rfV n true = 4 ∧ rfB n true = true := by
  unfold rfV rfB; rw [h]; decide
theorem rf_none {n : Int} (h : dwV n = 0) : rfV n false = 0 ∧ rfB n false = false := by
  unfold rfV rfB; rw [h]; decide

theorem rf_step (n : Int) (x : Bool) (w : World) : Calls Try.prog 5 #[.int .i64 n, .bool x] w fun e w' => e = .returned (.tuple #[.int .i64 (rfV n x), .bool (rfB n x)]) ∧ w = w' := by
  rcases (by omega : n < 0 ∨ n = 0 ∨ (0 < n ∧ n ≤ 4) ∨ 4 < n) with h | rfl | ⟨h, h2⟩ | h
  · have hd : dwV n = 0 := by unfold dwV; rw [if_pos h]
    cases x
    · obtain ⟨e1, e2⟩ := rf_none hd
      rw [e1, e2]; clear e1 e2 hd
      go_enter Try.func5, Try.ntmps5
      go_wp2
      all_goals go_ret2
      all_goals exact ⟨rfl, rfl⟩
    · obtain ⟨e1, e2⟩ := rf_drop hd
      rw [e1, e2]; clear e1 e2 hd
      go_enter Try.func5, Try.ntmps5
      go_wp2
      all_goals go_ret2
      all_goals exact ⟨rfl, rfl⟩
  · cases x
    · obtain ⟨e1, e2⟩ := rf_none (n := 0) (by decide)
      rw [e1, e2]; clear e1 e2
      go_enter Try.func5, Try.ntmps5
      go_wp2
      all_goals go_ret2
      all_goals exact ⟨rfl, rfl⟩
    · obtain ⟨e1, e2⟩ := rf_drop (n := 0) (by decide)
      rw [e1, e2]; clear e1 e2
      go_enter Try.func5, Try.ntmps5
      go_wp2
      all_goals go_ret2
      all_goals exact ⟨rfl, rfl⟩
  · have hd : dwV n = n := by unfold dwV; rw [if_neg (by omega), if_neg (by omega)]
    obtain ⟨e1, e2⟩ := rf_busy (n := n) x (by omega)
    rw [e1, e2, hd]; clear e1 e2 hd
    go_enter Try.func5, Try.ntmps5
    go_wp2
    all_goals go_ret2
    all_goals exact ⟨rfl, rfl⟩
  · have hd : dwV n = 4 := by unfold dwV; rw [if_neg (by omega), if_pos h]
    obtain ⟨e1, e2⟩ := rf_busy (n := n) x (by omega)
    rw [e1, e2, hd]; clear e1 e2 hd
    go_enter Try.func5, Try.ntmps5
    go_wp2
    all_goals go_ret2
    all_goals exact ⟨rfl, rfl⟩
theorem rr_step (n : Int) (x : Bool) (w : World) : Calls Try.prog 6 #[.int .i64 n, .bool x] w fun e w' => e = .returned (.tuple #[.int .i64 (rfV n x), .bool (rfB n x)]) ∧ w = w' := by
  rcases (by omega : n < 0 ∨ n = 0 ∨ (0 < n ∧ n ≤ 4) ∨ 4 < n) with h | rfl | ⟨h, h2⟩ | h
  · have hd : dwV n = 0 := by unfold dwV; rw [if_pos h]
    cases x
    · obtain ⟨e1, e2⟩ := rf_none hd
      rw [e1, e2]; clear e1 e2 hd
      go_enter Try.func6, Try.ntmps6
      go_wp2
      all_goals go_ret2
      all_goals exact ⟨rfl, rfl⟩
    · obtain ⟨e1, e2⟩ := rf_drop hd
      rw [e1, e2]; clear e1 e2 hd
      go_enter Try.func6, Try.ntmps6
      go_wp2
      all_goals go_ret2
      all_goals exact ⟨rfl, rfl⟩
  · cases x
    · obtain ⟨e1, e2⟩ := rf_none (n := 0) (by decide)
      rw [e1, e2]; clear e1 e2
      go_enter Try.func6, Try.ntmps6
      go_wp2
      all_goals go_ret2
      all_goals exact ⟨rfl, rfl⟩
    · obtain ⟨e1, e2⟩ := rf_drop (n := 0) (by decide)
      rw [e1, e2]; clear e1 e2
      go_enter Try.func6, Try.ntmps6
      go_wp2
      all_goals go_ret2
      all_goals exact ⟨rfl, rfl⟩
  · have hd : dwV n = n := by unfold dwV; rw [if_neg (by omega), if_neg (by omega)]
    obtain ⟨e1, e2⟩ := rf_busy (n := n) x (by omega)
    rw [e1, e2, hd]; clear e1 e2 hd
    go_enter Try.func6, Try.ntmps6
    go_wp2
    all_goals go_ret2
    all_goals exact ⟨rfl, rfl⟩
  · have hd : dwV n = 4 := by unfold dwV; rw [if_neg (by omega), if_pos h]
    obtain ⟨e1, e2⟩ := rf_busy (n := n) x (by omega)
    rw [e1, e2, hd]; clear e1 e2 hd
    go_enter Try.func6, Try.ntmps6
    go_wp2
    all_goals go_ret2
    all_goals exact ⟨rfl, rfl⟩
theorem law19_awake (w : World) : Calls Try.prog 7 #[] w fun e w' => e = .returned (.bool true) ∧ w = w' := by
  have e1 : rfV 0 true = 4 := by decide +kernel
  have e2 : rfB 0 true = true := by decide +kernel
  have e3 : rfV 4 true = 3 := by decide +kernel
  have e4 : rfB 4 true = false := by decide +kernel
  go_enter Try.func7, Try.ntmps7
  go_wp2_with (go_at_call 5; refine (rf_step _ _ _).mono ?_; rintro e w' ⟨rfl, rfl⟩)
  all_goals go_ret
  all_goals exact ⟨rfl, rfl⟩
end Go.Proofs.Ytfebbbgohcmlpaa
