/- Contracts of package refract, the document's, and the law package's own. -/
import Derived.Test.YtkddledajffdbaaSat
namespace Go.Proofs.Ytkddledajffdbaa
set_option maxRecDepth 100000
open Go.RowKit
set_option linter.unusedVariables false
set_option linter.unusedSimpArgs false

/-- How many ticks are left in which no drop counts. -/
def dwV (n : Int) : Int := if n < 0 then 0 else if 4 < n then 4 else n
def rfV (n : Int) (x : Bool) : Int := if 0 < dwV n then dwV n - 1 else if x = true then 4 else 0
def rfB (n : Int) (x : Bool) : Bool := decide (dwV n = 0) && x
theorem dw_bd (n : Int) : 0 ≤ dwV n ∧ dwV n ≤ 4 := by unfold dwV; split <;> (try split) <;> omega
theorem rf_busy {n : Int} (x : Bool) (h : 0 < dwV n) : rfV n x = dwV n - 1 ∧ rfB n x = false := by
  unfold rfV rfB; rw [if_pos h]; exact ⟨rfl, by simp; omega⟩
theorem rf_drop {n : Int} (h : dwV n = 0) : rfV n true = 4 ∧ rfB n true = true := by
  unfold rfV rfB; rw [h]; decide
theorem rf_none {n : Int} (h : dwV n = 0) : rfV n false = 0 ∧ rfB n false = false := by
  unfold rfV rfB; rw [h]; decide

theorem rf_step (n : Int) (x : Bool) (w : World) : Calls Try.prog 62 #[.int .i64 n, .bool x] w fun e w' => e = .returned (.tuple #[.int .i64 (rfV n x), .bool (rfB n x)]) ∧ w = w' := by
  rcases (by omega : n < 0 ∨ n = 0 ∨ (0 < n ∧ n ≤ 4) ∨ 4 < n) with h | rfl | ⟨h, h2⟩ | h
  · have hd : dwV n = 0 := by unfold dwV; rw [if_pos h]
    cases x
    · obtain ⟨e1, e2⟩ := rf_none hd
      rw [e1, e2]; clear e1 e2 hd
      go_enter Try.func62, Try.ntmps62
      go_wp2
      all_goals go_ret2
      all_goals exact ⟨rfl, rfl⟩
    · obtain ⟨e1, e2⟩ := rf_drop hd
      rw [e1, e2]; clear e1 e2 hd
      go_enter Try.func62, Try.ntmps62
      go_wp2
      all_goals go_ret2
      all_goals exact ⟨rfl, rfl⟩
  · cases x
    · obtain ⟨e1, e2⟩ := rf_none (n := 0) (by decide)
      rw [e1, e2]; clear e1 e2
      go_enter Try.func62, Try.ntmps62
      go_wp2
      all_goals go_ret2
      all_goals exact ⟨rfl, rfl⟩
    · obtain ⟨e1, e2⟩ := rf_drop (n := 0) (by decide)
      rw [e1, e2]; clear e1 e2
      go_enter Try.func62, Try.ntmps62
      go_wp2
      all_goals go_ret2
      all_goals exact ⟨rfl, rfl⟩
  · have hd : dwV n = n := by unfold dwV; rw [if_neg (by omega), if_neg (by omega)]
    obtain ⟨e1, e2⟩ := rf_busy (n := n) x (by omega)
    rw [e1, e2, hd]; clear e1 e2 hd
    go_enter Try.func62, Try.ntmps62
    go_wp2
    all_goals go_ret2
    all_goals exact ⟨rfl, rfl⟩
  · have hd : dwV n = 4 := by unfold dwV; rw [if_neg (by omega), if_pos h]
    obtain ⟨e1, e2⟩ := rf_busy (n := n) x (by omega)
    rw [e1, e2, hd]; clear e1 e2 hd
    go_enter Try.func62, Try.ntmps62
    go_wp2
    all_goals go_ret2
    all_goals exact ⟨rfl, rfl⟩
theorem rr_step (n : Int) (x : Bool) (w : World) : Calls Try.prog 44 #[.int .i64 n, .bool x] w fun e w' => e = .returned (.tuple #[.int .i64 (rfV n x), .bool (rfB n x)]) ∧ w = w' := by
  rcases (by omega : n < 0 ∨ n = 0 ∨ (0 < n ∧ n ≤ 4) ∨ 4 < n) with h | rfl | ⟨h, h2⟩ | h
  · have hd : dwV n = 0 := by unfold dwV; rw [if_pos h]
    cases x
    · obtain ⟨e1, e2⟩ := rf_none hd
      rw [e1, e2]; clear e1 e2 hd
      go_enter Try.func44, Try.ntmps44
      go_wp2
      all_goals go_ret2
      all_goals exact ⟨rfl, rfl⟩
    · obtain ⟨e1, e2⟩ := rf_drop hd
      rw [e1, e2]; clear e1 e2 hd
      go_enter Try.func44, Try.ntmps44
      go_wp2
      all_goals go_ret2
      all_goals exact ⟨rfl, rfl⟩
  · cases x
    · obtain ⟨e1, e2⟩ := rf_none (n := 0) (by decide)
      rw [e1, e2]; clear e1 e2
      go_enter Try.func44, Try.ntmps44
      go_wp2
      all_goals go_ret2
      all_goals exact ⟨rfl, rfl⟩
    · obtain ⟨e1, e2⟩ := rf_drop (n := 0) (by decide)
      rw [e1, e2]; clear e1 e2
      go_enter Try.func44, Try.ntmps44
      go_wp2
      all_goals go_ret2
      all_goals exact ⟨rfl, rfl⟩
  · have hd : dwV n = n := by unfold dwV; rw [if_neg (by omega), if_neg (by omega)]
    obtain ⟨e1, e2⟩ := rf_busy (n := n) x (by omega)
    rw [e1, e2, hd]; clear e1 e2 hd
    go_enter Try.func44, Try.ntmps44
    go_wp2
    all_goals go_ret2
    all_goals exact ⟨rfl, rfl⟩
  · have hd : dwV n = 4 := by unfold dwV; rw [if_neg (by omega), if_pos h]
    obtain ⟨e1, e2⟩ := rf_busy (n := n) x (by omega)
    rw [e1, e2, hd]; clear e1 e2 hd
    go_enter Try.func44, Try.ntmps44
    go_wp2
    all_goals go_ret2
    all_goals exact ⟨rfl, rfl⟩
end Go.Proofs.Ytkddledajffdbaa
