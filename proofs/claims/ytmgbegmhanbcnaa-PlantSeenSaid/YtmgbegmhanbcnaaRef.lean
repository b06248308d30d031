/- Contracts of package refract, the document's, and the law package's own. -/
import Derived.Test.YtmgbegmhanbcnaaSat
namespace Go.Proofs.Ytmgbegmhanbcnaa
set_option maxRecDepth 100000
open Go.RowKit
set_option linter.unusedVariables false
set_option linter.unusedSimpArgs false

/-- How many ticks are left in which no drop counts. -/
def dwV (n : Int) : Int := if n < 0 then 0 else if 4 < n then 4 else n
def rfV (n : Int) (x : Bool) : Int := if 0 < dwV n then dwV n - 1 else if x = true then 4 else 0
def rfB (n : Int) (x : Bool) : Bool := decide (dwV n = 0) && x
theorem dw_bd (n : Int) : 0 ≤ dwV n ∧ dwV n ≤ 4 := by unfold dwV; split <;> (try split) <;> omega
theorem rf_busy {n : Int} (x : Bool) (h : 0 < dwV n) : rfV n x = dwV n - 1 ∧ rfB n x = false := by
  unfold rfV rfB; rw [if_pos h]; exact ⟨rfl, by simp; omega⟩
theorem rf_drop {n : Int} (h : dwV n = 0) : rfV n true = 4 ∧ rfB n true = true := by
  unfold rfV rfB; rw [h]; decide
theorem rf_none {n : Int} (h : dwV n = 0) : rfV n false = 0 ∧ rfB n false = false := by
  unfold rfV rfB; rw [h]; decide

end Go.Proofs.Ytmgbegmhanbcnaa
