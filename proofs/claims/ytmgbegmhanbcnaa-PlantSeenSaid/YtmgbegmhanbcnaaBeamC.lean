/- Contracts of package beam: a step. -/
import Derived.Test.YtmgbegmhanbcnaaSat
namespace Go.Proofs.Ytmgbegmhanbcnaa
set_option maxRecDepth 100000
open Go.RowKit
set_option linter.unusedVariables false
set_option linter.unusedSimpArgs false

def sgV (run : Int) (p : Bool) : Int := if p = true then withV run 0 1099511627776 + 1 else 0
/-- The run behind so many of them. -/
def rnK (ps : List Bool) : Nat → Int
  | 0 => 0
  | k + 1 => sgV (rnK ps k) (ps.getD k false)
def strB (ps : List Bool) (n : Nat) : Bool := (List.range n).any fun k => decide (12 ≤ rnK ps (k + 1))
theorem withT_bd (n : Int) : 0 ≤ withV n 0 1099511627776 ∧ withV n 0 1099511627776 ≤ 1099511627776 := by unfold withV; split <;> (try split) <;> (try split) <;> omega
theorem withT_1 {n : Int} (h1 : n < 0) : withV n 0 1099511627776 = 0 := by unfold withV; split <;> (try split) <;> (try split) <;> omega
theorem withT_2 {n : Int} (h1 : 0 ≤ n) (h2 : n ≤ 1099511627776) : withV n 0 1099511627776 = n := by unfold withV; split <;> (try split) <;> (try split) <;> omega
theorem withT_3 {n : Int} (h1 : 1099511627776 < n) : withV n 0 1099511627776 = 1099511627776 := by unfold withV; split <;> (try split) <;> (try split) <;> omega
theorem rn_bd (ps : List Bool) : ∀ k : Nat, 0 ≤ rnK ps k ∧ rnK ps k ≤ 1099511627777
  | 0 => by simp [rnK]
  | k + 1 => by
    have := withT_bd (rnK ps k)
    unfold rnK sgV
    split <;> omega

end Go.Proofs.Ytmgbegmhanbcnaa
