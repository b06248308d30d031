/- How long something has been so: one more, up to a limit. -/
import Derived.Test.YtmocppghmdeahaaGreatSat
import Derived.Test.YtmocppghmdeahaaGreatBox
namespace Go.Proofs.YtmocppghmdeahaaGreat
set_option maxRecDepth 100000
open Go.RowKit
set_option linter.unusedVariables false
set_option linter.unusedSimpArgs false

def moV (n : Int) : Int := min (max n 0) 1099511627776 + 1
def roV (n : Int) (x : Bool) : Int := if x = true then moV n else 0
theorem mo_bd (n : Int) : 1 ≤ moV n ∧ moV n ≤ 1099511627777 := by unfold moV; omega
theorem mo_in {n : Int} (h0 : 0 ≤ n) (h1 : n ≤ 1000000) : moV n = n + 1 := by unfold moV; omega
theorem ro_yes (n : Int) : roV n true = moV n := rfl
theorem ro_no (n : Int) : roV n false = 0 := rfl
theorem ret_ii2 {a b c d : Int} (h : a = b) (g : c = d) : Ending.returned (.agg #[.int .i64 a, .int .i64 c]) = Ending.returned (.agg #[.int .i64 b, .int .i64 d]) := by rw [h, g]
end Go.Proofs.YtmocppghmdeahaaGreat
