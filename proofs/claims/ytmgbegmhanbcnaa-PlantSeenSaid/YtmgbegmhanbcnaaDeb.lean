/- Contracts of package debounce, the document's, and the law package's own. -/
import Derived.Test.YtmgbegmhanbcnaaBox
import Derived.WalkKit
import Derived.ProofKit
import Derived.OpenShut
import Derived.Handy
import Derived.Lib.Hide
namespace Go.Proofs.Ytmgbegmhanbcnaa
set_option maxRecDepth 100000
open Go.RowKit
set_option linter.unusedVariables false
set_option linter.unusedSimpArgs false
attribute [local go_sem] cell_set_ite Near.cell Near.frozen

def dbO (o : Bool) (r : Int) (x : Bool) : Bool := if x = o then o else if 1 ≤ r then x else o
def dbR (o : Bool) (r : Int) (x : Bool) : Int := if x = o then 0 else if 1 ≤ r then 0 else 1
theorem db_same (o : Bool) (r : Int) : dbO o r o = o ∧ dbR o r o = 0 := by simp [dbO, dbR]
theorem db_firm {o x : Bool} {r : Int} (h : x ≠ o) (hr : 1 ≤ r) : dbO o r x = x ∧ dbR o r x = 0 := by simp [dbO, dbR, h, hr]
theorem db_not {o x : Bool} {r : Int} (h : x ≠ o) (hr : r ≤ 0) : dbO o r x = o ∧ dbR o r x = 1 := by simp [dbO, dbR, h, show ¬ 1 ≤ r by omega]

end Go.Proofs.Ytmgbegmhanbcnaa
