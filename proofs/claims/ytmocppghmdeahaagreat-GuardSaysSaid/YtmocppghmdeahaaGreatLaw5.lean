/- The law package's own check 'awake' of stage 5; spans of small numbers. -/
import Derived.Test.YtmocppghmdeahaaGreatSpan
import Derived.Test.YtmocppghmdeahaaGreatLaw4
namespace Go.Proofs.YtmocppghmdeahaaGreat
set_option maxRecDepth 100000
open Go.RowKit
set_option linter.unusedVariables false
set_option linter.unusedSimpArgs false

theorem clV_small {x : Int} (h0 : -9007199254740992 ≤ x) (h1 : x ≤ 9007199254740992) : clV x = x := clV_in (by omega)
/-- Of small numbers. -/
theorem inV_small {now width : Int} (x : Int) (h0 : -4503599627370496 ≤ now) (h1 : now ≤ 4503599627370496) (h2 : -4503599627370496 ≤ width) (h3 : width ≤ 4503599627370496) :
    inV x now width = decide (now - width < clV x ∧ clV x ≤ now) := by
  unfold inV subV
  rw [clV_small (x := now) (by omega) (by omega), clV_small (x := width) (by omega) (by omega), clV_small (x := now - width) (by omega) (by omega)]

end Go.Proofs.YtmocppghmdeahaaGreat
