/- Contracts of package eye: a tick. -/
import Derived.Test.YtmgbegmhanbcnaaEyeM
namespace Go.Proofs.Ytmgbegmhanbcnaa
set_option maxRecDepth 100000
open Go.RowKit
set_option linter.unusedVariables false
set_option linter.unusedSimpArgs false
attribute [local go_sem] cell_set_ite Near.cell Near.frozen

end Go.Proofs.Ytmgbegmhanbcnaa
