/- The law package's own check of the flash. -/
import Derived.Test.YthibaehiponfnaaFlash3
namespace Go.Proofs.Ythibaehiponfnaa
set_option maxRecDepth 100000
open Go.RowKit
set_option linter.unusedVariables false
set_option linter.unusedSimpArgs false
attribute [local go_sem] cell_set_ite Near.cell Near.frozen

end Go.Proofs.Ythibaehiponfnaa
