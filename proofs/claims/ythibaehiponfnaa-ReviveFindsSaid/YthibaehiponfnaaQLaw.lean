/- The contracts of quot as a law's walk takes them: below the law's own beginning nothing has turned; and the law package's own check 'awake'. -/
import Derived.Test.YthibaehiponfnaaQMulDiv
import Derived.Test.YthibaehiponfnaaAt
namespace Go.Proofs.Ythibaehiponfnaa
set_option maxRecDepth 100000
open Go.RowKit
set_option linter.unusedVariables false
set_option linter.unusedSimpArgs false

end Go.Proofs.Ythibaehiponfnaa
