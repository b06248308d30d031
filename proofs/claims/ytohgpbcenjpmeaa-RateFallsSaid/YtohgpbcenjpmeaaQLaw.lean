/- The contracts of quot as a law's walk takes them: below the law's own beginning nothing has turned; and the law package's own check 'awake'. -/
import Derived.Test.YtohgpbcenjpmeaaQMulDiv
import Derived.Test.YtohgpbcenjpmeaaAt
namespace Go.Proofs.Ytohgpbcenjpmeaa
open Go.RowKit
set_option linter.unusedVariables false

theorem l_floor (a b : Int) (W w : World) (h : At W w) :
    Calls Try.prog 25 #[.int .i64 a, .int .i64 b] w fun e w' => e = .returned (.tuple #[.int .i64 (flV a b), .bool (nzB b)]) ∧ At W w' :=
  (quot_floor a b w).mono fun e w' ⟨he, n, hn⟩ => ⟨he, hn ▸ h.draws n⟩
end Go.Proofs.Ytohgpbcenjpmeaa
