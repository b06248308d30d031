/- The contracts of quot as a law's walk takes them: below the law's own beginning nothing has turned; and the law package's own check 'awake'. -/
import Derived.Test.YtmocppghmdeahaaGreatQMulDiv
import Derived.Test.YtmocppghmdeahaaGreatAt
namespace Go.Proofs.YtmocppghmdeahaaGreat
set_option maxRecDepth 100000
open Go.RowKit
set_option linter.unusedVariables false
set_option linter.unusedSimpArgs false

theorem l_floor (a b : Int) (W w : World) (h : At W w) :
    Calls Tryz.prog 103 #[.int .i64 a, .int .i64 b] w fun e w' => e = .returned (.tuple #[.int .i64 (flV a b), .bool (nzB b)]) ∧ At W w' :=
  (quot_floor a b w).mono fun e w' ⟨he, n, hn⟩ => ⟨he, hn ▸ h.draws n⟩
theorem l_muldiv (a b c : Int) (W w : World) (h : At W w) :
    Calls Tryz.prog 46 #[.int .i64 a, .int .i64 b, .int .i64 c] w fun e w' => e = .returned (.tuple #[.int .i64 (mqV a b c), .int .i64 (mqE a b c)]) ∧ At W w' :=
  (quot_muldiv a b c w).mono fun e w' ⟨he, hb⟩ => ⟨he, h.below hb⟩
end Go.Proofs.YtmocppghmdeahaaGreat
