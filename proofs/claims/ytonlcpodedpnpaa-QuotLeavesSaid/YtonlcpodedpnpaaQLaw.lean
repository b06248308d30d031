/- The contracts of quot as a law's walk takes them: below the law's own beginning nothing has turned; and the law package's own check 'awake'. -/
import Derived.Test.YtonlcpodedpnpaaQMulDiv
namespace Go.Proofs.Ytonlcpodedpnpaa
open Go.RowKit
set_option linter.unusedVariables false

/-- Of what was there in W nothing has turned in w. -/
def At (W w : World) : Prop := Below W.heap.size W w
theorem At.refl (w : World) : At w w := Below.refl _ _
theorem At.draws {W w : World} (h : At W w) (n : Nat) : At W (w.drewN n) := at_drewN h n
theorem At.below {W w w' : World} (h : At W w) (k : Below w.heap.size w w') : At W w' := Below.trans h (k.mono (Below.size h))

theorem l_floor (a b : Int) (W w : World) (h : At W w) :
    Calls Try.prog 7 #[.int .i64 a, .int .i64 b] w fun e w' => e = .returned (.tuple #[.int .i64 (flV a b), .bool (nzB b)]) ∧ At W w' :=
  (quot_floor a b w).mono fun e w' ⟨he, n, hn⟩ => ⟨he, hn ▸ h.draws n⟩
theorem l_mod (a b : Int) (W w : World) (h : At W w) :
    Calls Try.prog 9 #[.int .i64 a, .int .i64 b] w fun e w' => e = .returned (.tuple #[.int .i64 (mdV a b), .bool (nzB b)]) ∧ At W w' :=
  (quot_mod a b w).mono fun e w' ⟨he, n, hn⟩ => ⟨he, hn ▸ h.draws n⟩
theorem l_near (a b : Int) (W w : World) (h : At W w) :
    Calls Try.prog 11 #[.int .i64 a, .int .i64 b] w fun e w' => e = .returned (.tuple #[.int .i64 (nrV a b), .bool (nzB b)]) ∧ At W w' :=
  (quot_near a b w).mono fun e w' ⟨he, n, hn⟩ => ⟨he, hn ▸ h.draws n⟩
theorem l_muldiv (a b c : Int) (W w : World) (h : At W w) :
    Calls Try.prog 13 #[.int .i64 a, .int .i64 b, .int .i64 c] w fun e w' => e = .returned (.tuple #[.int .i64 (mqV a b c), .int .i64 (mqE a b c)]) ∧ At W w' :=
  (quot_muldiv a b c w).mono fun e w' ⟨he, hb⟩ => ⟨he, h.below hb⟩
theorem lr2_muldiv (a b c : Int) (W w : World) (h : At W w) :
    Calls Try.prog 14 #[.int .i64 a, .int .i64 b, .int .i64 c] w fun e w' => e = .returned (.tuple #[.int .i64 (mqV a b c), .int .i64 (mqE a b c)]) ∧ At W w' :=
  (ref2_muldiv a b c w).mono fun e w' ⟨he, n, hn⟩ => ⟨he, hn ▸ h.draws n⟩

theorem law2_awake (W w : World) (h : At W w) :
    Calls Try.prog 15 #[] w fun e w' => e = .returned (.bool true) ∧ At W w' := by
  have e1 : flV (-7) 2 = -4 := by decide +kernel
  have e2 : nzB 2 = true := by decide +kernel
  have e3 : mdV (-7) 2 = 1 := by decide +kernel
  have e4 : nrV (-7) 2 = -3 := by decide +kernel
  have e5 : mqV 10 10 3 = 33 := by decide +kernel
  have e6 : mqE 10 10 3 = 0 := by decide +kernel
  have e7 : mqE 1 1 0 = 2 := by decide +kernel
  have e8 : mqV 9007199254740992 9007199254740992 (-1) = -9007199254740992 := by decide +kernel
  have e9 : mqE 9007199254740992 9007199254740992 (-1) = 3 := by decide +kernel
  go_enter Try.func15, Try.ntmps15
  go_wp2_with (first
    | (go_at_call 7; refine (l_floor _ _ _ _ (by assumption)).mono ?_; rintro e w' ⟨rfl, hb⟩)
    | (go_at_call 9; refine (l_mod _ _ _ _ (by assumption)).mono ?_; rintro e w' ⟨rfl, hb⟩)
    | (go_at_call 11; refine (l_near _ _ _ _ (by assumption)).mono ?_; rintro e w' ⟨rfl, hb⟩)
    | (go_at_call 13; refine (l_muldiv _ _ _ _ _ (by assumption)).mono ?_; rintro e w' ⟨rfl, hb⟩))
  all_goals go_ret
  all_goals exact ⟨rfl, hb⟩
end Go.Proofs.Ytonlcpodedpnpaa
