/- Contracts of package latch: the hazards of a number as its twelve lowest bits. -/
import Derived.Test.YtmocppghmdeahaaGreatRing
import Derived.Test.YtmocppghmdeahaaGreatGrown
import Derived.Test.YtmocppghmdeahaaGreatCalm
import Derived.Deep.OwnRows
namespace Go.Proofs.YtmocppghmdeahaaGreat
set_option maxRecDepth 100000
open Go.RowKit
set_option linter.unusedVariables false
set_option linter.unusedSimpArgs false

/-- Is there the hazard H in n? -/
def hB (n H : Int) : Bool := bits .and .i64 n H != 0
def whK (n : Int) : Nat → List Int
  | 0 => []
  | k + 1 => if hB n (2 ^ k) = true then whK n k ++ [2 ^ k] else whK n k
theorem wh_le (n : Int) (k : Nat) : (whK n k).length ≤ k := by
  induction k with
  | zero => exact Nat.le_refl _
  | succ k ih =>
    unfold whK
    split
    · rw [List.length_append, List.length_singleton]; omega
    · omega
theorem pw_bd (k : Nat) (h : k < 12) : 1 ≤ (2 : Int) ^ k ∧ (2 : Int) ^ k ≤ 2048 := by
  have : ∀ k : Fin 12, 1 ≤ (2 : Int) ^ k.1 ∧ (2 : Int) ^ k.1 ≤ 2048 := by decide
  exact this ⟨k, h⟩
def raV (a b : Int) : Int := bits .and .i64 (bits .or .i64 a b) 4095
def acV (a b : Int) : Int := bits .and .i64 (bits .and .i64 a b) 4095
def lvV (n : Int) : Int := if bits .and .i64 n 3843 = 0 then if bits .and .i64 n 4095 = 0 then 0 else 2 else 3

theorem lt_raise (a b : Int) (w : World) : Calls Tryz.prog 58 #[.int .i64 a, .int .i64 b] w fun e w' => e = .returned (.int .i64 (raV a b)) ∧ w = w' := by
  unfold raV
  go_enter Tryz.func58, Tryz.ntmps58
  go_wp2
  all_goals go_ret
  all_goals exact ⟨rfl, rfl⟩
theorem lt_ack (a b : Int) (w : World) : Calls Tryz.prog 57 #[.int .i64 a, .int .i64 b] w fun e w' => e = .returned (.int .i64 (acV a b)) ∧ w = w' := by
  unfold acV
  go_enter Tryz.func57, Tryz.ntmps57
  go_wp2
  all_goals go_ret
  all_goals exact ⟨rfl, rfl⟩
end Go.Proofs.YtmocppghmdeahaaGreat
