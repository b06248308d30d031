/- The document's own answers for sat, and the law package's own check 'awake'. -/
import Derived.Test.YtjhdlcemeemlhaaSat
namespace Go.Proofs.Ytjhdlcemeemlhaa
set_option maxRecDepth 100000
open Go.RowKit
set_option linter.unusedVariables false
set_option linter.unusedSimpArgs false

theorem ref_clamp (n : Int) (w : World) :
    Calls Try.prog 17 #[.int .i64 n] w fun e w' => e = .returned (.tuple #[.int .i64 (clV n), .bool (clB n)]) ∧ w = w' := by
  go_enter Try.func17, Try.ntmps17
  go_wp2
  all_goals go_ret2
  all_goals refine ⟨ret_ib ?_ ?_, rfl⟩
  all_goals first
    | (simp [clV, withV]; omega)
    | (rw [Bool.eq_iff_iff]; simp [clB, withB]; omega)

theorem ref_add (a b : Int) (w : World) :
    Calls Try.prog 11 #[.int .i64 a, .int .i64 b] w fun e w' => e = .returned (.tuple #[.int .i64 (addV a b), .bool (addB a b)]) ∧ w = w' := by
  have ⟨ha0, ha1⟩ := clV_bd a
  have ⟨hb0, hb1⟩ := clV_bd b
  go_enter Try.func11, Try.ntmps11
  go_wp2_with (go_at_call 17; refine (ref_clamp _ _).mono ?_; rintro e w' ⟨rfl, rfl⟩)
  all_goals go_ret2
  all_goals exact ⟨ret_ib rfl (by simp [*, addB, bothB]), rfl⟩

theorem mulV_in {x y : Int} (hb : (y.natAbs : Int) = 0 ∨ (x.natAbs : Int) ≤ 9007199254740992 / (y.natAbs : Int)) : (x * y).natAbs ≤ 9007199254740992 := by
  by_cases hy : y = 0
  · subst hy; simp
  · rcases hb with h | h
    · omega
    · rw [Int.mul_comm]; exact mul_in hy h
theorem mulV_le {x y : Int} (hy : y ≠ 0) (h : (x * y).natAbs ≤ 9007199254740992) : (x.natAbs : Int) ≤ 9007199254740992 / (y.natAbs : Int) := by
  refine (Int.le_ediv_iff_mul_le (by omega)).2 ?_
  rw [Int.natAbs_mul] at h
  have : ((x.natAbs * y.natAbs : Nat) : Int) ≤ 9007199254740992 := by omega
  rw [Int.natCast_mul] at this
  exact this
theorem mulV_gt {x y : Int} (hy : y ≠ 0) (h : ¬ (x * y).natAbs ≤ 9007199254740992) : ¬ (x.natAbs : Int) ≤ 9007199254740992 / (y.natAbs : Int) := fun g => h (by
  rw [Int.mul_comm]; exact mul_in hy g)

theorem div_spelled {y : Int} (h : y < 0) : wrap64 (-Int.tdiv 9007199254740992 y) = 9007199254740992 / -y := by
  rw [← Int.tdiv_neg, Int.tdiv_eq_ediv_of_nonneg (by omega)]
  have h1 := Int.ediv_nonneg (a := 9007199254740992) (b := -y) (by omega) (by omega)
  have h2 := Int.ediv_le_self (a := 9007199254740992) (-y) (by omega)
  exact IntWalk.wrap64_in _ ⟨by omega, by omega⟩

end Go.Proofs.Ytjhdlcemeemlhaa
