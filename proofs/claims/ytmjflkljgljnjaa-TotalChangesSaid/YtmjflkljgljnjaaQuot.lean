/- Contracts of package quot but for MulDiv, and of the document's answers for it. -/
import Derived.Test.YtmjflkljgljnjaaQMath
import Derived.Test.YtmjflkljgljnjaaSatLaws
namespace Go.Proofs.Ytmjflkljgljnjaa
open Go.RowKit
set_option linter.unusedVariables false

theorem quot_counted (n : Int) (w : World) :
    Calls Try.prog 32 #[.int .i64 n] w fun e w' => e = .returned (.int .i64 (clV n)) ∧ w = w' := by
  go_enter Try.func32, Try.ntmps32
  go_wp2_with (first
    | (go_at_call 37; refine (sat_clamp _ _).mono ?_; rintro e w' ⟨rfl, rfl⟩))
  go_ret
  exact ⟨rfl, rfl⟩

theorem nzB_t {b : Int} (h : clV b = 0) : nzB b = false := by simp [nzB, h]
theorem nzB_f {b : Int} (h : ¬ clV b = 0) : nzB b = true := by simp [nzB, h]

theorem mul_back {x y : Int} (hy : y ≠ 0) : (flo x y * y).natAbs ≤ x.natAbs + y.natAbs := by
  obtain ⟨m, a, b, c⟩ := flo_spec x hy
  by_cases h : 0 < y
  · have := b h; omega
  · have := c (by omega); omega

/-! ### The document's answers. -/
theorem ref2_both_neg (a b : Int) (h : clV b < 0) (w : World) :
    Calls Try.prog 35 #[.int .i64 a, .int .i64 b] w fun e w' => e = .returned (.tuple #[.int .i64 (-clV a), .int .i64 (-clV b)]) ∧ w = w' := by
  have ⟨ha0, ha1⟩ := clV_bd a
  have ⟨hb0, hb1⟩ := clV_bd b
  go_enter Try.func35, Try.ntmps35
  go_wp2_with (first
    | (go_at_call 31; refine (ref_clamp _ _).mono ?_; rintro e w' ⟨rfl, rfl⟩))
  go_ret2
  exact ⟨rfl, rfl⟩

theorem ref2_both_pos (a b : Int) (h : ¬ clV b < 0) (w : World) :
    Calls Try.prog 35 #[.int .i64 a, .int .i64 b] w fun e w' => e = .returned (.tuple #[.int .i64 (clV a), .int .i64 (clV b)]) ∧ w = w' := by
  have ⟨ha0, ha1⟩ := clV_bd a
  have ⟨hb0, hb1⟩ := clV_bd b
  go_enter Try.func35, Try.ntmps35
  go_wp2_with (first
    | (go_at_call 31; refine (ref_clamp _ _).mono ?_; rintro e w' ⟨rfl, rfl⟩))
  go_ret2
  exact ⟨rfl, rfl⟩

end Go.Proofs.Ytmjflkljgljnjaa
