/- Contracts of package sat: what each function of it answers, as plain functions on integers. -/
import Derived.WalkKit
import Derived.ProofKit
import Derived.OpenShut
import Derived.Handy
import Derived.Deep.QuietTactic
import Derived.BigQuiet
import Derived.Lib.Hide
import Derived.Test.YtjhdlcemeemlhaaRows
namespace Go.Proofs.Ytjhdlcemeemlhaa
set_option maxRecDepth 100000
open Go.RowKit
set_option linter.unusedVariables false
set_option linter.unusedSimpArgs false

theorem ret_ib {k : IntKind} {a b : Int} {p q : Bool} (h : a = b) (g : p = q) : Ending.returned (.tuple #[.int k a, .bool p]) = Ending.returned (.tuple #[.int k b, .bool q]) := by rw [h, g]
theorem ret_iib {k : IntKind} {a b c d : Int} {p q : Bool} (h : a = b) (h2 : c = d) (g : p = q) : Ending.returned (.tuple #[.int k a, .int k c, .bool p]) = Ending.returned (.tuple #[.int k b, .int k d, .bool q]) := by rw [h, h2, g]
theorem ret_i {k : IntKind} {a b : Int} (h : a = b) : Ending.returned (.int k a) = Ending.returned (.int k b) := by rw [h]
theorem ret_b {p q : Bool} (g : p = q) : Ending.returned (.bool p) = Ending.returned (.bool q) := by rw [g]

/-! ### The plain functions. -/
def withV (n lo hi : Int) : Int := if hi < lo then lo else if n < lo then lo else if hi < n then hi else n
def withB (n lo hi : Int) : Bool := decide (hi < lo ∨ n < lo ∨ hi < n)
def clV (n : Int) : Int := withV n (-9007199254740992) 9007199254740992
def clB (n : Int) : Bool := withB n (-9007199254740992) 9007199254740992
def bothB (a b : Int) : Bool := clB a || clB b
def addV (a b : Int) : Int := clV (clV a + clV b)
def addB (a b : Int) : Bool := bothB a b || clB (clV a + clV b)
def subV (a b : Int) : Int := clV (clV a - clV b)
def subB (a b : Int) : Bool := bothB a b || clB (clV a - clV b)
def mulV (a b : Int) : Int := clV (clV a * clV b)
def mulB (a b : Int) : Bool := bothB a b || clB (clV a * clV b)

theorem clV_bd (n : Int) : -9007199254740992 ≤ clV n ∧ clV n ≤ 9007199254740992 := by
  unfold clV withV; split <;> (try split) <;> (try split) <;> omega
theorem wf_bd {n : Int} (h : (Lit.int .i64 n).wf = true) : -9223372036854775808 ≤ n ∧ n ≤ 9223372036854775807 := by
  simp only [Lit.wf, IntKind.min, IntKind.max, IntKind.signed, IntKind.bits, Bool.and_eq_true, decide_eq_true_eq, if_true] at h
  omega

theorem sat_within (n lo hi : Int) (w : World) :
    Calls Try.prog 21 #[.int .i64 n, .int .i64 lo, .int .i64 hi] w fun e w' => e = .returned (.tuple #[.int .i64 (withV n lo hi), .bool (withB n lo hi)]) ∧ w = w' := by
  go_enter Try.func21, Try.ntmps21
  go_wp2
  all_goals go_ret2
  all_goals refine ⟨ret_ib ?_ ?_, rfl⟩
  all_goals first
    | (simp [withV]; omega)
    | (rw [Bool.eq_iff_iff]; simp [withB]; omega)

theorem sat_clamp (n : Int) (w : World) :
    Calls Try.prog 16 #[.int .i64 n] w fun e w' => e = .returned (.tuple #[.int .i64 (clV n), .bool (clB n)]) ∧ w = w' := by
  go_enter Try.func16, Try.ntmps16
  go_wp2_with (go_at_call 21; refine (sat_within _ _ _ _).mono ?_; rintro e w' ⟨rfl, rfl⟩)
  go_ret2
  exact ⟨rfl, rfl⟩

theorem sat_both (a b : Int) (w : World) :
    Calls Try.prog 15 #[.int .i64 a, .int .i64 b] w fun e w' => e = .returned (.tuple #[.int .i64 (clV a), .int .i64 (clV b), .bool (bothB a b)]) ∧ w = w' := by
  go_enter Try.func15, Try.ntmps15
  go_wp2_with (go_at_call 16; refine (sat_clamp _ _).mono ?_; rintro e w' ⟨rfl, rfl⟩)
  all_goals go_ret3
  all_goals exact ⟨ret_iib rfl rfl (by simp [*, bothB]), rfl⟩

theorem sat_add (a b : Int) (w : World) :
    Calls Try.prog 10 #[.int .i64 a, .int .i64 b] w fun e w' => e = .returned (.tuple #[.int .i64 (addV a b), .bool (addB a b)]) ∧ w = w' := by
  have ⟨ha0, ha1⟩ := clV_bd a
  have ⟨hb0, hb1⟩ := clV_bd b
  go_enter Try.func10, Try.ntmps10
  go_wp2_with (first | (go_at_call 15; refine (sat_both _ _ _).mono ?_; rintro e w' ⟨rfl, rfl⟩) | (go_at_call 16; refine (sat_clamp _ _).mono ?_; rintro e w' ⟨rfl, rfl⟩))
  all_goals go_ret2
  all_goals exact ⟨ret_ib rfl (by simp [*, addB]), rfl⟩

theorem mul_in {x y : Int} (hx : x ≠ 0) (h : (y.natAbs : Int) ≤ 9007199254740992 / (x.natAbs : Int)) : (x * y).natAbs ≤ 9007199254740992 := by
  have h1 : (y.natAbs : Int) * (x.natAbs : Int) ≤ 9007199254740992 := (Int.le_ediv_iff_mul_le (by omega)).1 h
  rw [Int.natAbs_mul, Nat.mul_comm]; omega
theorem mul_out {x y : Int} (hx : x ≠ 0) (h : ¬ (y.natAbs : Int) ≤ 9007199254740992 / (x.natAbs : Int)) : 9007199254740992 < (x * y).natAbs := by
  have h1 : ¬ (y.natAbs : Int) * (x.natAbs : Int) ≤ 9007199254740992 := fun g => h ((Int.le_ediv_iff_mul_le (by omega)).2 g)
  rw [Int.natAbs_mul, Nat.mul_comm]; omega
theorem clV_in {n : Int} (h : n.natAbs ≤ 9007199254740992) : clV n = n := by
  unfold clV withV; split
  · omega
  · split
    · omega
    · split <;> omega
theorem clB_in {n : Int} (h : n.natAbs ≤ 9007199254740992) : clB n = false := by
  unfold clB withB; simp; omega
theorem clB_out {n : Int} (h : 9007199254740992 < n.natAbs) : clB n = true := by
  unfold clB withB; simp; omega
theorem clV_neg {n : Int} (h : 9007199254740992 < n.natAbs) (h0 : n < 0) : clV n = -9007199254740992 := by
  unfold clV withV; split
  · omega
  · split
    · omega
    · split <;> omega
theorem clV_pos {n : Int} (h : 9007199254740992 < n.natAbs) (h0 : 0 ≤ n) : clV n = 9007199254740992 := by
  unfold clV withV; split
  · omega
  · split
    · omega
    · split <;> omega
theorem mul_neg_iff {x y : Int} (h : x * y ≠ 0) : x * y < 0 ↔ ¬ (x < 0 ↔ y < 0) := by
  have hx : x ≠ 0 := by rintro rfl; simp at h
  have hy : y ≠ 0 := by rintro rfl; simp at h
  by_cases a : x < 0 <;> by_cases b : y < 0
  · have := Int.mul_pos_of_neg_of_neg a b; simp [a, b]; omega
  · have := Int.mul_neg_of_neg_of_pos a (show 0 < y by omega); simp [a, b]; omega
  · have := Int.mul_neg_of_pos_of_neg (show 0 < x by omega) b; simp [a, b]; omega
  · have := Int.mul_pos (show 0 < x by omega) (show 0 < y by omega); simp [a, b]; omega

end Go.Proofs.Ytjhdlcemeemlhaa
