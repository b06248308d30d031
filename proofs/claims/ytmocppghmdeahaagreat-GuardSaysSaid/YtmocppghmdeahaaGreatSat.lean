/- Contracts of package sat: what each function of it answers, as plain functions on integers. -/
import Derived.WalkKit
import Derived.ProofKit
import Derived.OpenShut
import Derived.Handy
import Derived.Deep.QuietTactic
import Derived.BigQuiet
import Derived.Lib.Hide
import Derived.Test.YtmocppghmdeahaaGreatRows
namespace Go.Proofs.YtmocppghmdeahaaGreat
set_option maxRecDepth 100000
open Go.RowKit
set_option linter.unusedVariables false
set_option linter.unusedSimpArgs false

theorem ret_ib {k : IntKind} {a b : Int} {p q : Bool} (h : a = b) (g : p = q) : Ending.returned (.tuple #[.int k a, .bool p]) = Ending.returned (.tuple #[.int k b, .bool q]) := by rw [h, g]
theorem ret_iib {k : IntKind} {a b c d : Int} {p q : Bool} (h : a = b) (h2 : c = d) (g : p = q) : Ending.returned (.tuple #[.int k a, .int k c, .bool p]) = Ending.returned (.tuple #[.int k b, .int k d, .bool q]) := by rw [h, h2, g]
theorem ret_i {k : IntKind} {a b : Int} (h : a = b) : Ending.returned (.int k a) = Ending.returned (.int k b) := by rw [h]
theorem ret_b {p q : Bool} (g : p = q) : Ending.returned (.bool p) = Ending.returned (.bool q) := by rw [g]

/-! ### The plain functions. -/
def withV (n lo hi : Int) : Int := if hi < lo then lo else if n < lo then lo else if hi < n then hi else n
def withB (n lo hi : Int) : Bool := decide (hi < lo ∨ n < lo ∨ hi < n)
def clV (n : Int) : Int := withV n (-9007199254740992) 9007199254740992
def clB (n : Int) : Bool := withB n (-9007199254740992) 9007199254740992
def bothB (a b : Int) : Bool := clB a || clB b
def addV (a b : Int) : Int := clV (clV a + clV b)
def addB (a b : Int) : Bool := bothB a b || clB (clV a + clV b)
def subV (a b : Int) : Int := clV (clV a - clV b)
def subB (a b : Int) : Bool := bothB a b || clB (clV a - clV b)
def mulV (a b : Int) : Int := clV (clV a * clV b)
def mulB (a b : Int) : Bool := bothB a b || clB (clV a * clV b)

theorem clV_bd (n : Int) : -9007199254740992 ≤ clV n ∧ clV n ≤ 9007199254740992 := by
  unfold clV withV; split <;> (try split) <;> (try split) <;> omega
theorem wf_bd {n : Int} (h : (Lit.int .i64 n).wf = true) : -9223372036854775808 ≤ n ∧ n ≤ 9223372036854775807 := by
  simp only [Lit.wf, IntKind.min, IntKind.max, IntKind.signed, IntKind.bits, Bool.and_eq_true, decide_eq_true_eq, if_true] at h
  omega

theorem sat_within (n lo hi : Int) (w : World) :
    Calls Tryz.prog 76 #[.int .i64 n, .int .i64 lo, .int .i64 hi] w fun e w' => e = .returned (.tuple #[.int .i64 (withV n lo hi), .bool (withB n lo hi)]) ∧ w = w' := by
  go_enter Tryz.func76, Tryz.ntmps76
  go_wp2
  all_goals go_ret2
  all_goals refine ⟨ret_ib ?_ ?_, rfl⟩
  all_goals first
    | (simp [withV]; omega)
    | (rw [Bool.eq_iff_iff]; simp [withB]; omega)

theorem sat_clamp (n : Int) (w : World) :
    Calls Tryz.prog 82 #[.int .i64 n] w fun e w' => e = .returned (.tuple #[.int .i64 (clV n), .bool (clB n)]) ∧ w = w' := by
  go_enter Tryz.func82, Tryz.ntmps82
  go_wp2_with (go_at_call 76; refine (sat_within _ _ _ _).mono ?_; rintro e w' ⟨rfl, rfl⟩)
  go_ret2
  exact ⟨rfl, rfl⟩

theorem sat_both (a b : Int) (w : World) :
    Calls Tryz.prog 84 #[.int .i64 a, .int .i64 b] w fun e w' => e = .returned (.tuple #[.int .i64 (clV a), .int .i64 (clV b), .bool (bothB a b)]) ∧ w = w' := by
  go_enter Tryz.func84, Tryz.ntmps84
  go_wp2_with (go_at_call 82; refine (sat_clamp _ _).mono ?_; rintro e w' ⟨rfl, rfl⟩)
  all_goals go_ret3
  all_goals exact ⟨ret_iib rfl rfl (by simp [*, bothB]), rfl⟩

theorem sat_sub (a b : Int) (w : World) :
    Calls Tryz.prog 101 #[.int .i64 a, .int .i64 b] w fun e w' => e = .returned (.tuple #[.int .i64 (subV a b), .bool (subB a b)]) ∧ w = w' := by
  have ⟨ha0, ha1⟩ := clV_bd a
  have ⟨hb0, hb1⟩ := clV_bd b
  go_enter Tryz.func101, Tryz.ntmps101
  go_wp2_with (first | (go_at_call 84; refine (sat_both _ _ _).mono ?_; rintro e w' ⟨rfl, rfl⟩) | (go_at_call 82; refine (sat_clamp _ _).mono ?_; rintro e w' ⟨rfl, rfl⟩))
  all_goals go_ret2
  all_goals exact ⟨ret_ib rfl (by simp [*, subB]), rfl⟩

theorem sat_size (n : Int) (h0 : -9007199254740992 ≤ n) (h1 : n ≤ 9007199254740992) (w : World) :
    Calls Tryz.prog 100 #[.int .i64 n] w fun e w' => e = .returned (.int .i64 (n.natAbs : Int)) ∧ w = w' := by
  go_enter Tryz.func100, Tryz.ntmps100
  go_wp2
  all_goals go_ret
  all_goals exact ⟨ret_i (by first | omega | (simp; omega)), rfl⟩

theorem mul_in {x y : Int} (hx : x ≠ 0) (h : (y.natAbs : Int) ≤ 9007199254740992 / (x.natAbs : Int)) : (x * y).natAbs ≤ 9007199254740992 := by
  have h1 : (y.natAbs : Int) * (x.natAbs : Int) ≤ 9007199254740992 := (Int.le_ediv_iff_mul_le (by omega)).1 h
  rw [Int.natAbs_mul, Nat.mul_comm]; omega
theorem mul_out {x y : Int} (hx : x ≠ 0) (h : ¬ (y.natAbs : Int) ≤ 9007199254740992 / (x.natAbs : Int)) : 9007199254740992 < (x * y).natAbs := by
  have h1 : ¬ (y.natAbs : Int) * (x.natAbs : Int) ≤ 9007199254740992 := fun g => h ((Int.le_ediv_iff_mul_le (by omega)).2 g)
  rw [Int.natAbs_mul, Nat.mul_comm]; omega
theorem clV_in {n : Int} (h : n.natAbs ≤ 9007199254740992) : clV n = n := by
  unfold clV withV; split
  · omega
  · split
    · omega
    · split <;> omega
theorem clB_in {n : Int} (h : n.natAbs ≤ 9007199254740992) : clB n = false := by
  unfold clB withB; simp; omega
theorem clB_out {n : Int} (h : 9007199254740992 < n.natAbs) : clB n = true := by
  unfold clB withB; simp; omega
theorem clV_neg {n : Int} (h : 9007199254740992 < n.natAbs) (h0 : n < 0) : clV n = -9007199254740992 := by
  unfold clV withV; split
  · omega
  · split
    · omega
    · split <;> omega
theorem clV_pos {n : Int} (h : 9007199254740992 < n.natAbs) (h0 : 0 ≤ n) : clV n = 9007199254740992 := by
  unfold clV withV; split
  · omega
  · split
    · omega
    · split <;> omega
theorem mul_neg_iff {x y : Int} (h : x * y ≠ 0) : x * y < 0 ↔ ¬ (x < 0 ↔ y < 0) := by
  have hx : x ≠ 0 := by rintro rfl; simp at h
  have hy : y ≠ 0 := by rintro rfl; simp at h
  by_cases a : x < 0 <;> by_cases b : y < 0
  · have := Int.mul_pos_of_neg_of_neg a b; simp [a, b]; omega
  · have := Int.mul_neg_of_neg_of_pos a (show 0 < y by omega); simp [a, b]; omega
  · have := Int.mul_neg_of_pos_of_neg (show 0 < x by omega) b; simp [a, b]; omega
  · have := Int.mul_pos (show 0 < x by omega) (show 0 < y by omega); simp [a, b]; omega

theorem sat_times (x y : Int) (h0 : -9007199254740992 ≤ x) (h1 : x ≤ 9007199254740992) (h2 : -9007199254740992 ≤ y) (h3 : y ≤ 9007199254740992) (w : World) :
    Calls Tryz.prog 85 #[.int .i64 x, .int .i64 y] w fun e w' => e = .returned (.tuple #[.int .i64 (clV (x * y)), .bool (clB (x * y))]) ∧ w = w' := by
  by_cases hx : x = 0
  · subst hx
    go_enter Tryz.func85, Tryz.ntmps85
    go_wp2
    go_ret2
    exact ⟨ret_ib (by rw [Int.zero_mul]; rfl) (by rw [Int.zero_mul]; rfl), rfl⟩
  · have hx0 : (x == 0) = false := by simpa using hx
    have hxn : (1 : Int) ≤ (x.natAbs : Int) := by omega
    by_cases hle : (y.natAbs : Int) ≤ 9007199254740992 / (x.natAbs : Int)
    · have hin := mul_in hx hle
      have hp0 : -9007199254740992 ≤ x * y := by omega
      have hp1 : x * y ≤ 9007199254740992 := by omega
      have hv := clV_in hin
      have hb := clB_in hin
      have HV := Lib.hid hv
      have HB := Lib.hid hb
      clear hv hb hin
      go_enter Tryz.func85, Tryz.ntmps85
      go_wp2_with (go_at_call 100; refine (sat_size _ (by omega) (by omega) _).mono ?_; rintro e w' ⟨rfl, rfl⟩)
      all_goals go_ret2
      all_goals first | exact ⟨ret_ib HV.out.symm HB.out.symm, rfl⟩ | (exfalso; clear HV HB; simp_all; done) | (exfalso; clear HV HB; simp_all; omega)
    · have hout := mul_out hx hle
      have hn : x * y ≠ 0 := by omega
      have hs := mul_neg_iff hn
      have hB := clB_out hout
      by_cases hneg : x * y < 0
      · have hV := clV_neg hout hneg
        have HV := Lib.hid hV
        have HB := Lib.hid hB
        have hs2 : ¬ (x < 0 ↔ y < 0) := hs.1 hneg
        clear hV hB hs hneg hn hout
        by_cases ha : x < 0 <;> by_cases hb : y < 0 <;> simp only [ha, hb, iff_self, not_true_eq_false] at hs2
        all_goals
          clear hs2
          go_enter Tryz.func85, Tryz.ntmps85
          go_wp2_with (go_at_call 100; refine (sat_size _ (by omega) (by omega) _).mono ?_; rintro e w' ⟨rfl, rfl⟩)
          all_goals go_ret2
          all_goals first | exact ⟨ret_ib HV.out.symm HB.out.symm, rfl⟩ | (exfalso; clear HV HB; simp_all; done) | (exfalso; clear HV HB; simp_all; omega)
      · have hV := clV_pos hout (by omega)
        have HV := Lib.hid hV
        have HB := Lib.hid hB
        have hs2 : (x < 0 ↔ y < 0) := by
          by_cases g : (x < 0 ↔ y < 0)
          · exact g
          · exact absurd (hs.2 g) hneg
        clear hV hB hs hneg hn hout
        by_cases ha : x < 0 <;> by_cases hb : y < 0 <;> simp only [ha, hb, iff_self, iff_false, iff_true, not_true_eq_false] at hs2
        all_goals
          go_enter Tryz.func85, Tryz.ntmps85
          go_wp2_with (go_at_call 100; refine (sat_size _ (by omega) (by omega) _).mono ?_; rintro e w' ⟨rfl, rfl⟩)
          all_goals go_ret2
          all_goals first | exact ⟨ret_ib HV.out.symm HB.out.symm, rfl⟩ | (exfalso; clear HV HB; simp_all; done) | (exfalso; clear HV HB; simp_all; omega)

theorem sat_mul (a b : Int) (w : World) :
    Calls Tryz.prog 49 #[.int .i64 a, .int .i64 b] w fun e w' => e = .returned (.tuple #[.int .i64 (mulV a b), .bool (mulB a b)]) ∧ w = w' := by
  have ⟨ha0, ha1⟩ := clV_bd a
  have ⟨hb0, hb1⟩ := clV_bd b
  go_enter Tryz.func49, Tryz.ntmps49
  go_wp2_with (first | (go_at_call 84; refine (sat_both _ _ _).mono ?_; rintro e w' ⟨rfl, rfl⟩) | (go_at_call 85; refine (sat_times _ _ (by omega) (by omega) (by omega) (by omega) _).mono ?_; rintro e w' ⟨rfl, rfl⟩))
  all_goals go_ret2
  all_goals exact ⟨ret_ib rfl (by simp [*, mulB]), rfl⟩
end Go.Proofs.YtmocppghmdeahaaGreat
