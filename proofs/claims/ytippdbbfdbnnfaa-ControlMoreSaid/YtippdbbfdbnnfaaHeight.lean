/- Contracts of package height, the document's, and the law package's own. -/
import Derived.Test.YtippdbbfdbnnfaaSat
import Derived.Test.YtippdbbfdbnnfaaSatLaws
namespace Go.Proofs.Ytippdbbfdbnnfaa
open Go.RowKit
set_option linter.unusedVariables false
set_option linter.unusedSimpArgs false

theorem mulC (a b : Int) : mulV a b = mulV b a := by unfold mulV; rw [Int.mul_comm]
def gaV (n : Int) : Int := min (max n 64) 1024
theorem ga_bd (n : Int) : 64 ≤ gaV n ∧ gaV n ≤ 1024 := by unfold gaV; omega
def goB (goal seen : Int) : Bool := decide (mulV goal 9 < mulV seen 8)
def leB (goal seen : Int) : Bool := decide (mulV seen 8 < mulV goal 7)
def gnV (gain goal seen : Int) : Int := if goB goal seen = true then gaV (gaV gain - (gaV gain / 16 + 1)) else if leB goal seen = true then gaV (gaV gain + (gaV gain / 16 + 1)) else gaV gain

theorem he_counted (n : Int) (w : World) : Calls Try.prog 122 #[.int .i64 n] w fun e w' => e = .returned (.int .i64 (gaV n)) ∧ w = w' := by
  unfold gaV
  go_enter Try.func122, Try.ntmps122
  go_wp2
  all_goals go_ret
  all_goals exact ⟨ret_i (by omega), rfl⟩
theorem he_part (n : Int) (h0 : 64 ≤ n) (h1 : n ≤ 1024) (w : World) : Calls Try.prog 124 #[.int .i64 n] w fun e w' => e = .returned (.int .i64 (n / 16 + 1)) ∧ w = w' := by
  go_enter Try.func124, Try.ntmps124
  go_wp2
  all_goals go_ret
  all_goals exact ⟨ret_i (by omega), rfl⟩
theorem he_times (r n : Int) (w : World) : Calls Try.prog 123 #[.int .i64 r, .int .i64 n] w fun e w' => e = .returned (.int .i64 (mulV r n)) ∧ w = w' := by
  go_enter Try.func123, Try.ntmps123
  go_wp2_with (go_at_call 134; refine (sat_mul _ _ _).mono ?_; rintro e w' ⟨rfl, rfl⟩)
  all_goals go_ret
  all_goals exact ⟨rfl, rfl⟩
theorem he_adapt (gain goal seen : Int) (w : World) : Calls Try.prog 106 #[.int .i64 gain, .int .i64 goal, .int .i64 seen] w fun e w' => e = .returned (.int .i64 (gnV gain goal seen)) ∧ w = w' := by
  have ⟨g0, g1⟩ := ga_bd gain
  have HC := Lib.hid (fun w => he_counted gain w)
  unfold gnV
  generalize gaV gain = g at *
  cases t1 : goB goal seen
  · rw [if_neg (by simp)]
    have t1' : decide (mulV goal 9 < mulV seen 8) = false := t1
    cases t2 : leB goal seen
    · rw [if_neg (by simp)]
      have t2' : decide (mulV seen 8 < mulV goal 7) = false := t2
      clear t1 t2
      go_enter Try.func106, Try.ntmps106
      go_wp2_with (first
        | (go_at_call 122; refine (HC.out _).mono ?_; rintro e w' ⟨rfl, rfl⟩)
        | (go_at_call 123; refine (he_times _ _ _).mono ?_; rintro e w' ⟨rfl, rfl⟩))
      all_goals go_ret
      all_goals exact ⟨rfl, rfl⟩
    · rw [if_pos rfl]
      have t2' : decide (mulV seen 8 < mulV goal 7) = true := t2
      clear t1 t2
      go_enter Try.func106, Try.ntmps106
      go_wp2_with (first
        | (go_at_call 122; ((with_reducible refine (HC.out _).mono ?_); rintro e w' ⟨rfl, rfl⟩))
        | (go_at_call 122; ((with_reducible refine (he_counted (g + (g / 16 + 1)) _).mono ?_); rintro e w' ⟨rfl, rfl⟩))
        | (go_at_call 124; refine (he_part _ g0 g1 _).mono ?_; rintro e w' ⟨rfl, rfl⟩)
        | (go_at_call 123; refine (he_times _ _ _).mono ?_; rintro e w' ⟨rfl, rfl⟩))
      all_goals go_ret
      all_goals exact ⟨rfl, rfl⟩
  · rw [if_pos rfl]
    have t1' : decide (mulV goal 9 < mulV seen 8) = true := t1
    clear t1
    go_enter Try.func106, Try.ntmps106
    go_wp2_with (first
      | (go_at_call 122; ((with_reducible refine (HC.out _).mono ?_); rintro e w' ⟨rfl, rfl⟩))
      | (go_at_call 122; ((with_reducible refine (he_counted (g - (g / 16 + 1)) _).mono ?_); rintro e w' ⟨rfl, rfl⟩))
      | (go_at_call 124; refine (he_part _ g0 g1 _).mono ?_; rintro e w' ⟨rfl, rfl⟩)
      | (go_at_call 123; refine (he_times _ _ _).mono ?_; rintro e w' ⟨rfl, rfl⟩))
    all_goals go_ret
    all_goals exact ⟨rfl, rfl⟩
/-- Where all is small. -/
theorem mul_sm {a b : Int} (h : (a * b).natAbs ≤ 9007199254740992) (ha : a.natAbs ≤ 9007199254740992) (hb : b.natAbs ≤ 9007199254740992) : mulV a b = a * b := by
  unfold mulV
  rw [clV_in ha, clV_in hb, clV_in h]
theorem go_sm {g s : Int} (g0 : 0 ≤ g) (g1 : g ≤ 1099511627776) (s0 : 0 ≤ s) (s1 : s ≤ 1099511627776) : goB g s = decide (9 * g < 8 * s) ∧ leB g s = decide (8 * s < 7 * g) := by
  unfold goB leB
  rw [mul_sm (a := g) (b := 9) (by omega) (by omega) (by omega), mul_sm (a := s) (b := 8) (by omega) (by omega) (by omega), mul_sm (a := g) (b := 7) (by omega) (by omega) (by omega)]
  constructor
  · rw [Int.mul_comm g, Int.mul_comm s]
  · rw [Int.mul_comm g, Int.mul_comm s]
end Go.Proofs.Ytippdbbfdbnnfaa
