/- Contracts of quot.size and quot.ratio: the quotient of the product, or a panic with the limit. -/
import Derived.Test.YtmocppghmdeahaaGreatQDivW
import Derived.Test.YtmocppghmdeahaaGreatQTold
import Derived.WalkLawsBesides
namespace Go.Proofs.YtmocppghmdeahaaGreat
set_option maxRecDepth 100000
open Go.RowKit
set_option linter.unusedVariables false
set_option linter.unusedSimpArgs false

theorem quot_size (n : Int) (h0 : -9007199254740992 ≤ n) (h1 : n ≤ 9007199254740992) (w : World) :
    Calls Tryz.prog 97 #[.int .i64 n] w fun e w' => e = .returned (.int .u64 (n.natAbs : Int)) ∧ w = w' := by
  have e := Lib.hid (show max n (-n) = (n.natAbs : Int) by omega)
  go_enter Tryz.func97, Tryz.ntmps97
  go_wp2
  go_ret
  exact ⟨ret_i e.out, rfl⟩

/-- The size of the quotient: rounded up where it is below 0. -/
def sizeQ (x y z : Int) : Int := if (x < 0 ↔ y < 0) then (x.natAbs : Int) * (y.natAbs : Int) / z else ((x.natAbs : Int) * (y.natAbs : Int) + (z - 1)) / z
theorem up_div {p d : Int} (d0 : 0 < d) : flo (-p) d = -((p + (d - 1)) / d) := by
  have e := Int.mul_ediv_add_emod (p + (d - 1)) d
  have e0 := Int.emod_nonneg (p + (d - 1)) (b := d) (by omega)
  have e1 := Int.emod_lt_of_pos (p + (d - 1)) (b := d) d0
  refine flo_unique (m := d - 1 - (p + (d - 1)) % d) ?_ (fun _ => ⟨by omega, by omega⟩) (fun h => absurd h (by omega)) (by omega)
  rw [Int.neg_mul, Int.mul_comm]; omega
theorem flo_same_sign {x y z : Int} (z0 : 0 < z) (h : x < 0 ↔ y < 0) : flo (x * y) z = (x.natAbs : Int) * (y.natAbs : Int) / z := by
  rw [abs_same h]; unfold flo; rw [if_pos z0]
theorem flo_other_sign {x y z : Int} (z0 : 0 < z) (h : ¬ (x < 0 ↔ y < 0)) : flo (x * y) z = -(((x.natAbs : Int) * (y.natAbs : Int) + (z - 1)) / z) := by
  rw [← abs_other h, up_div z0]

def RatioEnd (x y z : Int) (w : World) (e : Ending) (w' : World) : Prop :=
  e = (if clB (flo (x * y) z) = true then .panicked [{ v := .iface 81 (.int .i64 (clV (flo (x * y) z))), recovered := false }] else .returned (.int .i64 (flo (x * y) z))) ∧ ∃ n, w' = w.drewN n

theorem ratio_ret {X y D q : Int} {w : World} {n : Nat} (h : flo (X * y) D = q) (h0 : -9007199254740992 ≤ q) (h1 : q ≤ 9007199254740992) : RatioEnd X y D w (.returned (.int .i64 q)) (w.drewN n) := by
  refine ⟨?_, n, rfl⟩
  rw [h, clB_in (by omega)]; rfl
theorem ratio_panic {X y D q : Int} {w : World} {n : Nat} (h : 9007199254740992 < (flo (X * y) D).natAbs) (hq : clV (flo (X * y) D) = q) : RatioEnd X y D w (.panicked [{ v := .iface 81 (.int .i64 q), recovered := false }]) (w.drewN n) := by
  refine ⟨?_, n, rfl⟩
  rw [clB_out h, hq, if_pos rfl]

set_option maxHeartbeats 1000000 in
theorem quot_ratio (x y z : Int) (x0 : -9007199254740992 ≤ x) (x1 : x ≤ 9007199254740992) (y0 : -9007199254740992 ≤ y) (y1 : y ≤ 9007199254740992) (z0 : -9007199254740992 ≤ z) (z1 : z ≤ 9007199254740992) (hz : z ≠ 0) (w : World) :
    Calls Tryz.prog 81 #[.int .i64 x, .int .i64 y, .int .i64 z] w (RatioEnd x y z w) := by
  obtain ⟨X, D, hs, d0, d1, hx0, hx1, hF⟩ : ∃ X D : Int, ((z < 0 ∧ -x = X ∧ -z = D) ∨ (¬ z < 0 ∧ X = x ∧ D = z)) ∧ 0 < D ∧ D ≤ 9007199254740992 ∧ -9007199254740992 ≤ X ∧ X ≤ 9007199254740992 ∧ flo (x * y) z = flo (X * y) D := by
    by_cases h : z < 0
    · exact ⟨-x, -z, .inl ⟨h, rfl, rfl⟩, by omega, by omega, by omega, by omega, by rw [Int.neg_mul, flo_neg hz]⟩
    · exact ⟨x, z, .inr ⟨h, rfl, rfl⟩, by omega, by omega, by omega, by omega, rfl⟩
  have hE : RatioEnd x y z w = RatioEnd X y D w := by funext e w'; unfold RatioEnd; rw [hF]
  rw [hE]
  clear hF hE
  obtain ⟨A, hA⟩ : ∃ A : Int, (X.natAbs : Int) = A := ⟨_, rfl⟩
  obtain ⟨B, hB⟩ : ∃ B : Int, (y.natAbs : Int) = B := ⟨_, rfl⟩
  obtain ⟨P, hP⟩ : ∃ P : Int, A * B = P := ⟨_, rfl⟩
  have a0 : 0 ≤ A := by omega
  have a1 : A ≤ 9007199254740992 := by omega
  have b0 : 0 ≤ B := by omega
  have b1 : B ≤ 9007199254740992 := by omega
  have p0 : 0 ≤ P := by rw [← hP]; exact Int.mul_nonneg a0 b0
  have p1 : P ≤ 81129638414606681695789005144064 := by rw [← hP]; have := Int.mul_le_mul a1 b1 b0 (by omega); omega
  have h64 : P / 18446744073709551616 * 18446744073709551616 + P % 18446744073709551616 = P := by omega
  by_cases hsg : (X < 0 ↔ y < 0)
  · have eF := flo_same_sign d0 hsg
    rw [hA, hB, hP] at eF
    have EF := Lib.hid eF
    have HSG := Lib.hid hsg
    have hd : decide (X < 0) = decide (y < 0) := by simp [hsg]
    have f0 := Int.ediv_nonneg p0 (b := D) (by omega)
    have f1 : D ≤ P / 18446744073709551616 → 18446744073709551616 ≤ P / D := fun h => Int.le_ediv_of_mul_le d0 (by omega)
    have F1 := Lib.hid f1
    clear eF hsg f1
    rcases hs with ⟨hz0, e1, e2⟩ | ⟨hz0, rfl, rfl⟩
    all_goals
      go_enter Tryz.func81, Tryz.ntmps81
      go_wp2_with (first
        | (go_at_call 97; refine (quot_size _ (by omega) (by omega) _).mono ?_; rintro e w' ⟨rfl, rfl⟩)
        | (go_at_call 96; refine (bits_mul64_int _ _ (by omega) (by omega) (by omega) (by omega) _).mono ?_; rintro e w' ⟨rfl, rfl⟩)
        | (go_at_call 99; refine (bits_div64 _ _ _ (by omega) (by omega) (by omega) (by omega) (by omega) _).mono ?_; rintro e w' ⟨rfl, n, rfl⟩; rw [h64]))
      all_goals first
        | (go_ret
           exact ratio_ret EF.out (by omega) (by omega))
        | exact ⟨rfl, ratio_panic (n := _) (by rw [EF.out]; omega) (by rw [EF.out]; exact (clV_hi (by omega)).1)⟩
        | exact ⟨rfl, ratio_panic (n := 0) (by rw [EF.out]; have := F1.out (by assumption); omega) (by rw [EF.out]; exact (clV_hi (by have := F1.out (by assumption); omega)).1)⟩
  · have eF := flo_other_sign d0 hsg
    rw [hA, hB, hP] at eF
    have EF := Lib.hid eF
    have HSG := Lib.hid hsg
    have hd : (decide (X < 0) == decide (y < 0)) = false := by
      by_cases a : X < 0 <;> by_cases b : y < 0 <;> simp_all
    obtain ⟨N, hN⟩ : ∃ N, P + (D - 1) = N := ⟨_, rfl⟩
    rw [hN] at EF
    have n0 : 0 ≤ N := by omega
    have n64 : (P / 18446744073709551616 + (P % 18446744073709551616 + (D - 1)) / 18446744073709551616) * 18446744073709551616 + N % 18446744073709551616 = N := by omega
    have f0 := Int.ediv_nonneg n0 (b := D) (by omega)
    have f1 : D ≤ P / 18446744073709551616 + (P % 18446744073709551616 + (D - 1)) / 18446744073709551616 → 18446744073709551616 ≤ N / D := fun h => Int.le_ediv_of_mul_le d0 (by omega)
    have F1 := Lib.hid f1
    clear f1
    have add := bits_add64_int (P % 18446744073709551616) (D - 1) (by omega) (by omega)
    clear eF hsg
    rcases hs with ⟨hz0, e1, e2⟩ | ⟨hz0, rfl, rfl⟩
    all_goals
      go_enter Tryz.func81, Tryz.ntmps81
      go_wp2_with (first
        | (go_at_call 97; refine (quot_size _ (by omega) (by omega) _).mono ?_; rintro e w' ⟨rfl, rfl⟩)
        | (go_at_call 96; refine (bits_mul64_int _ _ (by omega) (by omega) (by omega) (by omega) _).mono ?_; rintro e w' ⟨rfl, rfl⟩)
        | (go_at_call 99; refine (bits_div64 _ _ _ (by omega) (by omega) (by omega) (by omega) (by omega) _).mono ?_; rintro e w' ⟨rfl, n, rfl⟩; rw [n64]))
      all_goals first
        | (go_ret
           exact ratio_ret EF.out (by omega) (by omega))
        | exact ⟨rfl, ratio_panic (n := _) (by rw [EF.out]; omega) (by rw [EF.out]; exact (clV_lo (by omega)).1)⟩
        | exact ⟨rfl, ratio_panic (n := 0) (by rw [EF.out]; have := F1.out (by assumption); omega) (by rw [EF.out]; exact (clV_lo (by have := F1.out (by assumption); omega)).1)⟩
end Go.Proofs.YtmocppghmdeahaaGreat
