/- The document's own answers for sat, and the law package's own check 'awake'. -/
import Derived.Test.YtmocppghmdeahaaGreatSat
namespace Go.Proofs.YtmocppghmdeahaaGreat
set_option maxRecDepth 100000
open Go.RowKit
set_option linter.unusedVariables false
set_option linter.unusedSimpArgs false

theorem ref_clamp (n : Int) (w : World) :
    Calls Tryz.prog 60 #[.int .i64 n] w fun e w' => e = .returned (.tuple #[.int .i64 (clV n), .bool (clB n)]) ∧ w = w' := by
  go_enter Tryz.func60, Tryz.ntmps60
  go_wp2
  all_goals go_ret2
  all_goals refine ⟨ret_ib ?_ ?_, rfl⟩
  all_goals first
    | (simp [clV, withV]; omega)
    | (rw [Bool.eq_iff_iff]; simp [clB, withB]; omega)

theorem ref_within (n lo hi : Int) (w : World) :
    Calls Tryz.prog 77 #[.int .i64 n, .int .i64 lo, .int .i64 hi] w fun e w' => e = .returned (.tuple #[.int .i64 (withV n lo hi), .bool (withB n lo hi)]) ∧ w = w' := by
  go_enter Tryz.func77, Tryz.ntmps77
  go_wp2
  all_goals go_ret2
  all_goals refine ⟨ret_ib ?_ ?_, rfl⟩
  all_goals first
    | (simp [withV]; omega)
    | (rw [Bool.eq_iff_iff]; simp [withB]; omega)

theorem ref_sub (a b : Int) (w : World) :
    Calls Tryz.prog 104 #[.int .i64 a, .int .i64 b] w fun e w' => e = .returned (.tuple #[.int .i64 (subV a b), .bool (subB a b)]) ∧ w = w' := by
  have ⟨ha0, ha1⟩ := clV_bd a
  have ⟨hb0, hb1⟩ := clV_bd b
  go_enter Tryz.func104, Tryz.ntmps104
  go_wp2_with (go_at_call 60; refine (ref_clamp _ _).mono ?_; rintro e w' ⟨rfl, rfl⟩)
  all_goals go_ret2
  all_goals exact ⟨ret_ib rfl (by simp [*, subB, bothB]), rfl⟩


theorem mulV_in {x y : Int} (hb : (y.natAbs : Int) = 0 ∨ (x.natAbs : Int) ≤ 9007199254740992 / (y.natAbs : Int)) : (x * y).natAbs ≤ 9007199254740992 := by
  by_cases hy : y = 0
  · subst hy; simp
  · rcases hb with h | h
    · omega
    · rw [Int.mul_comm]; exact mul_in hy h
theorem mulV_le {x y : Int} (hy : y ≠ 0) (h : (x * y).natAbs ≤ 9007199254740992) : (x.natAbs : Int) ≤ 9007199254740992 / (y.natAbs : Int) := by
  refine (Int.le_ediv_iff_mul_le (by omega)).2 ?_
  rw [Int.natAbs_mul] at h
  have : ((x.natAbs * y.natAbs : Nat) : Int) ≤ 9007199254740992 := by omega
  rw [Int.natCast_mul] at this
  exact this
theorem mulV_gt {x y : Int} (hy : y ≠ 0) (h : ¬ (x * y).natAbs ≤ 9007199254740992) : ¬ (x.natAbs : Int) ≤ 9007199254740992 / (y.natAbs : Int) := fun g => h (by
  rw [Int.mul_comm]; exact mul_in hy g)

theorem div_spelled {y : Int} (h : y < 0) : wrap64 (-Int.tdiv 9007199254740992 y) = 9007199254740992 / -y := by
  rw [← Int.tdiv_neg, Int.tdiv_eq_ediv_of_nonneg (by omega)]
  have h1 := Int.ediv_nonneg (a := 9007199254740992) (b := -y) (by omega) (by omega)
  have h2 := Int.ediv_le_self (a := 9007199254740992) (-y) (by omega)
  exact IntWalk.wrap64_in _ ⟨by omega, by omega⟩

set_option maxHeartbeats 1000000 in
theorem ref_mul (a b : Int) (w : World) :
    Calls Tryz.prog 31 #[.int .i64 a, .int .i64 b] w fun e w' => e = .returned (.tuple #[.int .i64 (mulV a b), .bool (mulB a b)]) ∧ w = w' := by
  have ⟨ha0, ha1⟩ := clV_bd a
  have ⟨hb0, hb1⟩ := clV_bd b
  have HMV : Hid (mulV a b = clV (clV a * clV b)) := (rfl : mulV a b = clV (clV a * clV b))
  have HMB : Hid (mulB a b = (bothB a b || clB (clV a * clV b))) := (rfl : mulB a b = (bothB a b || clB (clV a * clV b)))
  by_cases hy0 : clV b = 0
  · by_cases hs : clV a < 0
    all_goals
          go_enter Tryz.func31, Tryz.ntmps31
          go_wp2_with (go_at_call 60; refine (ref_clamp _ _).mono ?_; rintro e w' ⟨rfl, rfl⟩)
          all_goals go_ret2
          all_goals exact ⟨ret_ib (by rw [HMV.out, hy0, Int.mul_zero]; rfl) (by rw [HMB.out, hy0, Int.mul_zero]; simp [*, bothB, show clB 0 = false from rfl]), rfl⟩
  · have hy1 : (clV b == 0) = false := by simpa using hy0
    by_cases hin : (clV a * clV b).natAbs ≤ 9007199254740992
    · have hle := mulV_le hy0 hin
      have HV := Lib.hid (clV_in hin)
      have HB := Lib.hid (clB_in hin)
      by_cases hs : clV a < 0 <;> by_cases ht : clV b < 0
      · rw [show ((clV a).natAbs : Int) = - clV a by omega, show ((clV b).natAbs : Int) = - clV b by omega, ← div_spelled ht] at hle
        have hy2 : (-clV b == 0) = false := by simpa using hy0
        have p0 : -9007199254740992 ≤ -clV a * -clV b := by rw [Int.neg_mul_neg]; omega
        have p1 : -clV a * -clV b ≤ 9007199254740992 := by rw [Int.neg_mul_neg]; omega
        clear hin
        go_enter Tryz.func31, Tryz.ntmps31
        go_wp2_with (go_at_call 60; refine (ref_clamp _ _).mono ?_; rintro e w' ⟨rfl, rfl⟩)
        all_goals go_ret2
        all_goals first | (exfalso; clear HMV HMB HV HB; simp_all; done) | (exfalso; clear HMV HMB HV HB; simp_all; omega) | exact ⟨ret_ib (by rw [HMV.out, HV.out]; simp [Int.neg_mul_neg]) (by rw [HMB.out, HB.out]; simp [*, bothB]), rfl⟩
      · rw [show ((clV a).natAbs : Int) = - clV a by omega, show ((clV b).natAbs : Int) = clV b by omega] at hle
        have p0 : -9007199254740992 ≤ -clV a * clV b := by rw [Int.neg_mul]; omega
        have p1 : -clV a * clV b ≤ 9007199254740992 := by rw [Int.neg_mul]; omega
        clear hin
        go_enter Tryz.func31, Tryz.ntmps31
        go_wp2_with (go_at_call 60; refine (ref_clamp _ _).mono ?_; rintro e w' ⟨rfl, rfl⟩)
        all_goals go_ret2
        all_goals first | (exfalso; clear HMV HMB HV HB; simp_all; done) | (exfalso; clear HMV HMB HV HB; simp_all; omega) | exact ⟨ret_ib (by rw [HMV.out, HV.out]; simp [Int.neg_mul]) (by rw [HMB.out, HB.out]; simp [*, bothB]), rfl⟩
      · rw [show ((clV a).natAbs : Int) = clV a by omega, show ((clV b).natAbs : Int) = - clV b by omega, ← div_spelled ht] at hle
        have hy2 : (-clV b == 0) = false := by simpa using hy0
        have p0 : -9007199254740992 ≤ clV a * -clV b := by rw [Int.mul_neg]; omega
        have p1 : clV a * -clV b ≤ 9007199254740992 := by rw [Int.mul_neg]; omega
        clear hin
        go_enter Tryz.func31, Tryz.ntmps31
        go_wp2_with (go_at_call 60; refine (ref_clamp _ _).mono ?_; rintro e w' ⟨rfl, rfl⟩)
        all_goals go_ret2
        all_goals first | (exfalso; clear HMV HMB HV HB; simp_all; done) | (exfalso; clear HMV HMB HV HB; simp_all; omega) | exact ⟨ret_ib (by rw [HMV.out, HV.out]; simp [Int.mul_neg]) (by rw [HMB.out, HB.out]; simp [*, bothB]), rfl⟩
      · rw [show ((clV a).natAbs : Int) = clV a by omega, show ((clV b).natAbs : Int) = clV b by omega] at hle
        have p0 : -9007199254740992 ≤ clV a * clV b := by omega
        have p1 : clV a * clV b ≤ 9007199254740992 := by omega
        clear hin
        go_enter Tryz.func31, Tryz.ntmps31
        go_wp2_with (go_at_call 60; refine (ref_clamp _ _).mono ?_; rintro e w' ⟨rfl, rfl⟩)
        all_goals go_ret2
        all_goals first | (exfalso; clear HMV HMB HV HB; simp_all; done) | (exfalso; clear HMV HMB HV HB; simp_all; omega) | exact ⟨ret_ib (by rw [HMV.out, HV.out]) (by rw [HMB.out, HB.out]; simp [*, bothB]), rfl⟩
    · have hle := mulV_gt hy0 hin
      have hout : 9007199254740992 < (clV a * clV b).natAbs := by omega
      have hn : clV a * clV b ≠ 0 := by omega
      have hsg := mul_neg_iff hn
      have HB := Lib.hid (clB_out hout)
      by_cases hs : clV a < 0 <;> by_cases ht : clV b < 0
      · rw [show ((clV a).natAbs : Int) = - clV a by omega, show ((clV b).natAbs : Int) = - clV b by omega, ← div_spelled ht] at hle
        have hy2 : (-clV b == 0) = false := by simpa using hy0
        have HV := Lib.hid (clV_pos hout (by simp only [hs, ht] at hsg; simp at hsg; omega))
        clear hin hout hn hsg
        go_enter Tryz.func31, Tryz.ntmps31
        go_wp2_with (go_at_call 60; refine (ref_clamp _ _).mono ?_; rintro e w' ⟨rfl, rfl⟩)
        all_goals go_ret2
        all_goals first | (exfalso; clear HMV HMB HV HB; simp_all; done) | (exfalso; clear HMV HMB HV HB; simp_all; omega) | exact ⟨ret_ib (by rw [HMV.out, HV.out]) (by rw [HMB.out, HB.out]; simp [*, bothB]), rfl⟩
      · rw [show ((clV a).natAbs : Int) = - clV a by omega, show ((clV b).natAbs : Int) = clV b by omega] at hle
        have HV := Lib.hid (clV_neg hout (by simp only [hs, ht] at hsg; simp at hsg; omega))
        clear hin hout hn hsg
        go_enter Tryz.func31, Tryz.ntmps31
        go_wp2_with (go_at_call 60; refine (ref_clamp _ _).mono ?_; rintro e w' ⟨rfl, rfl⟩)
        all_goals go_ret2
        all_goals first | (exfalso; clear HMV HMB HV HB; simp_all; done) | (exfalso; clear HMV HMB HV HB; simp_all; omega) | exact ⟨ret_ib (by rw [HMV.out, HV.out]) (by rw [HMB.out, HB.out]; simp [*, bothB]), rfl⟩
      · rw [show ((clV a).natAbs : Int) = clV a by omega, show ((clV b).natAbs : Int) = - clV b by omega, ← div_spelled ht] at hle
        have hy2 : (-clV b == 0) = false := by simpa using hy0
        have HV := Lib.hid (clV_neg hout (by simp only [hs, ht] at hsg; simp at hsg; omega))
        clear hin hout hn hsg
        go_enter Tryz.func31, Tryz.ntmps31
        go_wp2_with (go_at_call 60; refine (ref_clamp _ _).mono ?_; rintro e w' ⟨rfl, rfl⟩)
        all_goals go_ret2
        all_goals first | (exfalso; clear HMV HMB HV HB; simp_all; done) | (exfalso; clear HMV HMB HV HB; simp_all; omega) | exact ⟨ret_ib (by rw [HMV.out, HV.out]) (by rw [HMB.out, HB.out]; simp [*, bothB]), rfl⟩
      · rw [show ((clV a).natAbs : Int) = clV a by omega, show ((clV b).natAbs : Int) = clV b by omega] at hle
        have HV := Lib.hid (clV_pos hout (by simp only [hs, ht] at hsg; simp at hsg; omega))
        clear hin hout hn hsg
        go_enter Tryz.func31, Tryz.ntmps31
        go_wp2_with (go_at_call 60; refine (ref_clamp _ _).mono ?_; rintro e w' ⟨rfl, rfl⟩)
        all_goals go_ret2
        all_goals first | (exfalso; clear HMV HMB HV HB; simp_all; done) | (exfalso; clear HMV HMB HV HB; simp_all; omega) | exact ⟨ret_ib (by rw [HMV.out, HV.out]) (by rw [HMB.out, HB.out]; simp [*, bothB]), rfl⟩
end Go.Proofs.YtmocppghmdeahaaGreat
