/- The law package's own check of the motor. -/
import Derived.Test.YtdnekdkdnfkpdaaMotor
namespace Go.Proofs.Ytdnekdkdnfkpdaa
open Go.RowKit
set_option linter.unusedVariables false
attribute [local go_sem] cell_set_ite fld_motor0 fld_motor1

theorem law12_awake (w : World) : Calls Try.prog 15 #[] w fun e w' => e = .returned (.bool true) ∧ Below w.heap.size w w' := by
  have e1 : lfV 300 320 = 320 := by decide +kernel
  have e2 : stP 300 320 300 = 299 := by decide +kernel
  have e3 : stH 320 = 319 := by decide +kernel
  have e4 : stP 7 0 9 = 8 := by decide +kernel
  have e5 : stH 0 = 0 := by decide +kernel
  have e6 : cdB 0 0 = true := by decide +kernel
  have e7 : cdB 299 319 = false := by decide +kernel
  have e8 : stP 50 1 9 = 0 := by decide +kernel
  have A0 : Below w.heap.size w w := Below.refl _ _
  go_enter Try.func15, Try.ntmps15
  go_wp2_with (fail)
  refine (mo_start _).mono ?_
  rintro e w1 ⟨rfl, hb⟩
  have A1 := below_call A0 hb
  clear hb A0
  go_wp2_with (fail)
  refine (mo_left _ _ _).mono ?_
  rintro e w2 ⟨rfl, hb⟩
  have B1 := (box_new w1 _ _).below hb
  have A2 := below_call (below_alloc_on A1 _) hb
  have g0 := A1.size
  generalize w1.heap.size = g1 at *
  clear hb A1
  obtain ⟨c0, c1, cf, cl⟩ := B1.two
  go_wp2_with (fail)
  refine (mo_step _ _ _ _).mono ?_
  rintro e w3 ⟨rfl, hb⟩
  have A3 := below_call A2 hb
  have B2 := B1.below hb
  clear hb B1 A2 c0 c1 cf cl
  obtain ⟨c0, c1, cf, cl⟩ := B2.two
  go_wp2_with (fail)
  refine (mo_step _ _ _ _).mono ?_
  rintro e w4 ⟨rfl, hb⟩
  have A4 := below_call (below_set_on (below_set_on A3 (p := ⟨g1, 0, none⟩) g0 _) (p := ⟨g1, 1, none⟩) g0 _) hb
  have B3 := (B2.two_set _ _).below hb
  clear hb B2 A3 c0 c1 cf cl
  obtain ⟨c0, c1, cf, cl⟩ := B3.two
  go_wp2_with (fail)
  refine (mo_closed _ _ _).mono ?_
  rintro e w5 ⟨rfl, hb⟩
  have A5 := below_call (below_alloc_on A4 _) hb
  have B4 := (B3.alloc _).below hb
  clear hb B3 A4 c0 c1 cf cl
  obtain ⟨c0, c1, cf, cl⟩ := B4.two
  go_wp2_with (fail)
  refine (mo_closed _ _ _).mono ?_
  rintro e w6 ⟨rfl, hb⟩
  have A6 := below_call A5 hb
  clear hb B4 A5 c0 c1 cf cl
  go_wp2_with (fail)
  refine (mo_step _ _ _ _).mono ?_
  rintro e w7 ⟨rfl, hb⟩
  have A7 := below_call A6 hb
  clear hb A6
  go_wp2
  all_goals go_ret
  all_goals exact ⟨rfl, A7⟩
end Go.Proofs.Ytdnekdkdnfkpdaa
