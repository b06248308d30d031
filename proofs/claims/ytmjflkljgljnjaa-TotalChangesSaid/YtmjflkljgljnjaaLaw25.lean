/- The law package's own check of the total. -/
import Derived.Test.YtmjflkljgljnjaaTotal
namespace Go.Proofs.Ytmjflkljgljnjaa
open Go.RowKit
set_option linter.unusedVariables false
attribute [local go_sem] cell_set_ite

set_option maxRecDepth 100000 in
set_option maxHeartbeats 2000000 in
theorem law25_awake (w : World) : Calls Try.prog 14 #[] w fun e w' => e = .returned (.bool true) ∧ Below w.heap.size w w' := by
  have H1 := fun w => to_add 15 14 0 w
  have H2 := fun w => to_volume 15 15 0 w
  have H3 := fun w => to_change 15 14 0 60 w
  have H4 := fun w => to_change 15 14 0 7 w
  have H5 := fun w => to_volume 10 1 99999999 w
  have H6 := fun w => to_reached 15 15 0 1 w
  have H7 := fun w => to_reached 15 14 0 1 w
  rw [show adV 14 = 15 by decide +kernel] at H1
  rw [show voV 15 15 0 = 1000 by decide +kernel, show voB 15 15 0 = false by decide +kernel] at H2
  rw [show chS 60 = 60 by decide +kernel, show chB 15 14 0 60 = 933 by decide +kernel, show knB 60 = true by decide +kernel] at H3
  rw [show chS 7 = 0 by decide +kernel, show chB 15 14 0 7 = 0 by decide +kernel, show knB 7 = false by decide +kernel] at H4
  rw [show voV 10 1 99999999 = 99999999 by decide +kernel, show voB 10 1 99999999 = true by decide +kernel] at H5
  rw [show reB 15 15 0 1 = true by decide +kernel] at H6
  rw [show reB 15 14 0 1 = false by decide +kernel] at H7
  have K1 := Lib.hid H1
  have K2 := Lib.hid H2
  have K3 := Lib.hid H3
  have K4 := Lib.hid H4
  have K5 := Lib.hid H5
  have K6 := Lib.hid H6
  have K7 := Lib.hid H7
  clear H1 H2 H3 H4 H5 H6 H7
  have A0 : Below w.heap.size w w := Below.refl _ _
  go_enter Try.func14, Try.ntmps14
  go_wp2_with (fail)
  refine (K1.out _).mono ?_
  rintro e w1 ⟨rfl, hb⟩
  have A1 := below_call (below_alloc_on A0 (.cells #[.int .i64 15, .int .i64 14, .int .i64 0] 23)) hb
  have B1 := (box_new w #[.int .i64 15, .int .i64 14, .int .i64 0] 23).below hb
  clear hb A0
  go_wp2_with (fail)
  refine (K2.out _).mono ?_
  rintro e w2 ⟨rfl, hb⟩
  have A2 := below_call A1 hb
  have B2 := B1.below hb
  clear hb A1 B1
  obtain ⟨c0, c1, c2, cf, cl⟩ := B2.three
  go_wp2_with (fail)
  refine (K3.out _).mono ?_
  rintro e w3 ⟨rfl, hb⟩
  have A3 := below_call A2 hb
  have B3 := B2.below hb
  clear hb A2 B2 c0 c1 c2 cf cl
  obtain ⟨c0, c1, c2, cf, cl⟩ := B3.three
  go_wp2_with (fail)
  refine (K4.out _).mono ?_
  rintro e w4 ⟨rfl, hb⟩
  have A4 := below_call (below_alloc_on A3 (.cells #[.int .i64 60, .int .i64 0, .int .i64 933] 23)) hb
  have B4 := (B3.alloc (.cells #[.int .i64 60, .int .i64 0, .int .i64 933] 23)).below hb
  have C4 := (box_new w3 #[.int .i64 60, .int .i64 0, .int .i64 933] 23).below hb
  generalize w3.heap.size = g3 at *
  clear hb A3 B3 c0 c1 c2 cf cl
  go_wp2_with (fail)
  refine (K5.out _).mono ?_
  rintro e w5 ⟨rfl, hb⟩
  have A5 := below_call (below_alloc_on A4 (.cells #[.int .i64 0, .int .i64 0, .int .i64 0] 23)) hb
  have B5 := (B4.alloc (.cells #[.int .i64 0, .int .i64 0, .int .i64 0] 23)).below hb
  have C5 := (C4.alloc (.cells #[.int .i64 0, .int .i64 0, .int .i64 0] 23)).below hb
  clear hb A4 B4 C4
  obtain ⟨c0, c1, c2, cf, cl⟩ := B5.three
  obtain ⟨d0, d1, d2, df, dl⟩ := C5.three
  go_wp2_with (fail)
  refine (K1.out _).mono ?_
  rintro e w6 ⟨rfl, hb⟩
  have A6 := below_call A5 hb
  have B6 := B5.below hb
  clear hb A5 B5 C5 c0 c1 c2 cf cl d0 d1 d2 df dl
  go_wp2_with (fail)
  refine (K6.out _).mono ?_
  rintro e w7 ⟨rfl, hb⟩
  have A7 := below_call A6 hb
  have B7 := B6.below hb
  clear hb A6 B6
  obtain ⟨c0, c1, c2, cf, cl⟩ := B7.three
  go_wp2_with (fail)
  refine (K7.out _).mono ?_
  rintro e w8 ⟨rfl, hb⟩
  have A8 := below_call A7 hb
  go_wp2
  all_goals go_ret
  all_goals exact ⟨rfl, A8⟩
end Go.Proofs.Ytmjflkljgljnjaa
