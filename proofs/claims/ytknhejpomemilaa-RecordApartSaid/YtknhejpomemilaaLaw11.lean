/- The law package's own check of the record. -/
import Derived.Test.YtknhejpomemilaaRecN
import Derived.Test.YtknhejpomemilaaLaw3
namespace Go.Proofs.Ytknhejpomemilaa
set_option maxRecDepth 100000
open Go.RowKit Ieee
set_option linter.unusedVariables false
set_option linter.unusedSimpArgs false
attribute [local go_sem] run_store_real

set_option maxRecDepth 100000 in
set_option maxHeartbeats 2000000 in
theorem law11_awake (w : World) : Calls Try.prog 13 #[] w fun e w' => e = .returned (.bool true) ∧ Below w.heap.size w w' := by
  obtain ⟨N, hop, hnan, _⟩ := run_nan 52 w
  have a1 := tk_nan (hi := 4095) hnan
  have a2 := tk_const (x := 4623367229960880128) (n := 12) (hi := 180) (by omega) (by omega) (by omega) (by decide +kernel) (by decide +kernel) (by decide +kernel) (by decide +kernel)
  have a3 := tk_above (x := 4664418596095524864) (hi := 6000) (by omega) (by omega) (by decide +kernel) (by decide +kernel) (by decide +kernel)
  have a4 := tk_below (x := 13826050856027422720) (hi := 300) (by omega) (by omega) (by decide +kernel) (by decide +kernel) (by decide +kernel)
  have b1 := tk_const (x := 4658815484840378368) (n := 3000) (hi := 4095) (by omega) (by omega) (by omega) (by decide +kernel) (by decide +kernel) (by decide +kernel) (by decide +kernel)
  have b2 := tk_const (x := 0) (n := 0) (hi := 180) (by omega) (by omega) (by omega) (by decide +kernel) (by decide +kernel) (by decide +kernel) (by decide +kernel)
  have b3 := tk_const (x := 0) (n := 0) (hi := 6000) (by omega) (by omega) (by omega) (by decide +kernel) (by decide +kernel) (by decide +kernel) (by decide +kernel)
  have b4 := tk_const (x := 0) (n := 0) (hi := 300) (by omega) (by omega) (by omega) (by decide +kernel) (by decide +kernel) (by decide +kernel) (by decide +kernel)
  have h1 := fun w => rc_take N 4623367229960880128 4664418596095524864 13826050856027422720 true 11 false w
  have h2 := fun w => rc_take 4658815484840378368 0 0 0 false 9 true w
  rw [a1.1, a1.2, a2.1, a2.2, a3.1, a3.2, a4.1, a4.2, show kyV 11 = 0 from by decide, show badV true false true true (!upB 11 10) = 29 from by decide] at h1
  rw [b1.1, b1.2, b2.1, b2.2, b3.1, b3.2, b4.1, b4.2, show kyV 9 = 9 from by decide, show badV false false false false (!upB 9 10) = 0 from by decide] at h2
  have h3 := fun w => rc_clean 0 12 6000 0 true 0 false 29 w
  rw [show clnB 0 12 6000 0 0 29 = true from by decide] at h3
  have H1 := Lib.hid h1
  have H2 := Lib.hid h2
  have H3 := Lib.hid h3
  clear h1 h2 h3 a1 a2 a3 a4 b1 b2 b3 b4 hnan
  have A0 : Below w.heap.size w w.drew := below_drewN (Below.refl _ _) 1
  go_enter Try.func13, Try.ntmps13
  go_wp2_with (fail)
  refine (H1.out _).mono ?_
  rintro e w1 ⟨rfl, hb⟩
  have A1 := below_call A0 hb
  clear hb A0
  go_wp2_with (fail)
  refine (H2.out _).mono ?_
  rintro e w2 ⟨rfl, hb⟩
  have A2 := below_call (below_alloc_on A1 _) hb
  have B2 := (box_new w1 _ _).below hb
  have n1 : ¬ w1.heap.size = w2.heap.size := by have := B2.1; omega
  generalize w1.heap.size = g1 at *
  clear hb A1
  obtain ⟨c0, c1, c2, c3, c4, c5, c6, c7, cf, cl⟩ := B2.eight
  go_wp2_with (fail)
  refine (H3.out _).mono ?_
  rintro e w3 ⟨rfl, hb⟩
  have A3 := below_call (below_alloc_on A2 _) hb
  clear hb A2
  go_wp2
  all_goals go_ret
  all_goals exact ⟨rfl, A3⟩
end Go.Proofs.Ytknhejpomemilaa
