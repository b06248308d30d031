/- The law package's own check of the beat. -/
import Derived.Test.YtkmhkhmifecbdaaBeatG
import Derived.Test.YtkmhkhmifecbdaaLaw4
namespace Go.Proofs.Ytkmhkhmifecbdaa
set_option maxRecDepth 100000
open Go.RowKit
set_option linter.unusedVariables false
set_option linter.unusedSimpArgs false
attribute [local go_sem] cell_set_ite Near.cell Near.frozen

theorem ints_none (w : World) (A : Option Addr) : Ints w A 0 [] := ⟨rfl, fun h => absurd h (by omega)⟩
theorem mid_300 : midV [300, 300] = 300 := by
  have e : fiveL [300, 300] = [300, 300] := by
    unfold fiveL; rw [show lastL [300, 300] 5 = [300, 300] by decide]; exact sortL_of (by unfold Up; decide) (by decide)
  unfold midV; rw [e]; rfl

set_option maxRecDepth 100000 in
theorem law24_awake (w : World) : Calls Try.prog 4 #[] w fun e w' => e = .returned (.bool true) ∧ Below w.heap.size w w' := by
  have A0 : Below w.heap.size w w := Below.refl _ _
  have h1 : ∀ w t, Calls Try.prog 10 #[.agg #[.bool false, .int .i64 0, .slice none 0 0], .int .i64 t, .bool true] w (NewBeat w true t []) := fun w t => by
    have h := bt_drop false 0 none 0 0 [] t w (ints_none _ _) (by omega) (by omega)
    rwa [show timV false [] 0 t = [] from rfl] at h
  have h2 : ∀ B d w, Calls Try.prog 10 #[.agg #[.bool true, .int .i64 100, .slice B 0 d], .int .i64 400, .bool true] w (NewBeat w true 400 [300]) := fun B d w => by
    have h := bt_drop true 100 B 0 d [] 400 w (ints_none _ _) (by omega) (by omega)
    rwa [show timV true [] 100 400 = [300] by decide +kernel] at h
  have h3 : ∀ B d w, Ints w B 1 [300] → 1 ≤ d → Calls Try.prog 10 #[.agg #[.bool true, .int .i64 400, .slice B 1 d], .int .i64 700, .bool true] w (NewBeat w true 700 [300, 300]) := fun B d w hi hd => by
    have h := bt_drop true 400 B 1 d [300] 700 w hi hd (by omega)
    rwa [show timV true [300] 400 700 = [300, 300] by decide +kernel] at h
  have h4 : ∀ B d w, Ints w B 2 [300, 300] → 2 ≤ d → Calls Try.prog 5 #[.agg #[.bool true, .int .i64 700, .slice B 2 d], .int .i64 750] w fun e w' => e = .returned (.tuple #[.int .i64 300, .bool true]) ∧ Below w.heap.size w w' := fun B d w hi hd => by
    have h := bt_gap true 700 B 2 d [300, 300] 750 w hi hd (by omega)
    unfold gapV at h
    rwa [mid_300, show gapB true 2 = true by decide +kernel, if_pos rfl, show max 300 (sinV 750 700) = 300 by decide +kernel] at h
  have h5 : ∀ B d w, Ints w B 2 [300, 300] → 2 ≤ d → Calls Try.prog 5 #[.agg #[.bool true, .int .i64 700, .slice B 2 d], .int .i64 2000] w fun e w' => e = .returned (.tuple #[.int .i64 1300, .bool true]) ∧ Below w.heap.size w w' := fun B d w hi hd => by
    have h := bt_gap true 700 B 2 d [300, 300] 2000 w hi hd (by omega)
    unfold gapV at h
    rwa [mid_300, show gapB true 2 = true by decide +kernel, if_pos rfl, show max 300 (sinV 2000 700) = 1300 by decide +kernel] at h
  have h6 : ∀ B d w, Ints w B 2 [300, 300] → 2 ≤ d → Calls Try.prog 7 #[.agg #[.bool true, .int .i64 700, .slice B 2 d], .int .i64 700, .int .i64 20] w fun e w' => e = .returned (.tuple #[.int .i64 60000, .bool true]) ∧ Below w.heap.size w w' := fun B d w hi hd => by
    have h := bt_rate true 700 B 2 d [300, 300] 700 20 w hi hd (by omega)
    unfold rtV rtB gapV at h
    rwa [mid_300, show gapB true 2 = true by decide +kernel, if_pos rfl, if_pos rfl, show max 300 (sinV 700 700) = 300 by decide +kernel, show shV 300 20 = 60000 by decide +kernel, show (true && shB 300 20) = true by decide +kernel] at h
  have h7 : ∀ B d w, Calls Try.prog 5 #[.agg #[.bool true, .int .i64 5, .slice B 0 d], .int .i64 9] w fun e w' => e = .returned (.tuple #[.int .i64 0, .bool false]) ∧ Below w.heap.size w w' := fun B d w => by
    have h := bt_gap true 5 B 0 d [] 9 w (ints_none _ _) (by omega) (by omega)
    unfold gapV at h
    rwa [show gapB true 0 = false by decide +kernel, if_neg (by simp)] at h
  have H1 := Lib.hid h1
  have H2 := Lib.hid h2
  have H3 := Lib.hid h3
  have H4 := Lib.hid h4
  have H5 := Lib.hid h5
  have H6 := Lib.hid h6
  have H7 := Lib.hid h7
  clear h1 h2 h3 h4 h5 h6 h7
  go_enter Try.func4, Try.ntmps4
  go_wp2_with (fail)
  refine (H1.out _ _).mono ?_
  rintro e w1 hN
  obtain ⟨B1, d1, rfl, hd1, hi1, hb⟩ : ∃ B d, e = .returned (.agg #[.bool true, .int .i64 100, .slice B 0 d]) ∧ 0 ≤ d ∧ Ints w1 B 0 [] ∧ Below w.heap.size w w1 := hN.ints
  have A1 := below_call A0 hb
  clear hN hb A0
  go_wp2_with (fail)
  refine (H2.out _ _ _).mono ?_
  rintro e w2 hN
  obtain ⟨B2, d2, rfl, hd2, hi2, hb⟩ : ∃ B d, e = .returned (.agg #[.bool true, .int .i64 400, .slice B 1 d]) ∧ 1 ≤ d ∧ Ints w2 B 1 [300] ∧ Below w1.heap.size w1 w2 := hN.ints
  have A2 := below_call A1 hb
  clear hN hb A1 hi1
  go_wp2_with (fail)
  refine (H3.out _ _ _ hi2 hd2).mono ?_
  rintro e w3 hN
  obtain ⟨B, d, rfl, hd3, hi3, hb⟩ : ∃ B d, e = .returned (.agg #[.bool true, .int .i64 700, .slice B 2 d]) ∧ 2 ≤ d ∧ Ints w3 B 2 [300, 300] ∧ Below w2.heap.size w2 w3 := hN.ints
  have A3 := below_alloc_on (below_call A2 hb) (.cells #[.bool true, .int .i64 700, .slice B 2 d] 24)
  have X3 := box_new w3 #[.bool true, .int .i64 700, .slice B 2 d] 24
  have I3 := hi3.below (below_alloc_on (Below.refl w3.heap.size w3) (.cells #[.bool true, .int .i64 700, .slice B 2 d] 24))
  clear hN hb A2 hi2 hi3
  go_wp2_with (fail)
  generalize w3.alloc (.cells #[.bool true, .int .i64 700, .slice B 2 d] 24) = w4 at *
  generalize w3.heap.size = g at *
  refine (H4.out _ _ _ I3 hd3).mono ?_
  rintro e w5 ⟨rfl, hb⟩
  have A5 := below_call A3 hb
  have X5 := X3.below hb
  have I5 := I3.below hb
  clear hb A3 X3 I3
  obtain ⟨c0, c1, c2, cf, cl⟩ := X5.three
  go_wp2_with (fail)
  refine (H5.out _ _ _ I5 hd3).mono ?_
  rintro e w6 ⟨rfl, hb⟩
  have A6 := below_call A5 hb
  have X6 := X5.below hb
  have I6 := I5.below hb
  clear hb A5 X5 I5 c0 c1 c2 cf cl
  obtain ⟨c0, c1, c2, cf, cl⟩ := X6.three
  go_wp2_with (fail)
  refine (H6.out _ _ _ I6 hd3).mono ?_
  rintro e w7 ⟨rfl, hb⟩
  have A7 := below_call A6 hb
  have X7 := X6.below hb
  have I7 := I6.below hb
  clear hb A6 X6 I6 c0 c1 c2 cf cl
  obtain ⟨c0, c1, c2, cf, cl⟩ := X7.three
  go_wp2_with (fail)
  refine (H1.out _ _).mono ?_
  rintro e w8 hN
  obtain ⟨B8, d8, rfl, hd8, hi8, hb⟩ : ∃ B d, e = .returned (.agg #[.bool true, .int .i64 5, .slice B 0 d]) ∧ 0 ≤ d ∧ Ints w8 B 0 [] ∧ Below w7.heap.size w7 w8 := hN.ints
  have A8 := below_call A7 hb
  have X8 := X7.below hb
  have I8 := I7.below hb
  clear hN hb A7 X7 I7 c0 c1 c2 cf cl
  obtain ⟨c0, c1, c2, cf, cl⟩ := X8.three
  go_wp2_with (fail)
  refine (H7.out _ _ _).mono ?_
  rintro e w9 ⟨rfl, hb⟩
  have A9 := below_call A8 hb
  have X9 := X8.below hb
  have I9 := I8.below hb
  clear hb A8 X8 I8 c0 c1 c2 cf cl
  obtain ⟨c0, c1, c2, cf, cl⟩ := X9.three
  clear H1 H2 H3 H4 H5 H6 H7
  go_wp2_with (fail)
  have hc := l4_ints w B (some ⟨w9.heap.size, 0, none⟩) 2 d 2 2 [300, 300] [300, 300] (w9.alloc (.cells #[.int .i64 300, .int .i64 300] 3)) (below_alloc_on A9 _) (I9.below (below_alloc_on (Below.refl _ _) _)) (ints_new w9 [300, 300]) (by omega) (by omega)
  rw [show eqL [300, 300] [300, 300] = true by decide] at hc
  refine hc.mono ?_
  rintro e w10 ⟨rfl, _, hA⟩
  go_wp2
  all_goals go_ret
  all_goals exact ⟨rfl, hA⟩
end Go.Proofs.Ytkmhkhmifecbdaa
