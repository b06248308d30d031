/- TotalCounts holds of every base that may be, every set, and every count of drops: not a part of a drop is lost. No condition. -/
import Derived.Test.YtmjflkljgljnjaaLaw25
namespace Go.Proofs.Ytmjflkljgljnjaa.totalCounts
open Go.ChangeShapes Go.WideShapes Go.ChangeAt Go.RowKit
set_option linter.unusedVariables false
attribute [local go_sem] cell_set_ite Near.cell Near.frozen

theorem vo_at {f B d : Int} (hf : knB f = true) (b0 : 0 ≤ B) (b1 : B ≤ 99999999) (d0 : 0 ≤ d) (d1 : d ≤ 600) :
    voV f d B = withV (B + d * 1000 / f) 0 99999999 ∧ voB f d B = withB (B + d * 1000 / f) 0 99999999 := by
  unfold voV voB tbV tdV fvV
  rw [withK_2 b0 b1, withK_2 d0 (by omega), if_pos hf]
  exact ⟨rfl, rfl⟩
theorem q_bd {f d : Int} (hf : knB f = true) (d0 : 0 ≤ d) (d1 : d ≤ 600) : 0 ≤ d * 1000 / f ∧ d * 1000 / f ≤ 60000 := by
  rcases kn_of hf with rfl | rfl | rfl | rfl <;> omega
theorem q_up {f d : Int} (hf : knB f = true) (d0 : 0 ≤ d) : d * 1000 / f ≤ (d + 1) * 1000 / f := by
  rcases kn_of hf with rfl | rfl | rfl | rfl <;> omega
theorem q_whole {f d : Int} (hf : knB f = true) (d0 : 0 ≤ d) (h : d % f = 0) : d * 1000 / f = 1000 * (d / f) := by
  rcases kn_of hf with rfl | rfl | rfl | rfl <;> omega
theorem ad_at {d : Int} (d0 : 0 ≤ d) (d1 : d ≤ 600) : adV d = d + 1 := by
  unfold adV tdV; rw [withK_2 d0 (by omega), if_pos (by omega)]

set_option maxRecDepth 100000 in
set_option maxHeartbeats 4000000 in
theorem walk (a : Int) (wa : (Lit.int .u32 a).wf = true) (k : Int) (wk : (Lit.int .u8 k).wf = true) (nn : Int) (wn : (Lit.int .u16 nn).wf = true) (W : World) :
    Calls Try.prog 4 #[.int .u32 a, .int .u8 k, .int .u16 nn] W fun e W' => e = .returned (.bool true) ∧ Below W.heap.size W W' := by
  simp only [Lit.wf, IntKind.min, IntKind.max, IntKind.signed, IntKind.bits, Bool.and_eq_true] at wa wk wn
  simp at wa wk wn
  obtain ⟨a0, a1⟩ := wa
  obtain ⟨n0, n1⟩ := wn
  obtain ⟨kn, rfl⟩ : ∃ kn : Nat, k = (kn : Int) := ⟨k.toNat, by omega⟩
  have HS := Lib.hid (fun w => law9_set kn (by omega) w)
  have hf : knB (setV kn) = true := by
    have := set_kn kn
    simpa [knB, Kn] using this
  generalize setV kn = f at *
  obtain ⟨B, hB⟩ : ∃ B, a % 100000000 = B := ⟨_, rfl⟩
  obtain ⟨M, hM⟩ : ∃ M : Nat, nn % 501 = (M : Int) := ⟨(nn % 501).toNat, by omega⟩
  have b0 : 0 ≤ B := by omega
  have b1 : B ≤ 99999999 := by omega
  have m1 : M ≤ 500 := by omega
  obtain ⟨f0, f1⟩ : 10 ≤ f ∧ f ≤ 60 := by rcases kn_of hf with rfl | rfl | rfl | rfl <;> omega
  have HF := Lib.hid hf
  have K0 := fun w => to_volume f 0 B w
  obtain ⟨e1, e2⟩ := vo_at (f := f) (B := B) (d := 0) hf b0 b1 (by omega) (by omega)
  have ev : voV f 0 B = B := by rw [e1, Int.zero_mul, Int.zero_ediv, Int.add_zero]; exact withK_2 b0 b1
  rw [ev] at K0
  have K0 := Lib.hid K0
  have HV0 := Lib.hid ev
  have A0 : Below W.heap.size W W := Below.refl _ _
  have HM := Lib.hid hM
  clear e1 e2 ev hf hM
  go_enter Try.func4, Try.ntmps4
  go_wp2_with (go_at_call 15; refine (HS.out _).mono ?_; rintro e w' ⟨rfl, rfl⟩)
  go_wp2_with (fail)
  refine (K0.out _).mono ?_
  rintro e w1 ⟨rfl, hb⟩
  have A1 := below_call (below_alloc_on A0 (.cells #[.int .i64 f, .int .i64 0, .int .i64 B] 23)) hb
  have B1 := (box_new W #[.int .i64 f, .int .i64 0, .int .i64 B] 23).below hb
  clear hb A0
  obtain ⟨c0, c1, c2, cf, cl⟩ := B1.three
  go_wp2
  clear hB a0 a1 c0 c1 c2 cf cl
  go_loopw [9, 11] (fun v i wr => ∃ j : Nat, j ≤ M ∧ i = .int .i64 ((j : Int) + 1) ∧ v = .int .i64 (voV f j B) ∧ Below W.heap.size W wr ∧ Box wr W.heap.size #[.int .i64 f, .int .i64 j, .int .i64 B]) (fun _ i _ => M + 1 - (intOf i).toNat)
  case atStart => exact ⟨0, Nat.zero_le _, rfl, by rw [show ((0 : Nat) : Int) = 0 from rfl, HV0.out], A1, B1⟩
  case round =>
    clear A1 B1
    obtain ⟨j, hj, rfl, rfl, A1, B1⟩ := hrel
    obtain ⟨c0, c1, c2, cf, cl⟩ := B1.three
    have hM := HM.out
    by_cases hlt : j < M
    · have hf := HF.out
      obtain ⟨v1, _⟩ := vo_at (f := f) (B := B) (d := (j : Int)) hf b0 b1 (by omega) (by omega)
      obtain ⟨v2, o2⟩ := vo_at (f := f) (B := B) (d := (j : Int) + 1) hf b0 b1 (by omega) (by omega)
      obtain ⟨q0, q1⟩ := q_bd (f := f) (d := (j : Int) + 1) hf (by omega) (by omega)
      obtain ⟨p0, p1⟩ := q_bd (f := f) (d := (j : Int)) hf (by omega) (by omega)
      have qu := q_up (f := f) (d := (j : Int)) hf (by omega)
      have qw := q_whole (f := f) (d := (j : Int) + 1) hf (by omega)
      have K1 := fun w => to_add f j B w
      rw [ad_at (d := (j : Int)) (by omega) (by omega)] at K1
      have K1 := Lib.hid K1
      have K2 := Lib.hid (fun w => to_volume f ((j : Int) + 1) B w)
      have hd0 : 0 ≤ ((j : Int) + 1) / f := Int.ediv_nonneg (by omega) (by omega)
      have hd1 : ((j : Int) + 1) / f ≤ 600 := by
        have := Int.ediv_le_self (a := (j : Int) + 1) f (by omega); omega
      have s1 : IntKind.i64.wrap (((j : Int) + 1) * 1000) = ((j : Int) + 1) * 1000 := IntWalk.i64_in _ (by omega)
      have s2 : Int.tdiv (((j : Int) + 1) * 1000) f = ((j : Int) + 1) * 1000 / f := Int.tdiv_eq_ediv_of_nonneg (by omega)
      have s3 : Int.tmod ((j : Int) + 1) f = ((j : Int) + 1) % f := Int.tmod_eq_emod_of_nonneg (by omega)
      have s4 : Int.tdiv ((j : Int) + 1) f = ((j : Int) + 1) / f := Int.tdiv_eq_ediv_of_nonneg (by omega)
      obtain ⟨Q, hQ⟩ : ∃ Q, ((j : Int) + 1) * 1000 / f = Q := ⟨_, rfl⟩
      obtain ⟨D, hD⟩ : ∃ D, ((j : Int) + 1) / f = D := ⟨_, rfl⟩
      obtain ⟨R, hR⟩ : ∃ R, ((j : Int) + 1) % f = R := ⟨_, rfl⟩
      rw [hQ] at v2 o2 q0 q1 qu qw s2
      rw [hD] at qw hd0 hd1 s4
      rw [hR] at qw s3
      have s5 : IntKind.i64.wrap (B + Q) = B + Q := IntWalk.i64_in _ (by omega)
      have s6 : IntKind.i64.wrap Q = Q := IntWalk.i64_in _ (by omega)
      have s7 : IntKind.i64.wrap D = D := IntWalk.i64_in _ (by omega)
      have s8 : IntKind.i64.wrap (1000 * D) = 1000 * D := IntWalk.i64_in _ (by omega)
      have s9 : IntKind.i64.wrap (B + 1000 * D) = B + 1000 * D := IntWalk.i64_in _ (by omega)
      have z1 : (f == 0) = false := by simp; omega
      have V1 : decide (voV f ((j : Int) + 1) B < voV f j B) = false := decide_eq_false (by
        rw [v1, v2]; unfold withV; split <;> (try split) <;> (try split) <;> (try split) <;> (try split) <;> (try split) <;> omega)
      have hO : (99999999 < B + Q ∧ voV f ((j : Int) + 1) B = 99999999 ∧ voB f ((j : Int) + 1) B = true) ∨ (¬ 99999999 < B + Q ∧ voV f ((j : Int) + 1) B = B + Q ∧ voB f ((j : Int) + 1) B = false) := by
        rw [v2, o2]
        by_cases h : 99999999 < B + Q
        · exact .inl ⟨h, withK_3 (by omega) h, by unfold withB; simp; omega⟩
        · exact .inr ⟨h, withK_2 (by omega) (by omega), by unfold withB; simp; omega⟩
      obtain ⟨V, hV⟩ : ∃ V, voV f ((j : Int) + 1) B = V := ⟨_, rfl⟩
      have HV := Lib.hid hV
      rw [hV] at V1 hO K2
      generalize voB f ((j : Int) + 1) B = O at *
      generalize voV f j B = V0 at *
      clear v1 v2 o2 hV hQ hD hR qu p0 p1 hf
      by_cases hz : R = 0
      · have z2 : (R == 0) = true := by simpa using hz
        have hq := qw hz
        clear qw hz
        subst hq
        rcases hO with ⟨h1, rfl, rfl⟩ | ⟨h1, rfl, rfl⟩
        · have t1 := decide_eq_true h1
          have mm1 : min (B + 1000 * D) 99999999 = 99999999 := by omega
          have mm2 : (if (99999999 : Int) < B + 1000 * D then (99999999 : Int) else B + 1000 * D) = 99999999 := if_pos h1
          go_wp2_with (fail)
          refine (K1.out _).mono ?_
          rintro e w2 ⟨rfl, hb⟩
          have A2 := below_set_on (below_set_on (below_set_on (below_call A1 hb) (p := ⟨W.heap.size, 0, none⟩) (Nat.le_refl _) (.int .i64 f)) (p := ⟨W.heap.size, 1, none⟩) (Nat.le_refl _) (.int .i64 ((j : Int) + 1))) (p := ⟨W.heap.size, 2, none⟩) (Nat.le_refl _) (.int .i64 B)
          have B2 : Box (((w2.setCell ⟨W.heap.size, 0, none⟩ (.int .i64 f)).setCell ⟨W.heap.size, 1, none⟩ (.int .i64 ((j : Int) + 1))).setCell ⟨W.heap.size, 2, none⟩ (.int .i64 B)) W.heap.size #[.int .i64 f, .int .i64 ((j : Int) + 1), .int .i64 B] := (((B1.below hb).set (i := 0) (by simp) _).set (i := 1) (by simp) _).set (i := 2) (by simp) _
          clear c0 c1 c2 cf cl
          obtain ⟨c0, c1, c2, cf, cl⟩ := (B1.below hb).three
          clear hb A1 B1
          go_wp2_with (fail)
          refine (K2.out _).mono ?_
          rintro e w3 ⟨rfl, hb⟩
          have A3 := below_call A2 hb
          have B3 := B2.below hb
          clear hb A2 B2 c0 c1 c2 cf cl
          obtain ⟨c0, c1, c2, cf, cl⟩ := B3.three
          go_wp2
          refine wp_region_calm (by kernel_rfl) (by kernel_rfl) ?_
          repeat (go_big_quiet_step ((fail)))
          refine wpQuiet_nil ?_
          intro _ hw'
          obtain ⟨u, rfl⟩ := hw'
          have A4 := u.up A3
          have B4 := B3.near u
          generalize u.at_ = w4 at *
          clear A3 B3 c0 c1 c2 cf cl
          obtain ⟨c0, c1, c2, cf, cl⟩ := B4.three
          go_wp2
          refine wp_region_calm (by kernel_rfl) (by kernel_rfl) ?_
          repeat (go_big_quiet_step ((fail)))
          refine wpQuiet_nil ?_
          intro _ hw'
          obtain ⟨u, rfl⟩ := hw'
          go_wp2
          go_roundw
          case rel => exact ⟨j + 1, by omega, by go_num, by rw [show ((j + 1 : Nat) : Int) = (j : Int) + 1 by omega, HV.out], u.up A4, by rw [show ((j + 1 : Nat) : Int) = (j : Int) + 1 by omega]; exact B4.near u⟩
          case measure => simp [intOf]; omega
        · have t1 := decide_eq_false h1
          have mm1 : min (B + 1000 * D) 99999999 = B + 1000 * D := by omega
          have mm2 : (if (99999999 : Int) < B + 1000 * D then (99999999 : Int) else B + 1000 * D) = B + 1000 * D := if_neg h1
          go_wp2_with (fail)
          refine (K1.out _).mono ?_
          rintro e w2 ⟨rfl, hb⟩
          have A2 := below_set_on (below_set_on (below_set_on (below_call A1 hb) (p := ⟨W.heap.size, 0, none⟩) (Nat.le_refl _) (.int .i64 f)) (p := ⟨W.heap.size, 1, none⟩) (Nat.le_refl _) (.int .i64 ((j : Int) + 1))) (p := ⟨W.heap.size, 2, none⟩) (Nat.le_refl _) (.int .i64 B)
          have B2 : Box (((w2.setCell ⟨W.heap.size, 0, none⟩ (.int .i64 f)).setCell ⟨W.heap.size, 1, none⟩ (.int .i64 ((j : Int) + 1))).setCell ⟨W.heap.size, 2, none⟩ (.int .i64 B)) W.heap.size #[.int .i64 f, .int .i64 ((j : Int) + 1), .int .i64 B] := (((B1.below hb).set (i := 0) (by simp) _).set (i := 1) (by simp) _).set (i := 2) (by simp) _
          clear c0 c1 c2 cf cl
          obtain ⟨c0, c1, c2, cf, cl⟩ := (B1.below hb).three
          clear hb A1 B1
          go_wp2_with (fail)
          refine (K2.out _).mono ?_
          rintro e w3 ⟨rfl, hb⟩
          have A3 := below_call A2 hb
          have B3 := B2.below hb
          clear hb A2 B2 c0 c1 c2 cf cl
          obtain ⟨c0, c1, c2, cf, cl⟩ := B3.three
          go_wp2
          refine wp_region_calm (by kernel_rfl) (by kernel_rfl) ?_
          repeat (go_big_quiet_step ((fail)))
          refine wpQuiet_nil ?_
          intro _ hw'
          obtain ⟨u, rfl⟩ := hw'
          have A4 := u.up A3
          have B4 := B3.near u
          generalize u.at_ = w4 at *
          clear A3 B3 c0 c1 c2 cf cl
          obtain ⟨c0, c1, c2, cf, cl⟩ := B4.three
          go_wp2
          refine wp_region_calm (by kernel_rfl) (by kernel_rfl) ?_
          repeat (go_big_quiet_step ((fail)))
          refine wpQuiet_nil ?_
          intro _ hw'
          obtain ⟨u, rfl⟩ := hw'
          go_wp2
          go_roundw
          case rel => exact ⟨j + 1, by omega, by go_num, by rw [show ((j + 1 : Nat) : Int) = (j : Int) + 1 by omega, HV.out], u.up A4, by rw [show ((j + 1 : Nat) : Int) = (j : Int) + 1 by omega]; exact B4.near u⟩
          case measure => simp [intOf]; omega
      · have z2 : (R == 0) = false := by simpa using hz
        clear qw hz
        rcases hO with ⟨h1, rfl, rfl⟩ | ⟨h1, rfl, rfl⟩
        · have t1 := decide_eq_true h1
          have mm1 : min (B + Q) 99999999 = 99999999 := by omega
          have mm2 : (if (99999999 : Int) < B + Q then (99999999 : Int) else B + Q) = 99999999 := if_pos h1
          go_wp2_with (fail)
          refine (K1.out _).mono ?_
          rintro e w2 ⟨rfl, hb⟩
          have A2 := below_set_on (below_set_on (below_set_on (below_call A1 hb) (p := ⟨W.heap.size, 0, none⟩) (Nat.le_refl _) (.int .i64 f)) (p := ⟨W.heap.size, 1, none⟩) (Nat.le_refl _) (.int .i64 ((j : Int) + 1))) (p := ⟨W.heap.size, 2, none⟩) (Nat.le_refl _) (.int .i64 B)
          have B2 : Box (((w2.setCell ⟨W.heap.size, 0, none⟩ (.int .i64 f)).setCell ⟨W.heap.size, 1, none⟩ (.int .i64 ((j : Int) + 1))).setCell ⟨W.heap.size, 2, none⟩ (.int .i64 B)) W.heap.size #[.int .i64 f, .int .i64 ((j : Int) + 1), .int .i64 B] := (((B1.below hb).set (i := 0) (by simp) _).set (i := 1) (by simp) _).set (i := 2) (by simp) _
          clear c0 c1 c2 cf cl
          obtain ⟨c0, c1, c2, cf, cl⟩ := (B1.below hb).three
          clear hb A1 B1
          go_wp2_with (fail)
          refine (K2.out _).mono ?_
          rintro e w3 ⟨rfl, hb⟩
          have A3 := below_call A2 hb
          have B3 := B2.below hb
          clear hb A2 B2 c0 c1 c2 cf cl
          obtain ⟨c0, c1, c2, cf, cl⟩ := B3.three
          go_wp2
          refine wp_region_calm (by kernel_rfl) (by kernel_rfl) ?_
          repeat (go_big_quiet_step ((fail)))
          refine wpQuiet_nil ?_
          intro _ hw'
          obtain ⟨u, rfl⟩ := hw'
          have A4 := u.up A3
          have B4 := B3.near u
          generalize u.at_ = w4 at *
          clear A3 B3 c0 c1 c2 cf cl
          obtain ⟨c0, c1, c2, cf, cl⟩ := B4.three
          go_wp2
          refine wp_region_calm (by kernel_rfl) (by kernel_rfl) ?_
          repeat (go_big_quiet_step ((fail)))
          refine wpQuiet_nil ?_
          intro _ hw'
          obtain ⟨u, rfl⟩ := hw'
          go_wp2
          go_roundw
          case rel => exact ⟨j + 1, by omega, by go_num, by rw [show ((j + 1 : Nat) : Int) = (j : Int) + 1 by omega, HV.out], u.up A4, by rw [show ((j + 1 : Nat) : Int) = (j : Int) + 1 by omega]; exact B4.near u⟩
          case measure => simp [intOf]; omega
        · have t1 := decide_eq_false h1
          have mm1 : min (B + Q) 99999999 = B + Q := by omega
          have mm2 : (if (99999999 : Int) < B + Q then (99999999 : Int) else B + Q) = B + Q := if_neg h1
          go_wp2_with (fail)
          refine (K1.out _).mono ?_
          rintro e w2 ⟨rfl, hb⟩
          have A2 := below_set_on (below_set_on (below_set_on (below_call A1 hb) (p := ⟨W.heap.size, 0, none⟩) (Nat.le_refl _) (.int .i64 f)) (p := ⟨W.heap.size, 1, none⟩) (Nat.le_refl _) (.int .i64 ((j : Int) + 1))) (p := ⟨W.heap.size, 2, none⟩) (Nat.le_refl _) (.int .i64 B)
          have B2 : Box (((w2.setCell ⟨W.heap.size, 0, none⟩ (.int .i64 f)).setCell ⟨W.heap.size, 1, none⟩ (.int .i64 ((j : Int) + 1))).setCell ⟨W.heap.size, 2, none⟩ (.int .i64 B)) W.heap.size #[.int .i64 f, .int .i64 ((j : Int) + 1), .int .i64 B] := (((B1.below hb).set (i := 0) (by simp) _).set (i := 1) (by simp) _).set (i := 2) (by simp) _
          clear c0 c1 c2 cf cl
          obtain ⟨c0, c1, c2, cf, cl⟩ := (B1.below hb).three
          clear hb A1 B1
          go_wp2_with (fail)
          refine (K2.out _).mono ?_
          rintro e w3 ⟨rfl, hb⟩
          have A3 := below_call A2 hb
          have B3 := B2.below hb
          clear hb A2 B2 c0 c1 c2 cf cl
          obtain ⟨c0, c1, c2, cf, cl⟩ := B3.three
          go_wp2
          refine wp_region_calm (by kernel_rfl) (by kernel_rfl) ?_
          repeat (go_big_quiet_step ((fail)))
          refine wpQuiet_nil ?_
          intro _ hw'
          obtain ⟨u, rfl⟩ := hw'
          have A4 := u.up A3
          have B4 := B3.near u
          generalize u.at_ = w4 at *
          clear A3 B3 c0 c1 c2 cf cl
          obtain ⟨c0, c1, c2, cf, cl⟩ := B4.three
          go_wp2
          refine wp_region_calm (by kernel_rfl) (by kernel_rfl) ?_
          repeat (go_big_quiet_step ((fail)))
          refine wpQuiet_nil ?_
          intro _ hw'
          obtain ⟨u, rfl⟩ := hw'
          go_wp2
          go_roundw
          case rel => exact ⟨j + 1, by omega, by go_num, by rw [show ((j + 1 : Nat) : Int) = (j : Int) + 1 by omega, HV.out], u.up A4, by rw [show ((j + 1 : Nat) : Int) = (j : Int) + 1 by omega]; exact B4.near u⟩
          case measure => simp [intOf]; omega
    · obtain rfl : j = M := by omega
      go_wp2_with (fail)
      refine (law25_awake _).mono ?_
      rintro e w3 ⟨rfl, hb⟩
      go_wp2
      all_goals go_ret
      all_goals exact ⟨rfl, below_call A1 hb⟩

theorem lifted (os : Os) (started : os.Started) (H : Type) (enc : TypeId × Value → H) :
    ReturnsInHanded {} Try.checked os 4 .any (Rows.totalCountsSpec.pre6 enc Try.prog Try.f4 Rows.totalCountsRow.domain false) (Rows.totalCountsSpec.post enc Try.prog Try.f4 false true false false) := by
  refine law_lift started (by kernel_rfl) Try.func4 rfl rfl ?_ (by kernel_rfl)
    (ChangeSpec.witness6 (enc := enc) (C := Try.checked) false ⟨#[], #[.int .u32 0, .int .u8 0, .int .u16 0], []⟩ 8 (by kernel_rfl) (by kernel_rfl) (by kernel_rfl) (by kernel_rfl)) ?_
  · intro ds hl
    match ds, hl with
    | [_, _, _], _ => exact ⟨rfl, rfl, rfl⟩
  · intro W base args ds p hval hA hlt hwt
    rw [Try.params4] at hA hval hwt
    obtain ⟨v0, vs0, d0, ds0, p0, q0, hargs, rfl, rfl, h0, r0⟩ := trodAll_cons hA
    obtain ⟨v1, vs1, d1, ds1, p1, q1, rfl, rfl, rfl, h1, r1⟩ := trodAll_cons r0
    obtain ⟨v2, vs2, d2, ds2, p2, q2, rfl, rfl, rfl, h2, r2⟩ := trodAll_cons r1
    obtain ⟨rfl, rfl, rfl⟩ := trodAll_nil r2
    obtain rfl : args = #[v0, v1, v2] := by cases args; simp_all
    obtain ⟨a0, rfl, rfl, rfl, w0⟩ := open_int Try.underlying31 (hval 0 31 v0 rfl rfl) h0
    obtain ⟨a1, rfl, rfl, rfl, w1⟩ := open_int Try.underlying5 (hval 1 5 v1 rfl rfl) h1
    obtain ⟨a2, rfl, rfl, rfl, w2⟩ := open_int Try.underlying32 (hval 2 32 v2 rfl rfl) h2
    exact walk a0 w0 a1 w1 a2 w2 W

theorem over : Rows.totalCountsRow.holds Try.pinned (OpenSpec.ofChange Rows.totalCountsSpec) :=
  OpenClaim.holds_of_wide 4 Try.f4 rfl rfl rfl rfl rfl rfl rfl ⟨rfl, rfl, rfl, rfl, rfl⟩ rfl rfl rfl rfl rfl (by kernel_rfl) Try.func4 (by kernel_rfl)
    (of_decide_eq_true (by kernel_rfl)) (by unfold Func.isWrapper; first | (rw [if_pos (by decide +kernel)]; kernel_rfl) | (rw [if_neg (by decide +kernel)]; exact ⟨rfl, rfl⟩))
    (fun os started H enc _ => lifted os started H enc)

theorem proved : Rows.TotalCountsSaid := over
#print axioms proved
end Go.Proofs.Ytmjflkljgljnjaa.totalCounts
