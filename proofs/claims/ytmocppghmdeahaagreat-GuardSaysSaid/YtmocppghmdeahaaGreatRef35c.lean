/- The document's answer for what is held. -/
import Derived.Test.YtmocppghmdeahaaGreatRef35b
import Derived.Test.YtmocppghmdeahaaGreatWorld
import Derived.Test.YtmocppghmdeahaaGreatFan
import Derived.Deep.CutBlock
import Derived.Deep.DeepCutAuto
import Derived.BigQuiet
namespace Go.Proofs.YtmocppghmdeahaaGreat
open Go.RowKit
set_option linter.unusedVariables false
set_option linter.unusedSimpArgs false
set_option maxRecDepth 100000
attribute [local go_sem] cell_set_ite Near.cell Near.frozen
attribute [local go_sem ↓] Go.wp_at_zero Go.wp_at_succ

set_option maxHeartbeats 16000000 in
theorem r35_held (B : Option Addr) (m d : Nat) (ys : List Int) (D0 D1 L0 L1 P0 P1 la : Int) (k : Lk) (w : World) (hi : Ints w B m ys) (hm : m ≤ 9223372036854775807) :
    Calls Tryz.prog 37 #[.agg #[.int .i64 D0, .int .i64 D1, .int .i64 L0, .int .i64 L1, .int .i64 P0, .int .i64 P1, .slice B m d, .int .i64 la], .agg (lkC k)] w fun e w' => e = .returned (.int .i64 (heR k.st (hoB k.r k.s && overB ys k.t 6000 (pcV (liV k.r k.s))) (fiB D0) (fiB D1) (hoB (paV k.m k.r) k.s && ltB L0 (toV (paV k.m k.r) k.s)) (dyB L1) (whB P0) k.od (whB P1) k.sl k.fa k.ov)) ∧ Below w.heap.size w w' := by
  have HX := Lib.hid (fun w => r9_limit k.r k.s w)
  have HPA := Lib.hid (fun w => r35_pace k.m k.r k.v k.s w)
  have HTO := Lib.hid (fun w => below_of (r9_timeout (paV k.m k.r) k.s w))
  have HOV := Lib.hid (fun W (hb : Below w.heap.size w W) => r26_over B m d ys k.t (liV k.r k.s) W (hi.below hb) hm)
  have HW := Lib.hid (fun b h w => r35_when b h w)
  have HF0 := Lib.hid (fun w => rd_fast D0 D1 w)
  have HF1 := Lib.hid (fun w => rd_slow D0 D1 w)
  have HLO := Lib.hid (fun w => rl_lost L0 L1 (toV (paV k.m k.r) k.s) w)
  have HEM := Lib.hid (fun w => rl_empty L0 L1 w)
  have HTI := Lib.hid (fun w => rp_tilted P0 P1 w)
  have HFL := Lib.hid (fun w => rp_flat P0 P1 w)
  have A0 : Below w.heap.size w w := Below.refl _ _
  obtain ⟨HE, hE⟩ : ∃ HE, heR k.st (hoB k.r k.s && overB ys k.t 6000 (pcV (liV k.r k.s))) (fiB D0) (fiB D1) (hoB (paV k.m k.r) k.s && ltB L0 (toV (paV k.m k.r) k.s)) (dyB L1) (whB P0) k.od (whB P1) k.sl k.fa k.ov = HE := ⟨_, rfl⟩
  rw [hE]
  unfold heR orI at hE
  clear hi
  generalize overB ys k.t 6000 (pcV (liV k.r k.s)) = ov at *
  generalize ltB L0 (toV (paV k.m k.r) k.s) = lt at *
  generalize toV (paV k.m k.r) k.s = T at *
  generalize hoB (paV k.m k.r) k.s = mo at *
  generalize paV k.m k.r = P at *
  generalize fiB D0 = f0 at *
  generalize fiB D1 = f1 at *
  generalize dyB L1 = dy at *
  generalize whB P0 = v0 at *
  generalize whB P1 = v1 at *
  generalize liV k.r k.s = li at *
  generalize hoB k.r k.s = ho at *
  have HHE := Lib.hid hE
  clear hE
  unfold lkC
  cases ho <;> cases mo
  all_goals
    go_enter Tryz.func37, Tryz.ntmps37
    go_upto_region 2 with (go_at_call 30; refine (HX.out _).mono ?_; rintro e w' ⟨rfl, rfl⟩)
    refine at_world (fun W => Below w.heap.size w W ∧ Box W w.heap.size #[.int .i64 D0, .int .i64 D1, .int .i64 L0, .int .i64 L1, .int .i64 P0, .int .i64 P1, .slice B m d, .int .i64 la] ∧ Box W (w.heap.size + 1) (lkC k)) ⟨by (repeat (first | (with_reducible exact Below.refl _ _) | (with_reducible assumption) | (with_reducible refine Near.up _ ?_) | (with_reducible refine Below.drew ?_) | (with_reducible refine below_alloc_on ?_ _) | (with_reducible refine below_set_on ?_ (by first | (simp; done) | (simp; omega) | omega) _))), by (repeat (first | (with_reducible assumption) | (with_reducible exact box_new _ _ _) | ((with_reducible apply box_at); (first | (with_reducible rfl) | (simp <;> omega))) | (with_reducible apply Box.drew) | (with_reducible apply Box.drewN) | (with_reducible apply Box.near) | (with_reducible apply Box.alloc) | ((with_reducible apply box_far); (first | assumption | omega | (simp <;> omega))) | ((with_reducible apply Box.one_set); (with_reducible assumption)) | ((with_reducible apply Box.two_set); (with_reducible assumption)) | ((with_reducible apply Box.three_set); (with_reducible assumption)) | (with_reducible apply Box.set) | (simp only [List.size_toArray, List.length_cons, List.length_nil, Array.size_setIfInBounds] <;> omega))), box_cast (by (repeat (first | (with_reducible assumption) | (with_reducible exact box_new _ _ _) | ((with_reducible apply box_at); (first | (with_reducible rfl) | (simp <;> omega))) | (with_reducible apply Box.drew) | (with_reducible apply Box.drewN) | (with_reducible apply Box.near) | (with_reducible apply Box.alloc) | ((with_reducible apply box_far); (first | assumption | omega | (simp <;> omega))) | ((with_reducible apply Box.one_set); (with_reducible assumption)) | ((with_reducible apply Box.two_set); (with_reducible assumption)) | ((with_reducible apply Box.three_set); (with_reducible assumption)) | (with_reducible apply Box.set) | (simp only [List.size_toArray, List.length_cons, List.length_nil, Array.size_setIfInBounds] <;> omega)))) (by rfl)⟩ ?_
    clear A0
    rintro w1 ⟨A, R, K⟩
    obtain ⟨g, hg⟩ : ∃ g, w.heap.size = g := ⟨_, rfl⟩
    obtain ⟨q, hq⟩ : ∃ q, w.heap.size + 1 = q := ⟨_, rfl⟩
    rw [hq] at K
    rw [hg] at R
    simp only [hq]
    simp only [hg]
    clear hg hq
    have gc0 : w1.cell? ⟨g, 0, none⟩ = some (.int .i64 D0) := R.2.1 0
    have gc1 : w1.cell? ⟨g, 1, none⟩ = some (.int .i64 D1) := R.2.1 1
    have gc2 : w1.cell? ⟨g, 2, none⟩ = some (.int .i64 L0) := R.2.1 2
    have gc3 : w1.cell? ⟨g, 3, none⟩ = some (.int .i64 L1) := R.2.1 3
    have gc4 : w1.cell? ⟨g, 4, none⟩ = some (.int .i64 P0) := R.2.1 4
    have gc5 : w1.cell? ⟨g, 5, none⟩ = some (.int .i64 P1) := R.2.1 5
    have gc6 : w1.cell? ⟨g, 6, none⟩ = some (.slice B m d) := R.2.1 6
    have gc7 : w1.cell? ⟨g, 7, none⟩ = some (.int .i64 la) := R.2.1 7
    have kc0 : w1.cell? ⟨q, 0, none⟩ = some (.int .i64 k.t) := K.2.1 0
    have kc1 : w1.cell? ⟨q, 1, none⟩ = some (.int .i64 k.m) := K.2.1 1
    have kc2 : w1.cell? ⟨q, 2, none⟩ = some (.int .i64 k.r) := K.2.1 2
    have kc3 : w1.cell? ⟨q, 3, none⟩ = some (.int .i64 k.v) := K.2.1 3
    have kc4 : w1.cell? ⟨q, 4, none⟩ = some (.int .i64 k.s) := K.2.1 4
    have kc7 : w1.cell? ⟨q, 7, none⟩ = some (.bool k.st) := K.2.1 7
    have kc8 : w1.cell? ⟨q, 8, none⟩ = some (.bool k.fa) := K.2.1 8
    have kc13 : w1.cell? ⟨q, 13, none⟩ = some (.bool k.od) := K.2.1 13
    have kc20 : w1.cell? ⟨q, 20, none⟩ = some (.bool k.sl) := K.2.1 20
    have kc21 : w1.cell? ⟨q, 21, none⟩ = some (.bool k.ov) := K.2.1 21
    have lg := R.1
    have lq := K.1
    refine wp_region_calm_fan 9 _ _ rfl rfl (by kernel_rfl) (by kernel_rfl) (fun _ _ _ _ h => h) (fun _ _ _ _ h => h) ?_
    simp only [List.take_succ_cons, List.take_zero, List.drop_succ_cons, List.drop_zero]
    repeat (go_big_quiet_step ((first | ((go_at_call 44; exact calm_of _ (HPA.out _))) | ((go_at_call 67; exact calm_of _ (HTO.out _))))))
    refine wpQuiet_nil ?_
    apply Exists.intro
    apply Exists.intro
    refine ⟨Or.inl ⟨rfl, fun w => ?_⟩, Or.inl ⟨rfl, fun w => ?_⟩, ?_⟩
    · go_simp
      rfl
    · go_simp
      rfl
    intro _ hw'
    obtain ⟨u, rfl⟩ := hw'
    have A' := u.up A
    have R' := R.near u
    have K' := K.near u
    clear gc0 gc1 gc2 gc3 gc4 gc5 gc6 gc7 kc0 kc1 kc2 kc3 kc4 kc7 kc8 kc13 kc20 kc21 lg lq A R K
    have A := A'
    have R := R'
    have K := K'
    clear A' R' K'
    generalize u.at_ = w2 at *
    clear u
    have gc0 : w2.cell? ⟨g, 0, none⟩ = some (.int .i64 D0) := R.2.1 0
    have gc1 : w2.cell? ⟨g, 1, none⟩ = some (.int .i64 D1) := R.2.1 1
    have gc2 : w2.cell? ⟨g, 2, none⟩ = some (.int .i64 L0) := R.2.1 2
    have gc3 : w2.cell? ⟨g, 3, none⟩ = some (.int .i64 L1) := R.2.1 3
    have gc4 : w2.cell? ⟨g, 4, none⟩ = some (.int .i64 P0) := R.2.1 4
    have gc5 : w2.cell? ⟨g, 5, none⟩ = some (.int .i64 P1) := R.2.1 5
    have gc6 : w2.cell? ⟨g, 6, none⟩ = some (.slice B m d) := R.2.1 6
    have gc7 : w2.cell? ⟨g, 7, none⟩ = some (.int .i64 la) := R.2.1 7
    have kc0 : w2.cell? ⟨q, 0, none⟩ = some (.int .i64 k.t) := K.2.1 0
    have kc1 : w2.cell? ⟨q, 1, none⟩ = some (.int .i64 k.m) := K.2.1 1
    have kc2 : w2.cell? ⟨q, 2, none⟩ = some (.int .i64 k.r) := K.2.1 2
    have kc3 : w2.cell? ⟨q, 3, none⟩ = some (.int .i64 k.v) := K.2.1 3
    have kc4 : w2.cell? ⟨q, 4, none⟩ = some (.int .i64 k.s) := K.2.1 4
    have kc7 : w2.cell? ⟨q, 7, none⟩ = some (.bool k.st) := K.2.1 7
    have kc8 : w2.cell? ⟨q, 8, none⟩ = some (.bool k.fa) := K.2.1 8
    have kc13 : w2.cell? ⟨q, 13, none⟩ = some (.bool k.od) := K.2.1 13
    have kc20 : w2.cell? ⟨q, 20, none⟩ = some (.bool k.sl) := K.2.1 20
    have kc21 : w2.cell? ⟨q, 21, none⟩ = some (.bool k.ov) := K.2.1 21
    have lg := R.1
    have lq := K.1
    have HOV2 := Lib.hid (HOV.out w2 A)
    go_upto_region 4 with (first
      | (go_at_call 68; refine (HW.out _ _ _).mono ?_; rintro e w' ⟨rfl, rfl⟩)
      | (go_at_call 69; refine HOV2.out.mono ?_; rintro e w' ⟨rfl, rfl⟩))
    refine wp_region_calm (by kernel_rfl) (by kernel_rfl) ?_
    repeat (go_big_quiet_step ((first | ((go_at_call 70; exact calm_of _ (HF0.out _))) | ((go_at_call 71; exact calm_of _ (HF1.out _))) | ((go_at_call 68; exact calm_of _ (below_of (HW.out _ _ _)))))))
    refine wpQuiet_nil ?_
    intro _ hw'
    obtain ⟨u, rfl⟩ := hw'
    have A' := u.up A
    have R' := R.near u
    have K' := K.near u
    clear gc0 gc1 gc2 gc3 gc4 gc5 gc6 gc7 kc0 kc1 kc2 kc3 kc4 kc7 kc8 kc13 kc20 kc21 lg lq A R K
    have A := A'
    have R := R'
    have K := K'
    clear A' R' K'
    generalize u.at_ = w3 at *
    clear u
    have gc0 : w3.cell? ⟨g, 0, none⟩ = some (.int .i64 D0) := R.2.1 0
    have gc1 : w3.cell? ⟨g, 1, none⟩ = some (.int .i64 D1) := R.2.1 1
    have gc2 : w3.cell? ⟨g, 2, none⟩ = some (.int .i64 L0) := R.2.1 2
    have gc3 : w3.cell? ⟨g, 3, none⟩ = some (.int .i64 L1) := R.2.1 3
    have gc4 : w3.cell? ⟨g, 4, none⟩ = some (.int .i64 P0) := R.2.1 4
    have gc5 : w3.cell? ⟨g, 5, none⟩ = some (.int .i64 P1) := R.2.1 5
    have gc6 : w3.cell? ⟨g, 6, none⟩ = some (.slice B m d) := R.2.1 6
    have gc7 : w3.cell? ⟨g, 7, none⟩ = some (.int .i64 la) := R.2.1 7
    have kc0 : w3.cell? ⟨q, 0, none⟩ = some (.int .i64 k.t) := K.2.1 0
    have kc1 : w3.cell? ⟨q, 1, none⟩ = some (.int .i64 k.m) := K.2.1 1
    have kc2 : w3.cell? ⟨q, 2, none⟩ = some (.int .i64 k.r) := K.2.1 2
    have kc3 : w3.cell? ⟨q, 3, none⟩ = some (.int .i64 k.v) := K.2.1 3
    have kc4 : w3.cell? ⟨q, 4, none⟩ = some (.int .i64 k.s) := K.2.1 4
    have kc7 : w3.cell? ⟨q, 7, none⟩ = some (.bool k.st) := K.2.1 7
    have kc8 : w3.cell? ⟨q, 8, none⟩ = some (.bool k.fa) := K.2.1 8
    have kc13 : w3.cell? ⟨q, 13, none⟩ = some (.bool k.od) := K.2.1 13
    have kc20 : w3.cell? ⟨q, 20, none⟩ = some (.bool k.sl) := K.2.1 20
    have kc21 : w3.cell? ⟨q, 21, none⟩ = some (.bool k.ov) := K.2.1 21
    have lg := R.1
    have lq := K.1
    go_upto_region 5 with (fail)
    refine wp_region_calm (by kernel_rfl) (by kernel_rfl) ?_
    repeat (go_big_quiet_step ((first | ((go_at_call 72; exact calm_of _ (HLO.out _))) | ((go_at_call 73; exact calm_of _ (HEM.out _))) | ((go_at_call 68; exact calm_of _ (below_of (HW.out _ _ _)))))))
    refine wpQuiet_nil ?_
    intro _ hw'
    obtain ⟨u, rfl⟩ := hw'
    have A' := u.up A
    have R' := R.near u
    have K' := K.near u
    clear gc0 gc1 gc2 gc3 gc4 gc5 gc6 gc7 kc0 kc1 kc2 kc3 kc4 kc7 kc8 kc13 kc20 kc21 lg lq A R K
    have A := A'
    have R := R'
    have K := K'
    clear A' R' K'
    generalize u.at_ = w4 at *
    clear u
    have gc0 : w4.cell? ⟨g, 0, none⟩ = some (.int .i64 D0) := R.2.1 0
    have gc1 : w4.cell? ⟨g, 1, none⟩ = some (.int .i64 D1) := R.2.1 1
    have gc2 : w4.cell? ⟨g, 2, none⟩ = some (.int .i64 L0) := R.2.1 2
    have gc3 : w4.cell? ⟨g, 3, none⟩ = some (.int .i64 L1) := R.2.1 3
    have gc4 : w4.cell? ⟨g, 4, none⟩ = some (.int .i64 P0) := R.2.1 4
    have gc5 : w4.cell? ⟨g, 5, none⟩ = some (.int .i64 P1) := R.2.1 5
    have gc6 : w4.cell? ⟨g, 6, none⟩ = some (.slice B m d) := R.2.1 6
    have gc7 : w4.cell? ⟨g, 7, none⟩ = some (.int .i64 la) := R.2.1 7
    have kc0 : w4.cell? ⟨q, 0, none⟩ = some (.int .i64 k.t) := K.2.1 0
    have kc1 : w4.cell? ⟨q, 1, none⟩ = some (.int .i64 k.m) := K.2.1 1
    have kc2 : w4.cell? ⟨q, 2, none⟩ = some (.int .i64 k.r) := K.2.1 2
    have kc3 : w4.cell? ⟨q, 3, none⟩ = some (.int .i64 k.v) := K.2.1 3
    have kc4 : w4.cell? ⟨q, 4, none⟩ = some (.int .i64 k.s) := K.2.1 4
    have kc7 : w4.cell? ⟨q, 7, none⟩ = some (.bool k.st) := K.2.1 7
    have kc8 : w4.cell? ⟨q, 8, none⟩ = some (.bool k.fa) := K.2.1 8
    have kc13 : w4.cell? ⟨q, 13, none⟩ = some (.bool k.od) := K.2.1 13
    have kc20 : w4.cell? ⟨q, 20, none⟩ = some (.bool k.sl) := K.2.1 20
    have kc21 : w4.cell? ⟨q, 21, none⟩ = some (.bool k.ov) := K.2.1 21
    have lg := R.1
    have lq := K.1
    go_upto_region 6 with (fail)
    refine wp_region_calm (by kernel_rfl) (by kernel_rfl) ?_
    repeat (go_big_quiet_step ((first | ((go_at_call 74; exact calm_of _ (HTI.out _))) | ((go_at_call 75; exact calm_of _ (HFL.out _))) | ((go_at_call 68; exact calm_of _ (below_of (HW.out _ _ _)))))))
    refine wpQuiet_nil ?_
    intro _ hw'
    obtain ⟨u, rfl⟩ := hw'
    have A' := u.up A
    have R' := R.near u
    have K' := K.near u
    clear gc0 gc1 gc2 gc3 gc4 gc5 gc6 gc7 kc0 kc1 kc2 kc3 kc4 kc7 kc8 kc13 kc20 kc21 lg lq A R K
    have A := A'
    have R := R'
    have K := K'
    clear A' R' K'
    generalize u.at_ = w5 at *
    clear u
    have gc0 : w5.cell? ⟨g, 0, none⟩ = some (.int .i64 D0) := R.2.1 0
    have gc1 : w5.cell? ⟨g, 1, none⟩ = some (.int .i64 D1) := R.2.1 1
    have gc2 : w5.cell? ⟨g, 2, none⟩ = some (.int .i64 L0) := R.2.1 2
    have gc3 : w5.cell? ⟨g, 3, none⟩ = some (.int .i64 L1) := R.2.1 3
    have gc4 : w5.cell? ⟨g, 4, none⟩ = some (.int .i64 P0) := R.2.1 4
    have gc5 : w5.cell? ⟨g, 5, none⟩ = some (.int .i64 P1) := R.2.1 5
    have gc6 : w5.cell? ⟨g, 6, none⟩ = some (.slice B m d) := R.2.1 6
    have gc7 : w5.cell? ⟨g, 7, none⟩ = some (.int .i64 la) := R.2.1 7
    have kc0 : w5.cell? ⟨q, 0, none⟩ = some (.int .i64 k.t) := K.2.1 0
    have kc1 : w5.cell? ⟨q, 1, none⟩ = some (.int .i64 k.m) := K.2.1 1
    have kc2 : w5.cell? ⟨q, 2, none⟩ = some (.int .i64 k.r) := K.2.1 2
    have kc3 : w5.cell? ⟨q, 3, none⟩ = some (.int .i64 k.v) := K.2.1 3
    have kc4 : w5.cell? ⟨q, 4, none⟩ = some (.int .i64 k.s) := K.2.1 4
    have kc7 : w5.cell? ⟨q, 7, none⟩ = some (.bool k.st) := K.2.1 7
    have kc8 : w5.cell? ⟨q, 8, none⟩ = some (.bool k.fa) := K.2.1 8
    have kc13 : w5.cell? ⟨q, 13, none⟩ = some (.bool k.od) := K.2.1 13
    have kc20 : w5.cell? ⟨q, 20, none⟩ = some (.bool k.sl) := K.2.1 20
    have kc21 : w5.cell? ⟨q, 21, none⟩ = some (.bool k.ov) := K.2.1 21
    have lg := R.1
    have lq := K.1
    go_upto_region 7 with (fail)
    refine wp_region_calm (by kernel_rfl) (by kernel_rfl) ?_
    repeat (go_big_quiet_step ((first | ((go_at_call 68; exact calm_of _ (below_of (HW.out _ _ _)))))))
    refine wpQuiet_nil ?_
    intro _ hw'
    obtain ⟨u, rfl⟩ := hw'
    have A' := u.up A
    go_wp2
    all_goals go_ret
    all_goals exact ⟨congrArg (fun x => Ending.returned (Value.int .i64 x)) HHE.out, A'⟩
end Go.Proofs.YtmocppghmdeahaaGreat
