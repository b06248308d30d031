/- TotalSays holds of every total, and every number: the volume, one drop more, another set, and whether so much is reached, are the document's. No condition. -/
import Derived.Test.YtmjflkljgljnjaaLaw25
import Derived.Test.YtmjflkljgljnjaaLeaf
namespace Go.Proofs.Ytmjflkljgljnjaa.totalSays
open Go.ChangeShapes Go.WideShapes Go.ChangeAt Go.RowKit
set_option linter.unusedVariables false
attribute [local go_sem] cell_set_ite Near.cell Near.frozen

set_option maxRecDepth 100000 in
set_option maxHeartbeats 2000000 in
theorem walk (s : Int) (ws : (Lit.int .i64 s).wf = true) (d : Int) (wd : (Lit.int .i64 d).wf = true) (b : Int) (wb : (Lit.int .i64 b).wf = true) (n : Int) (wn : (Lit.int .i64 n).wf = true) (W : World) :
    Calls Try.prog 3 #[.agg #[.int .i64 s, .int .i64 d, .int .i64 b], .int .i64 n] W fun e W' => e = .returned (.bool true) ∧ Below W.heap.size W W' := by
  clear ws wd wb wn
  have K1 := Lib.hid (fun w => to_volume s d b w)
  have K2 := Lib.hid (fun w => rt_volume s d b w)
  have K3 := Lib.hid (fun w => to_change s d b n w)
  have K4 := Lib.hid (fun w => rt_change s d b n w)
  have K5 := Lib.hid (fun w => to_add s d b w)
  have K6 := Lib.hid (fun w => rt_add s d b w)
  have K7 := Lib.hid (fun w => to_reached s d b n w)
  have K8 := Lib.hid (fun w => rt_reached s d b n w)
  generalize voV s d b = V at *
  generalize voB s d b = VB at *
  generalize chS n = CS at *
  generalize chB s d b n = CB at *
  generalize knB n = KN at *
  generalize adV d = AD at *
  generalize reB s d b n = RE at *
  have A0 : Below W.heap.size W W := Below.refl _ _
  go_enter Try.func3, Try.ntmps3
  go_wp2_with (fail)
  refine (K1.out _).mono ?_
  rintro e w1 ⟨rfl, hb⟩
  have A1 := below_call (below_alloc_on A0 (.cells #[.int .i64 s, .int .i64 d, .int .i64 b] 23)) hb
  have B1 := (box_new W #[.int .i64 s, .int .i64 d, .int .i64 b] 23).below hb
  clear hb A0
  obtain ⟨c0, c1, c2, cf, cl⟩ := B1.three
  go_wp2_with (fail)
  refine (K2.out _).mono ?_
  rintro e w2 ⟨rfl, hb⟩
  have A2 := below_call A1 hb
  have B2 := B1.below hb
  clear hb A1 B1 c0 c1 c2 cf cl
  obtain ⟨c0, c1, c2, cf, cl⟩ := B2.three
  go_wp2_with (fail)
  refine (K3.out _).mono ?_
  rintro e w3 ⟨rfl, hb⟩
  have A3 := below_call A2 hb
  have B3 := B2.below hb
  clear hb A2 B2 c0 c1 c2 cf cl
  obtain ⟨c0, c1, c2, cf, cl⟩ := B3.three
  go_wp2_with (fail)
  refine (K4.out _).mono ?_
  rintro e w4 ⟨rfl, hb⟩
  have A4 := below_alloc_on (below_call (below_alloc_on A3 (.cells #[.int .i64 CS, .int .i64 0, .int .i64 CB] 23)) hb) (.cells #[.int .i64 CS, .int .i64 0, .int .i64 CB] 23)
  have B4 := ((B3.alloc (.cells #[.int .i64 CS, .int .i64 0, .int .i64 CB] 23)).below hb).alloc (.cells #[.int .i64 CS, .int .i64 0, .int .i64 CB] 23)
  have C4 := ((box_new w3 #[.int .i64 CS, .int .i64 0, .int .i64 CB] 23).below hb).alloc (.cells #[.int .i64 CS, .int .i64 0, .int .i64 CB] 23)
  have D4 := box_new w4 #[.int .i64 CS, .int .i64 0, .int .i64 CB] 23
  clear hb A3 B3 c0 c1 c2 cf cl
  go_wp2
  generalize w4.alloc (.cells #[.int .i64 CS, .int .i64 0, .int .i64 CB] 23) = w5 at *
  generalize w4.heap.size = g4 at *
  generalize w3.heap.size = g3 at *
  obtain ⟨c0, c1, c2, cf, cl⟩ := B4.three
  obtain ⟨d0, d1, d2, df, dl⟩ := C4.three
  obtain ⟨e0, e1, e2, ef, el⟩ := D4.three
  refine wp_region_calm (by kernel_rfl) (by kernel_rfl) ?_
  repeat (go_big_quiet_step ((first | ((go_at_call 10; exact calm_of _ (K5.out _))) | ((go_at_call 11; exact calm_of _ (K6.out _))) | ((go_at_call 12; exact calm_of _ (K7.out _))) | ((go_at_call 13; exact calm_of _ (K8.out _))) | ((go_at_call 14; exact calm_of _ (law25_awake _))))))
  refine wpQuiet_nil ?_
  intro _ hw'
  obtain ⟨u, rfl⟩ := hw'
  go_wp2
  all_goals go_ret
  all_goals exact ⟨rfl, u.up A4⟩

theorem lifted (os : Os) (started : os.Started) (H : Type) (enc : TypeId × Value → H) :
    ReturnsInHanded {} Try.checked os 3 .any (Rows.totalSaysSpec.pre6 enc Try.prog Try.f3 Rows.totalSaysRow.domain false) (Rows.totalSaysSpec.post enc Try.prog Try.f3 false true false false) := by
  refine law_lift started (by kernel_rfl) Try.func3 rfl rfl ?_ (by kernel_rfl)
    (ChangeSpec.witness6 (enc := enc) (C := Try.checked) false ⟨#[], #[.agg #[.int .i64 0, .int .i64 0, .int .i64 0], .int .i64 0], []⟩ 8 (by kernel_rfl) (by kernel_rfl) (by kernel_rfl) (by kernel_rfl)) ?_
  · intro ds hl
    match ds, hl with
    | [_, _], _ => exact ⟨rfl, rfl, rfl⟩
  · intro W base args ds p hval hA hlt hwt
    rw [Try.params3] at hA hval hwt
    obtain ⟨v0, vs0, d0, ds0, p0, q0, hargs, rfl, rfl, h0, r0⟩ := trodAll_cons hA
    obtain ⟨v1, vs1, d1, ds1, p1, q1, rfl, rfl, rfl, h1, r1⟩ := trodAll_cons r0
    obtain ⟨rfl, rfl, rfl⟩ := trodAll_nil r1
    obtain rfl : args = #[v0, v1] := by cases args; simp_all
    obtain ⟨cs0, rfl, l0, k0⟩ := open_leaves 5 [.int .i64, .int .i64, .int .i64] (by kernel_rfl) (by kernel_rfl) (hval 0 23 v0 rfl rfl) h0
    match cs0, l0, k0 with
    | [y0_0, y0_1, y0_2], _, k0 =>
    obtain ⟨x0_0, e0_0, w0_0⟩ : leafIs (.int .i64) y0_0 := k0 0 _ rfl
    subst e0_0
    obtain ⟨x0_1, e0_1, w0_1⟩ : leafIs (.int .i64) y0_1 := k0 1 _ rfl
    subst e0_1
    obtain ⟨x0_2, e0_2, w0_2⟩ : leafIs (.int .i64) y0_2 := k0 2 _ rfl
    subst e0_2
    obtain ⟨a1, rfl, rfl, rfl, w1⟩ := open_int Try.underlying3 (hval 1 3 v1 rfl rfl) h1
    exact walk x0_0 w0_0 x0_1 w0_1 x0_2 w0_2 a1 w1 W

theorem over : Rows.totalSaysRow.holds Try.pinned (OpenSpec.ofChange Rows.totalSaysSpec) :=
  OpenClaim.holds_of_wide 3 Try.f3 rfl rfl rfl rfl rfl rfl rfl ⟨rfl, rfl, rfl, rfl, rfl⟩ rfl rfl rfl rfl rfl (by kernel_rfl) Try.func3 (by kernel_rfl)
    (of_decide_eq_true (by kernel_rfl)) (by unfold Func.isWrapper; first | (rw [if_pos (by decide +kernel)]; kernel_rfl) | (rw [if_neg (by decide +kernel)]; exact ⟨rfl, rfl⟩))
    (fun os started H enc _ => lifted os started H enc)

theorem proved : Rows.TotalSaysSaid := over
#print axioms proved
end Go.Proofs.Ytmjflkljgljnjaa.totalSays
