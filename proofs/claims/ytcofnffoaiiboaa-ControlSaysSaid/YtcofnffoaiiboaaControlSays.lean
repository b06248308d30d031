/- ControlSays holds of every control, whatever is wanted and seen: the next one is the document's. No condition. -/
import Derived.Test.YtcofnffoaiiboaaCtl
import Derived.Test.YtcofnffoaiiboaaLeaf
namespace Go.Proofs.Ytcofnffoaiiboaa.controlSays
open Go.ChangeShapes Go.WideShapes Go.ChangeAt Go.RowKit
set_option linter.unusedVariables false
set_option linter.unusedSimpArgs false
attribute [local go_sem] cell_set_ite Near.cell Near.frozen

set_option maxHeartbeats 2000000 in
theorem walk (s : Int) (ws : (Lit.int .i64 s).wf = true) (g : Int) (wg : (Lit.int .i64 g).wf = true) (o : Int) (wo : (Lit.int .i64 o).wf = true) (n0 : Int) (wn0 : (Lit.int .i64 n0).wf = true) (n1 : Int) (wn1 : (Lit.int .i64 n1).wf = true) (b0 b1 : Bool) (W : World) :
    Calls Try.prog 3 #[.agg #[.int .i64 s, .int .i64 g, .int .i64 o], .agg #[.int .i64 n0, .int .i64 n1], .agg #[.bool b0, .bool b1]] W fun e W' => e = .returned (.bool true) ∧ Below W.heap.size W W' := by
  clear ws wg wo wn0 wn1
  have A : Below W.heap.size W W := Below.refl _ _
  go_enter Try.func3, Try.ntmps3
  go_wp2
  refine wp_region_calm (by kernel_rfl) (by kernel_rfl) ?_
  repeat (go_big_quiet_step ((first | ((go_at_call 12; exact calm_of _ (ct_begin _ _))) | ((go_at_call 13; exact calm_of _ (rc_begin _ _))) | ((go_at_call 14; exact calm_of _ (ct_step _ _ _ _ _ _ _ _))) | ((go_at_call 15; exact calm_of _ (rc_step _ _ _ _ _ _ _ _))) | ((go_at_call 16; exact calm_of _ (law30_awake _))))))
  refine wpQuiet_nil ?_
  intro _ hw'
  obtain ⟨u, rfl⟩ := hw'
  go_wp2
  all_goals go_ret
  all_goals exact ⟨rfl, by (repeat (first | (with_reducible exact Below.refl _ _) | (with_reducible assumption) | (with_reducible refine Near.up _ ?_) | (with_reducible refine Below.drew ?_) | (with_reducible refine below_alloc_on ?_ _) | (with_reducible refine below_set_on ?_ (by first | (simp; done) | (simp; omega) | omega) _)))⟩

set_option maxRecDepth 100000 in
theorem lifted (os : Os) (started : os.Started) (H : Type) (enc : TypeId × Value → H) :
    ReturnsInHanded {} Try.checked os 3 .any (Rows.controlSaysSpec.pre6 enc Try.prog Try.f3 Rows.controlSaysRow.domain false) (Rows.controlSaysSpec.post enc Try.prog Try.f3 false true false false) := by
  refine law_lift started (by kernel_rfl) Try.func3 rfl rfl ?_ (by kernel_rfl)
    (ChangeSpec.witness6 (enc := enc) (C := Try.checked) false ⟨#[], #[.agg #[.int .i64 0, .int .i64 0, .int .i64 0], .agg #[.int .i64 0, .int .i64 0], .agg #[.bool false, .bool false]], []⟩ 8 (by kernel_rfl) (by kernel_rfl) (by kernel_rfl) (by kernel_rfl)) ?_
  · intro ds hl
    match ds, hl with
    | [_, _, _], _ => exact ⟨rfl, rfl, rfl⟩
  · intro W base args ds p hval hA hlt hwt
    rw [Try.params3] at hA hval hwt
    obtain ⟨v0, vs0, d0, ds0, p0, q0, hargs, rfl, rfl, h0, r0⟩ := trodAll_cons hA
    obtain ⟨v1, vs1, d1, ds1, p1, q1, rfl, rfl, rfl, h1, r1⟩ := trodAll_cons r0
    obtain ⟨v2, vs2, d2, ds2, p2, q2, rfl, rfl, rfl, h2, r2⟩ := trodAll_cons r1
    obtain ⟨rfl, rfl, rfl⟩ := trodAll_nil r2
    obtain rfl : args = #[v0, v1, v2] := by cases args; simp_all
    obtain ⟨cs0, rfl, l0, k0⟩ := open_leaves 5 [.int .i64, .int .i64, .int .i64] (by kernel_rfl) (by kernel_rfl) (hval 0 25 v0 rfl rfl) h0
    match cs0, l0, k0 with
    | [y0_0, y0_1, y0_2], _, k0 =>
    obtain ⟨x0_0, e0_0, w0_0⟩ : leafIs (.int .i64) y0_0 := k0 0 _ rfl
    subst e0_0
    obtain ⟨x0_1, e0_1, w0_1⟩ : leafIs (.int .i64) y0_1 := k0 1 _ rfl
    subst e0_1
    obtain ⟨x0_2, e0_2, w0_2⟩ : leafIs (.int .i64) y0_2 := k0 2 _ rfl
    subst e0_2
    obtain ⟨cs1, rfl, l1, k1⟩ := open_leaves 5 [.int .i64, .int .i64] (by kernel_rfl) (by kernel_rfl) (hval 1 26 v1 rfl rfl) h1
    match cs1, l1, k1 with
    | [y1_0, y1_1], _, k1 =>
    obtain ⟨x1_0, e1_0, w1_0⟩ : leafIs (.int .i64) y1_0 := k1 0 _ rfl
    subst e1_0
    obtain ⟨x1_1, e1_1, w1_1⟩ : leafIs (.int .i64) y1_1 := k1 1 _ rfl
    subst e1_1
    obtain ⟨cs2, rfl, l2, k2⟩ := open_leaves 5 [.bool, .bool] (by kernel_rfl) (by kernel_rfl) (hval 2 27 v2 rfl rfl) h2
    match cs2, l2, k2 with
    | [y2_0, y2_1], _, k2 =>
    obtain ⟨x2_0, e2_0⟩ : leafIs (.bool) y2_0 := k2 0 _ rfl
    subst e2_0
    obtain ⟨x2_1, e2_1⟩ : leafIs (.bool) y2_1 := k2 1 _ rfl
    subst e2_1
    exact walk x0_0 w0_0 x0_1 w0_1 x0_2 w0_2 x1_0 w1_0 x1_1 w1_1 x2_0 x2_1 W

theorem over : Rows.controlSaysRow.holds Try.pinned (OpenSpec.ofChange Rows.controlSaysSpec) :=
  OpenClaim.holds_of_wide 3 Try.f3 rfl rfl rfl rfl rfl rfl rfl ⟨rfl, rfl, rfl, rfl, rfl⟩ rfl rfl rfl rfl rfl (by kernel_rfl) Try.func3 (by kernel_rfl)
    (of_decide_eq_true (by kernel_rfl)) (by unfold Func.isWrapper; first | (rw [if_pos (by decide +kernel)]; kernel_rfl) | (rw [if_neg (by decide +kernel)]; exact ⟨rfl, rfl⟩))
    (fun os started H enc _ => lifted os started H enc)

theorem proved : Rows.ControlSaysSaid := over
#print axioms proved
end Go.Proofs.Ytcofnffoaiiboaa.controlSays
