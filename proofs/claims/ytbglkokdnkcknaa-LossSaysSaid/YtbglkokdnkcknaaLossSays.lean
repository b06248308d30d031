/- LossSays holds of every loss, whatever comes: the next one, and whether drops are missed, or the bag is empty, are the document's. No condition. -/
import Derived.Test.YtbglkokdnkcknaaLoss
import Derived.Test.YtbglkokdnkcknaaLeaf
namespace Go.Proofs.Ytbglkokdnkcknaa.lossSays
open Go.ChangeShapes Go.WideShapes Go.ChangeAt Go.RowKit
set_option linter.unusedVariables false
attribute [local go_sem] Near.cell Near.frozen

theorem walk (n : Int) (wn : (Lit.int .i64 n).wf = true) (v : Int) (wv : (Lit.int .i64 v).wf = true) (b0 b1 b2 : Bool) (t : Int) (wt : (Lit.int .i64 t).wf = true) (W : World) :
    Calls Try.prog 10 #[.agg #[.int .i64 n, .int .i64 v], .agg #[.bool b0, .bool b1, .bool b2], .int .i64 t] W fun e W' => e = .returned (.bool true) ∧ Below W.heap.size W W' := by
  clear wn wv wt
  go_enter Try.func10, Try.ntmps10
  go_wp2
  refine wp_region_calm (by kernel_rfl) (by kernel_rfl) ?_
  repeat (go_big_quiet_step ((first | ((go_at_call 27; exact calm_of _ (lo_step _ _ _ _ _ _))) | ((go_at_call 28; exact calm_of _ (rl_step _ _ _ _ _ _))) | ((go_at_call 29; exact calm_of _ (lo_lost _ _ _ _))) | ((go_at_call 31; exact calm_of _ (lo_empty _ _ _))) | ((go_at_call 30; exact calm_of _ (rl_lost _ _ _ _))) | ((go_at_call 32; exact calm_of _ (rl_empty _ _ _)))  | ((go_at_call 33; exact calm_of _ (law32_awake _))))))
  refine wpQuiet_nil ?_
  intro _ hw'
  obtain ⟨u, rfl⟩ := hw'
  go_wp2
  all_goals go_ret
  all_goals exact ⟨rfl, by (repeat (first | (with_reducible exact Below.refl _ _) | (with_reducible assumption) | (with_reducible refine Near.up _ ?_) | (with_reducible refine below_alloc_on ?_ _) | (with_reducible refine below_set_on ?_ (by first | (simp; done) | (simp; omega) | omega) _)))⟩

theorem lifted (os : Os) (started : os.Started) (H : Type) (enc : TypeId × Value → H) :
    ReturnsInHanded {} Try.checked os 10 .any (Rows.lossSaysSpec.pre6 enc Try.prog Try.f10 Rows.lossSaysRow.domain false) (Rows.lossSaysSpec.post enc Try.prog Try.f10 false true false false) := by
  refine law_lift started (by kernel_rfl) Try.func10 rfl rfl ?_ (by kernel_rfl)
    (ChangeSpec.witness6 (enc := enc) (C := Try.checked) false ⟨#[], #[.agg #[.int .i64 0, .int .i64 0], .agg #[.bool false, .bool false, .bool false], .int .i64 0], []⟩ 8 (by kernel_rfl) (by kernel_rfl) (by kernel_rfl) (by kernel_rfl)) ?_
  · intro ds hl
    match ds, hl with
    | [_, _, _], _ => exact ⟨rfl, rfl, rfl⟩
  · intro W base args ds p hval hA hlt hwt
    rw [Try.params10] at hA hval hwt
    obtain ⟨v0, vs0, d0, ds0, p0, q0, hargs, rfl, rfl, h0, r0⟩ := trodAll_cons hA
    obtain ⟨v1, vs1, d1, ds1, p1, q1, rfl, rfl, rfl, h1, r1⟩ := trodAll_cons r0
    obtain ⟨v2, vs2, d2, ds2, p2, q2, rfl, rfl, rfl, h2, r2⟩ := trodAll_cons r1
    obtain ⟨rfl, rfl, rfl⟩ := trodAll_nil r2
    obtain rfl : args = #[v0, v1, v2] := by cases args; simp_all
    obtain ⟨cs0, rfl, l0, k0⟩ := open_leaves 5 [.int .i64, .int .i64] (by kernel_rfl) (by kernel_rfl) (hval 0 44 v0 rfl rfl) h0
    match cs0, l0, k0 with
    | [y0_0, y0_1], _, k0 =>
    obtain ⟨x0_0, e0_0, w0_0⟩ : leafIs (.int .i64) y0_0 := k0 0 _ rfl
    subst e0_0
    obtain ⟨x0_1, e0_1, w0_1⟩ : leafIs (.int .i64) y0_1 := k0 1 _ rfl
    subst e0_1
    obtain ⟨cs1, rfl, l1, k1⟩ := open_leaves 5 [.bool, .bool, .bool] (by kernel_rfl) (by kernel_rfl) (hval 1 45 v1 rfl rfl) h1
    match cs1, l1, k1 with
    | [y1_0, y1_1, y1_2], _, k1 =>
    obtain ⟨x1_0, e1_0⟩ : leafIs (.bool) y1_0 := k1 0 _ rfl
    subst e1_0
    obtain ⟨x1_1, e1_1⟩ : leafIs (.bool) y1_1 := k1 1 _ rfl
    subst e1_1
    obtain ⟨x1_2, e1_2⟩ : leafIs (.bool) y1_2 := k1 2 _ rfl
    subst e1_2
    obtain ⟨a2, rfl, rfl, rfl, w2⟩ := open_int Try.underlying3 (hval 2 3 v2 rfl rfl) h2
    exact walk x0_0 w0_0 x0_1 w0_1 x1_0 x1_1 x1_2 a2 w2 W

theorem over : Rows.lossSaysRow.holds Try.pinned (OpenSpec.ofChange Rows.lossSaysSpec) :=
  OpenClaim.holds_of_wide 10 Try.f10 rfl rfl rfl rfl rfl rfl rfl ⟨rfl, rfl, rfl, rfl, rfl⟩ rfl rfl rfl rfl rfl (by kernel_rfl) Try.func10 (by kernel_rfl)
    (of_decide_eq_true (by kernel_rfl)) (by unfold Func.isWrapper; first | (rw [if_pos (by decide +kernel)]; kernel_rfl) | (rw [if_neg (by decide +kernel)]; exact ⟨rfl, rfl⟩))
    (fun os started H enc _ => lifted os started H enc)

theorem proved : Rows.LossSaysSaid := over
#print axioms proved
end Go.Proofs.Ytbglkokdnkcknaa.lossSays
