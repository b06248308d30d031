/- DriftSays holds of every drift, and any numbers: the next one, and whether it is too fast, or too slow, are the document's. No condition. -/
import Derived.Test.YtbglkokdnkcknaaDrift
import Derived.Test.YtbglkokdnkcknaaLeaf
import Derived.Test.YtbglkokdnkcknaaArr
namespace Go.Proofs.Ytbglkokdnkcknaa.driftSays
open Go.ChangeShapes Go.WideShapes Go.ChangeAt Go.RowKit
set_option linter.unusedVariables false
attribute [local go_sem] Near.cell Near.frozen

theorem walk (o : Int) (wo : (Lit.int .i64 o).wf = true) (v : Int) (wv : (Lit.int .i64 v).wf = true) (g : Int) (wg : (Lit.int .i64 g).wf = true) (s : Int) (ws : (Lit.int .i64 s).wf = true) (k : Bool) (W : World) :
    Calls Try.prog 8 #[.agg #[.int .i64 o, .int .i64 v], .agg #[.int .i64 g, .int .i64 s], .bool k] W fun e W' => e = .returned (.bool true) ∧ Below W.heap.size W W' := by
  clear wo wv wg ws
  go_enter Try.func8, Try.ntmps8
  go_wp2
  go_outline
  refine wp_region_calm (by kernel_rfl) (by kernel_rfl) ?_
  repeat (go_big_quiet_step ((first | ((go_at_call 20; exact calm_of _ (dr_step _ _ _ _ _ _))) | ((go_at_call 21; exact calm_of _ (rd_step _ _ _ _ _ _))) | ((go_at_call 22; exact calm_of _ (dr_fast _ _ _))) | ((go_at_call 24; exact calm_of _ (dr_slow _ _ _))) | ((go_at_call 23; exact calm_of _ (rd_fast _ _ _))) | ((go_at_call 25; exact calm_of _ (rd_slow _ _ _)))  | ((go_at_call 26; exact calm_of _ (law31_awake _))))))
  refine wpQuiet_nil ?_
  intro _ hw'
  obtain ⟨u, rfl⟩ := hw'
  go_wp2
  all_goals go_ret
  all_goals exact ⟨rfl, by (repeat (first | (with_reducible exact Below.refl _ _) | (with_reducible assumption) | (with_reducible refine Near.up _ ?_) | (with_reducible refine below_alloc_on ?_ _) | (with_reducible refine below_set_on ?_ (by first | (simp; done) | (simp; omega) | omega) _)))⟩

theorem lifted (os : Os) (started : os.Started) (H : Type) (enc : TypeId × Value → H) :
    ReturnsInHanded {} Try.checked os 8 .any (Rows.driftSaysSpec.pre6 enc Try.prog Try.f8 Rows.driftSaysRow.domain false) (Rows.driftSaysSpec.post enc Try.prog Try.f8 false true false false) := by
  refine law_lift started (by kernel_rfl) Try.func8 rfl rfl ?_ (by kernel_rfl)
    (ChangeSpec.witness6 (enc := enc) (C := Try.checked) false ⟨#[], #[.agg #[.int .i64 0, .int .i64 0], .agg #[.int .i64 0, .int .i64 0], .bool false], []⟩ 8 (by kernel_rfl) (by kernel_rfl) (by kernel_rfl) (by kernel_rfl)) ?_
  · intro ds hl
    match ds, hl with
    | [_, _, _], _ => exact ⟨rfl, rfl, rfl⟩
  · intro W base args ds p hval hA hlt hwt
    rw [Try.params8] at hA hval hwt
    obtain ⟨v0, vs0, d0, ds0, p0, q0, hargs, rfl, rfl, h0, r0⟩ := trodAll_cons hA
    obtain ⟨v1, vs1, d1, ds1, p1, q1, rfl, rfl, rfl, h1, r1⟩ := trodAll_cons r0
    obtain ⟨v2, vs2, d2, ds2, p2, q2, rfl, rfl, rfl, h2, r2⟩ := trodAll_cons r1
    obtain ⟨rfl, rfl, rfl⟩ := trodAll_nil r2
    obtain rfl : args = #[v0, v1, v2] := by cases args; simp_all
    obtain ⟨cs0, rfl, l0, k0⟩ := open_leaves 5 [.int .i64, .int .i64] (by kernel_rfl) (by kernel_rfl) (hval 0 36 v0 rfl rfl) h0
    match cs0, l0, k0 with
    | [y0_0, y0_1], _, k0 =>
    obtain ⟨x0_0, e0_0, w0_0⟩ : leafIs (.int .i64) y0_0 := k0 0 _ rfl
    subst e0_0
    obtain ⟨x0_1, e0_1, w0_1⟩ : leafIs (.int .i64) y0_1 := k0 1 _ rfl
    subst e0_1
    obtain ⟨xs1, rfl, l1, w1⟩ := open_int_cells Try.underlying22 Try.underlying3 (by kernel_rfl) (by kernel_rfl) (hval 1 22 v1 rfl rfl) h1
    match xs1, l1, w1 with
    | [x1_0, x1_1], _, w1 =>
    obtain ⟨a2, rfl, rfl, rfl⟩ := open_bool Try.underlying4 (hval 2 4 v2 rfl rfl) h2
    exact walk x0_0 w0_0 x0_1 w0_1 x1_0 (w1 _ (by simp)) x1_1 (w1 _ (by simp)) a2 W

theorem over : Rows.driftSaysRow.holds Try.pinned (OpenSpec.ofChange Rows.driftSaysSpec) :=
  OpenClaim.holds_of_wide 8 Try.f8 rfl rfl rfl rfl rfl rfl rfl ⟨rfl, rfl, rfl, rfl, rfl⟩ rfl rfl rfl rfl rfl (by kernel_rfl) Try.func8 (by kernel_rfl)
    (of_decide_eq_true (by kernel_rfl)) (by unfold Func.isWrapper; first | (rw [if_pos (by decide +kernel)]; kernel_rfl) | (rw [if_neg (by decide +kernel)]; exact ⟨rfl, rfl⟩))
    (fun os started H enc _ => lifted os started H enc)

theorem proved : Rows.DriftSaysSaid := over
#print axioms proved
end Go.Proofs.Ytbglkokdnkcknaa.driftSays
