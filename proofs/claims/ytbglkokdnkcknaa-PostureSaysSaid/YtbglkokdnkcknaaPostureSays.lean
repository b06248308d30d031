/- PostureSays holds of every posture, and any numbers: the next one, and what is told of it, are the document's. No condition. -/
import Derived.Test.YtbglkokdnkcknaaPost
import Derived.Test.YtbglkokdnkcknaaLeaf
namespace Go.Proofs.Ytbglkokdnkcknaa.postureSays
open Go.ChangeShapes Go.WideShapes Go.ChangeAt Go.RowKit
set_option linter.unusedVariables false
attribute [local go_sem] Near.cell Near.frozen

theorem walk (n : Int) (wn : (Lit.int .i64 n).wf = true) (v : Int) (wv : (Lit.int .i64 v).wf = true) (t : Int) (wt : (Lit.int .i64 t).wf = true) (b : Int) (wb : (Lit.int .i64 b).wf = true) (W : World) :
    Calls Try.prog 12 #[.agg #[.int .i64 n, .int .i64 v], .int .i64 t, .int .i64 b] W fun e W' => e = .returned (.bool true) ∧ Below W.heap.size W W' := by
  clear wn wv wt wb
  go_enter Try.func12, Try.ntmps12
  go_wp2
  refine wp_region_calm (by kernel_rfl) (by kernel_rfl) ?_
  repeat (go_big_quiet_step ((first | ((go_at_call 34; exact calm_of _ (po_step _ _ _ _ _))) | ((go_at_call 35; exact calm_of _ (rp_step _ _ _ _ _))) | ((go_at_call 36; exact calm_of _ (po_tilted _ _ _))) | ((go_at_call 38; exact calm_of _ (po_flat _ _ _))) | ((go_at_call 40; exact calm_same _ (po_low _ _))) | ((go_at_call 41; exact calm_same _ (rp_low _ _))) | ((go_at_call 37; exact calm_of _ (rp_tilted _ _ _))) | ((go_at_call 39; exact calm_of _ (rp_flat _ _ _)))  | ((go_at_call 42; exact calm_of _ (law33_awake _))))))
  refine wpQuiet_nil ?_
  intro _ hw'
  obtain ⟨u, rfl⟩ := hw'
  go_wp2
  all_goals go_ret
  all_goals exact ⟨rfl, by (repeat (first | (with_reducible exact Below.refl _ _) | (with_reducible assumption) | (with_reducible refine Near.up _ ?_) | (with_reducible refine below_alloc_on ?_ _) | (with_reducible refine below_set_on ?_ (by first | (simp; done) | (simp; omega) | omega) _)))⟩

theorem lifted (os : Os) (started : os.Started) (H : Type) (enc : TypeId × Value → H) :
    ReturnsInHanded {} Try.checked os 12 .any (Rows.postureSaysSpec.pre6 enc Try.prog Try.f12 Rows.postureSaysRow.domain false) (Rows.postureSaysSpec.post enc Try.prog Try.f12 false true false false) := by
  refine law_lift started (by kernel_rfl) Try.func12 rfl rfl ?_ (by kernel_rfl)
    (ChangeSpec.witness6 (enc := enc) (C := Try.checked) false ⟨#[], #[.agg #[.int .i64 0, .int .i64 0], .int .i64 0, .int .i64 0], []⟩ 8 (by kernel_rfl) (by kernel_rfl) (by kernel_rfl) (by kernel_rfl)) ?_
  · intro ds hl
    match ds, hl with
    | [_, _, _], _ => exact ⟨rfl, rfl, rfl⟩
  · intro W base args ds p hval hA hlt hwt
    rw [Try.params12] at hA hval hwt
    obtain ⟨v0, vs0, d0, ds0, p0, q0, hargs, rfl, rfl, h0, r0⟩ := trodAll_cons hA
    obtain ⟨v1, vs1, d1, ds1, p1, q1, rfl, rfl, rfl, h1, r1⟩ := trodAll_cons r0
    obtain ⟨v2, vs2, d2, ds2, p2, q2, rfl, rfl, rfl, h2, r2⟩ := trodAll_cons r1
    obtain ⟨rfl, rfl, rfl⟩ := trodAll_nil r2
    obtain rfl : args = #[v0, v1, v2] := by cases args; simp_all
    obtain ⟨cs0, rfl, l0, k0⟩ := open_leaves 5 [.int .i64, .int .i64] (by kernel_rfl) (by kernel_rfl) (hval 0 53 v0 rfl rfl) h0
    match cs0, l0, k0 with
    | [y0_0, y0_1], _, k0 =>
    obtain ⟨x0_0, e0_0, w0_0⟩ : leafIs (.int .i64) y0_0 := k0 0 _ rfl
    subst e0_0
    obtain ⟨x0_1, e0_1, w0_1⟩ : leafIs (.int .i64) y0_1 := k0 1 _ rfl
    subst e0_1
    obtain ⟨a1, rfl, rfl, rfl, w1⟩ := open_int Try.underlying3 (hval 1 3 v1 rfl rfl) h1
    obtain ⟨a2, rfl, rfl, rfl, w2⟩ := open_int Try.underlying3 (hval 2 3 v2 rfl rfl) h2
    exact walk x0_0 w0_0 x0_1 w0_1 a1 w1 a2 w2 W

theorem over : Rows.postureSaysRow.holds Try.pinned (OpenSpec.ofChange Rows.postureSaysSpec) :=
  OpenClaim.holds_of_wide 12 Try.f12 rfl rfl rfl rfl rfl rfl rfl ⟨rfl, rfl, rfl, rfl, rfl⟩ rfl rfl rfl rfl rfl (by kernel_rfl) Try.func12 (by kernel_rfl)
    (of_decide_eq_true (by kernel_rfl)) (by unfold Func.isWrapper; first | (rw [if_pos (by decide +kernel)]; kernel_rfl) | (rw [if_neg (by decide +kernel)]; exact ⟨rfl, rfl⟩))
    (fun os started H enc _ => lifted os started H enc)

theorem proved : Rows.PostureSaysSaid := over
#print axioms proved
end Go.Proofs.Ytbglkokdnkcknaa.postureSays
