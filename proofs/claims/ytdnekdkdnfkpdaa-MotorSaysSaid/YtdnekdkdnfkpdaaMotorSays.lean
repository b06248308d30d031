/- MotorSays holds of every motor, and every place: the next one, whether it is closed, and how long that takes, are the document's. No condition. -/
import Derived.Test.YtdnekdkdnfkpdaaLaw12
import Derived.Test.YtdnekdkdnfkpdaaRefStep
import Derived.Test.YtdnekdkdnfkpdaaLeaf
namespace Go.Proofs.Ytdnekdkdnfkpdaa.motorSays
open Go.ChangeShapes Go.WideShapes Go.ChangeAt Go.RowKit
set_option linter.unusedVariables false
attribute [local go_sem] Near.cell Near.frozen

theorem walk (p : Int) (wp : (Lit.int .i64 p).wf = true) (k : Int) (wk : (Lit.int .i64 k).wf = true) (v : Int) (wv : (Lit.int .i64 v).wf = true) (W : World) :
    Calls Try.prog 3 #[.agg #[.int .i64 p, .int .i64 k], .int .i64 v] W fun e W' => e = .returned (.bool true) ∧ Below W.heap.size W W' := by
  clear wp wk wv
  go_enter Try.func3, Try.ntmps3
  go_wp2
  refine wp_region_calm (by kernel_rfl) (by kernel_rfl) ?_
  repeat (go_big_quiet_step ((first | ((go_at_call 7; exact calm_of _ (mo_start _))) | ((go_at_call 8; exact calm_of _ (rm_start _))) | ((go_at_call 9; exact calm_of _ (mo_step _ _ _ _))) | ((go_at_call 10; exact calm_of _ (rm_step _ _ _ _))) | ((go_at_call 11; exact calm_of _ (mo_closed _ _ _))) | ((go_at_call 12; exact calm_of _ (rm_closed _ _ _))) | ((go_at_call 13; exact calm_of _ (mo_left _ _ _))) | ((go_at_call 14; exact calm_of _ (rm_left _ _ _))) | ((go_at_call 15; exact calm_of _ (law12_awake _))))))
  refine wpQuiet_nil ?_
  intro _ hw'
  obtain ⟨u, rfl⟩ := hw'
  go_wp2
  all_goals go_ret
  all_goals exact ⟨rfl, by (repeat (first | (with_reducible exact Below.refl _ _) | (with_reducible assumption) | (with_reducible refine Near.up _ ?_) | (with_reducible refine below_alloc_on ?_ _) | (with_reducible refine below_set_on ?_ (by first | (simp; done) | (simp; omega) | omega) _)))⟩

theorem lifted (os : Os) (started : os.Started) (H : Type) (enc : TypeId × Value → H) :
    ReturnsInHanded {} Try.checked os 3 .any (Rows.motorSaysSpec.pre6 enc Try.prog Try.f3 Rows.motorSaysRow.domain false) (Rows.motorSaysSpec.post enc Try.prog Try.f3 false true false false) := by
  refine law_lift started (by kernel_rfl) Try.func3 rfl rfl ?_ (by kernel_rfl)
    (ChangeSpec.witness6 (enc := enc) (C := Try.checked) false ⟨#[], #[.agg #[.int .i64 0, .int .i64 0], .int .i64 0], []⟩ 8 (by kernel_rfl) (by kernel_rfl) (by kernel_rfl) (by kernel_rfl)) ?_
  · intro ds hl
    match ds, hl with
    | [_, _], _ => exact ⟨rfl, rfl, rfl⟩
  · intro W base args ds p hval hA hlt hwt
    rw [Try.params3] at hA hval hwt
    obtain ⟨v0, vs0, d0, ds0, p0, q0, hargs, rfl, rfl, h0, r0⟩ := trodAll_cons hA
    obtain ⟨v1, vs1, d1, ds1, p1, q1, rfl, rfl, rfl, h1, r1⟩ := trodAll_cons r0
    obtain ⟨rfl, rfl, rfl⟩ := trodAll_nil r1
    obtain rfl : args = #[v0, v1] := by cases args; simp_all
    obtain ⟨cs0, rfl, l0, k0⟩ := open_leaves 5 [.int .i64, .int .i64] (by kernel_rfl) (by kernel_rfl) (hval 0 23 v0 rfl rfl) h0
    match cs0, l0, k0 with
    | [y0_0, y0_1], _, k0 =>
    obtain ⟨x0_0, e0_0, w0_0⟩ : leafIs (.int .i64) y0_0 := k0 0 _ rfl
    subst e0_0
    obtain ⟨x0_1, e0_1, w0_1⟩ : leafIs (.int .i64) y0_1 := k0 1 _ rfl
    subst e0_1
    obtain ⟨a1, rfl, rfl, rfl, w1⟩ := open_int Try.underlying3 (hval 1 3 v1 rfl rfl) h1
    exact walk x0_0 w0_0 x0_1 w0_1 a1 w1 W

theorem over : Rows.motorSaysRow.holds Try.pinned (OpenSpec.ofChange Rows.motorSaysSpec) :=
  OpenClaim.holds_of_wide 3 Try.f3 rfl rfl rfl rfl rfl rfl rfl ⟨rfl, rfl, rfl, rfl, rfl⟩ rfl rfl rfl rfl rfl (by kernel_rfl) Try.func3 (by kernel_rfl)
    (of_decide_eq_true (by kernel_rfl)) (by unfold Func.isWrapper; first | (rw [if_pos (by decide +kernel)]; kernel_rfl) | (rw [if_neg (by decide +kernel)]; exact ⟨rfl, rfl⟩))
    (fun os started H enc _ => lifted os started H enc)

theorem proved : Rows.MotorSaysSaid := over
#print axioms proved
end Go.Proofs.Ytdnekdkdnfkpdaa.motorSays
