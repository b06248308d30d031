/- AmbientSays holds of every base, every light, shaded or not: the base and the level are the document's. No condition. -/
import Derived.Test.YtpgelcpnjggakaaAmb
namespace Go.Proofs.Ytpgelcpnjggakaa.ambientSays
open Go.ChangeShapes Go.WideShapes Go.ChangeAt Go.RowKit
set_option linter.unusedVariables false

theorem walk (a : Int) (wa : (Lit.int .i64 a).wf = true) (b : Int) (wb : (Lit.int .i64 b).wf = true) (p : Bool) (W : World) :
    Calls Try.prog 3 #[.int .i64 a, .int .i64 b, .bool p] W fun e W' => e = .returned (.bool true) ∧ Below W.heap.size W W' := by
  have hb := At.refl W
  cases p
  · go_enter Try.func3, Try.ntmps3
    go_wp2_with (first
    | (go_at_call 6; refine (am_start _ _).mono ?_; rintro e w' ⟨rfl, rfl⟩)
    | (go_at_call 10; refine (am_level _ _).mono ?_; rintro e w' ⟨rfl, rfl⟩)
    | (go_at_call 8; ((with_reducible refine (am_step_no _ _ _ _ (by assumption)).mono ?_); rintro e w' ⟨rfl, hb⟩))
    | (go_at_call 7; refine (ra_start _ _).mono ?_; rintro e w' ⟨rfl, rfl⟩)
    | (go_at_call 11; refine (ra_level _ _).mono ?_; rintro e w' ⟨rfl, rfl⟩)
    | (go_at_call 9; ((with_reducible refine (ra_step_no _ _ _).mono ?_); rintro e w' ⟨rfl, rfl⟩))
    | (go_at_call 12; refine (law16_awake _ _ (by assumption)).mono ?_; rintro e w' ⟨rfl, hb⟩))
    all_goals go_ret
    all_goals exact ⟨rfl, by assumption⟩
  · go_enter Try.func3, Try.ntmps3
    go_wp2_with (first
    | (go_at_call 6; refine (am_start _ _).mono ?_; rintro e w' ⟨rfl, rfl⟩)
    | (go_at_call 10; refine (am_level _ _).mono ?_; rintro e w' ⟨rfl, rfl⟩)
    | (go_at_call 8; ((with_reducible refine (am_step_sh _ _ _ _ (by assumption)).mono ?_); rintro e w' ⟨rfl, hb⟩))
    | (go_at_call 7; refine (ra_start _ _).mono ?_; rintro e w' ⟨rfl, rfl⟩)
    | (go_at_call 11; refine (ra_level _ _).mono ?_; rintro e w' ⟨rfl, rfl⟩)
    | (go_at_call 9; ((with_reducible refine (ra_step_sh _ _ _).mono ?_); rintro e w' ⟨rfl, rfl⟩))
    | (go_at_call 12; refine (law16_awake _ _ (by assumption)).mono ?_; rintro e w' ⟨rfl, hb⟩))
    all_goals go_ret
    all_goals exact ⟨rfl, by assumption⟩

theorem lifted (os : Os) (started : os.Started) (H : Type) (enc : TypeId × Value → H) :
    ReturnsInHanded {} Try.checked os 3 .any (Rows.ambientSaysSpec.pre6 enc Try.prog Try.f3 Rows.ambientSaysRow.domain false) (Rows.ambientSaysSpec.post enc Try.prog Try.f3 false true false false) := by
  refine law_lift started (by kernel_rfl) Try.func3 rfl rfl ?_ (by kernel_rfl)
    (ChangeSpec.witness6 (enc := enc) (C := Try.checked) false ⟨#[], #[.int .i64 0, .int .i64 0, .bool false], []⟩ 8 (by kernel_rfl) (by kernel_rfl) (by kernel_rfl) (by kernel_rfl)) ?_
  · intro ds hl
    match ds, hl with
    | [_, _, _], _ => exact ⟨rfl, rfl, rfl⟩
  · intro W base args ds p hval hA hlt hwt
    rw [Try.params3] at hA hval hwt
    obtain ⟨v0, vs0, d0, ds0, p0, q0, hargs, rfl, rfl, h0, r0⟩ := trodAll_cons hA
    obtain ⟨v1, vs1, d1, ds1, p1, q1, rfl, rfl, rfl, h1, r1⟩ := trodAll_cons r0
    obtain ⟨v2, vs2, d2, ds2, p2, q2, rfl, rfl, rfl, h2, r2⟩ := trodAll_cons r1
    obtain ⟨rfl, rfl, rfl⟩ := trodAll_nil r2
    obtain rfl : args = #[v0, v1, v2] := by cases args; simp_all
    obtain ⟨a0, rfl, rfl, rfl, w0⟩ := open_int Try.underlying3 (hval 0 3 v0 rfl rfl) h0
    obtain ⟨a1, rfl, rfl, rfl, w1⟩ := open_int Try.underlying3 (hval 1 3 v1 rfl rfl) h1
    obtain ⟨a2, rfl, rfl, rfl⟩ := open_bool Try.underlying4 (hval 2 4 v2 rfl rfl) h2
    exact walk a0 w0 a1 w1 a2 W

theorem over : Rows.ambientSaysRow.holds Try.pinned (OpenSpec.ofChange Rows.ambientSaysSpec) :=
  OpenClaim.holds_of_wide 3 Try.f3 rfl rfl rfl rfl rfl rfl rfl ⟨rfl, rfl, rfl, rfl, rfl⟩ rfl rfl rfl rfl rfl (by kernel_rfl) Try.func3 (by kernel_rfl)
    (of_decide_eq_true (by kernel_rfl)) (by unfold Func.isWrapper; first | (rw [if_pos (by decide +kernel)]; kernel_rfl) | (rw [if_neg (by decide +kernel)]; exact ⟨rfl, rfl⟩))
    (fun os started H enc _ => lifted os started H enc)

theorem proved : Rows.AmbientSaysSaid := over
#print axioms proved
end Go.Proofs.Ytpgelcpnjggakaa.ambientSays
