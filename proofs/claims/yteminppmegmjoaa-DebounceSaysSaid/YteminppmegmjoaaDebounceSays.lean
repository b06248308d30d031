/- DebounceSays holds of every steady truth, whatever is told: the next one is the document's. No condition. -/
import Derived.Test.YteminppmegmjoaaDeb
import Derived.Test.YteminppmegmjoaaLeaf
namespace Go.Proofs.Yteminppmegmjoaa.debounceSays
open Go.ChangeShapes Go.WideShapes Go.ChangeAt Go.RowKit
set_option linter.unusedVariables false
attribute [local go_sem] Near.cell Near.frozen

theorem walk (o : Bool) (r : Int) (wr : (Lit.int .i64 r).wf = true) (x : Bool) (W : World) :
    Calls Try.prog 3 #[.agg #[.bool o, .int .i64 r], .bool x] W fun e W' => e = .returned (.bool true) ∧ Below W.heap.size W W' := by
  clear wr
  go_enter Try.func3, Try.ntmps3
  go_wp2
  refine wp_region_calm (by kernel_rfl) (by kernel_rfl) ?_
  repeat (go_big_quiet_step ((first | ((go_at_call 6; exact calm_of _ (db_step _ _ _ _))) | ((go_at_call 7; exact calm_of _ (rd_step _ _ _ _))) | ((go_at_call 8; exact calm_of _ (law18_awake _))))))
  refine wpQuiet_nil ?_
  intro _ hw'
  obtain ⟨u, rfl⟩ := hw'
  go_wp2
  all_goals go_ret
  all_goals exact ⟨rfl, by (repeat (first | (with_reducible exact Below.refl _ _) | (with_reducible assumption) | (with_reducible refine Near.up _ ?_) | (with_reducible refine below_alloc_on ?_ _) | (with_reducible refine below_set_on ?_ (by first | (simp; done) | (simp; omega) | omega) _)))⟩

theorem lifted (os : Os) (started : os.Started) (H : Type) (enc : TypeId × Value → H) :
    ReturnsInHanded {} Try.checked os 3 .any (Rows.debounceSaysSpec.pre6 enc Try.prog Try.f3 Rows.debounceSaysRow.domain false) (Rows.debounceSaysSpec.post enc Try.prog Try.f3 false true false false) := by
  refine law_lift started (by kernel_rfl) Try.func3 rfl rfl ?_ (by kernel_rfl)
    (ChangeSpec.witness6 (enc := enc) (C := Try.checked) false ⟨#[], #[.agg #[.bool false, .int .i64 0], .bool false], []⟩ 8 (by kernel_rfl) (by kernel_rfl) (by kernel_rfl) (by kernel_rfl)) ?_
  · intro ds hl
    match ds, hl with
    | [_, _], _ => exact ⟨rfl, rfl, rfl⟩
  · intro W base args ds p hval hA hlt hwt
    rw [Try.params3] at hA hval hwt
    obtain ⟨v0, vs0, d0, ds0, p0, q0, hargs, rfl, rfl, h0, r0⟩ := trodAll_cons hA
    obtain ⟨v1, vs1, d1, ds1, p1, q1, rfl, rfl, rfl, h1, r1⟩ := trodAll_cons r0
    obtain ⟨rfl, rfl, rfl⟩ := trodAll_nil r1
    obtain rfl : args = #[v0, v1] := by cases args; simp_all
    obtain ⟨cs0, rfl, l0, k0⟩ := open_leaves 5 [.bool, .int .i64] (by kernel_rfl) (by kernel_rfl) (hval 0 23 v0 rfl rfl) h0
    match cs0, l0, k0 with
    | [y0_0, y0_1], _, k0 =>
    obtain ⟨x0_0, e0_0⟩ : leafIs (.bool) y0_0 := k0 0 _ rfl
    subst e0_0
    obtain ⟨x0_1, e0_1, w0_1⟩ : leafIs (.int .i64) y0_1 := k0 1 _ rfl
    subst e0_1
    obtain ⟨a1, rfl, rfl, rfl⟩ := open_bool Try.underlying4 (hval 1 4 v1 rfl rfl) h1
    exact walk x0_0 x0_1 w0_1 a1 W

theorem over : Rows.debounceSaysRow.holds Try.pinned (OpenSpec.ofChange Rows.debounceSaysSpec) :=
  OpenClaim.holds_of_wide 3 Try.f3 rfl rfl rfl rfl rfl rfl rfl ⟨rfl, rfl, rfl, rfl, rfl⟩ rfl rfl rfl rfl rfl (by kernel_rfl) Try.func3 (by kernel_rfl)
    (of_decide_eq_true (by kernel_rfl)) (by unfold Func.isWrapper; first | (rw [if_pos (by decide +kernel)]; kernel_rfl) | (rw [if_neg (by decide +kernel)]; exact ⟨rfl, rfl⟩))
    (fun os started H enc _ => lifted os started H enc)

theorem proved : Rows.DebounceSaysSaid := over
#print axioms proved
end Go.Proofs.Yteminppmegmjoaa.debounceSays
