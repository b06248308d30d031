/- AlarmSays holds of every alarm, whatever comes: the next one, what is shown, and the buzzer's class, are the document's. No condition. -/
import Derived.Test.YthfipnccjnekfaaAlarm
import Derived.Test.YthfipnccjnekfaaLeaf
namespace Go.Proofs.Ythfipnccjnekfaa.alarmSays
open Go.ChangeShapes Go.WideShapes Go.ChangeAt Go.RowKit
set_option linter.unusedVariables false
attribute [local go_sem] cell_set_ite Near.cell Near.frozen

set_option maxHeartbeats 2000000 in
theorem walk (a : Int) (wa : (Lit.int .i64 a).wf = true) (b : Int) (wb : (Lit.int .i64 b).wf = true) (n : Int) (wn : (Lit.int .i64 n).wf = true) (f s : Bool) (W : World) :
    Calls Try.prog 9 #[.agg #[.int .i64 a, .int .i64 b], .int .i64 n, .agg #[.bool f, .bool s]] W fun e W' => e = .returned (.bool true) ∧ Below W.heap.size W W' := by
  clear wa wb wn
  have A : Below W.heap.size W W := Below.refl _ _
  go_enter Try.func9, Try.ntmps9
  go_wp2_with (fail)
  refine (al_step _ _ _ _ _ _).mono ?_
  rintro e w1 ⟨rfl, hb⟩
  replace A : Below W.heap.size W w1 := by (refine below_call ?_ hb; (repeat (first | (with_reducible exact Below.refl _ _) | (with_reducible assumption) | (with_reducible refine Near.up _ ?_) | (with_reducible refine Below.drew ?_) | (with_reducible refine below_alloc_on ?_ _) | (with_reducible refine below_set_on ?_ (by first | (simp; done) | (simp; omega) | omega) _))))
  replace P := Box.below (g := W.heap.size) (by (repeat (first | (with_reducible assumption) | (with_reducible exact box_new _ _ _) | ((with_reducible apply box_at); (first | (with_reducible rfl) | (simp <;> omega))) | (with_reducible apply Box.drew) | (with_reducible apply Box.drewN) | (with_reducible apply Box.near) | (with_reducible apply Box.alloc) | ((with_reducible apply box_far); (first | assumption | omega | (simp <;> omega))) | (with_reducible apply Box.set) | (simp only [List.size_toArray, List.length_cons, List.length_nil, Array.size_setIfInBounds] <;> omega)))) hb
  (try simp only [List.setIfInBounds_toArray, List.set_cons_zero, List.set_cons_succ] at P)
  (try clear cP fP)
  replace Q := Box.below (g := W.heap.size + 1) (by (repeat (first | (with_reducible assumption) | (with_reducible exact box_new _ _ _) | ((with_reducible apply box_at); (first | (with_reducible rfl) | (simp <;> omega))) | (with_reducible apply Box.drew) | (with_reducible apply Box.drewN) | (with_reducible apply Box.near) | (with_reducible apply Box.alloc) | ((with_reducible apply box_far); (first | assumption | omega | (simp <;> omega))) | (with_reducible apply Box.set) | (simp only [List.size_toArray, List.length_cons, List.length_nil, Array.size_setIfInBounds] <;> omega)))) hb
  (try simp only [List.setIfInBounds_toArray, List.set_cons_zero, List.set_cons_succ] at Q)
  (try clear cQ fQ)
  clear hb
  have z_w1 : W.heap.size ≤ w1.heap.size := A.size
  obtain ⟨lP_w1, cP, fP⟩ := id P
  obtain ⟨lQ_w1, cQ, fQ⟩ := id Q
  go_wp2_with (fail)
  refine (ra_step _ _ _ _ _ _).mono ?_
  rintro e w2 ⟨rfl, hb⟩
  replace A : Below W.heap.size W w2 := by (refine below_call ?_ hb; (repeat (first | (with_reducible exact Below.refl _ _) | (with_reducible assumption) | (with_reducible refine Near.up _ ?_) | (with_reducible refine Below.drew ?_) | (with_reducible refine below_alloc_on ?_ _) | (with_reducible refine below_set_on ?_ (by first | (simp; done) | (simp; omega) | omega) _))))
  replace P := Box.below (g := W.heap.size) (by (repeat (first | (with_reducible assumption) | (with_reducible exact box_new _ _ _) | ((with_reducible apply box_at); (first | (with_reducible rfl) | (simp <;> omega))) | (with_reducible apply Box.drew) | (with_reducible apply Box.drewN) | (with_reducible apply Box.near) | (with_reducible apply Box.alloc) | ((with_reducible apply box_far); (first | assumption | omega | (simp <;> omega))) | (with_reducible apply Box.set) | (simp only [List.size_toArray, List.length_cons, List.length_nil, Array.size_setIfInBounds] <;> omega)))) hb
  (try simp only [List.setIfInBounds_toArray, List.set_cons_zero, List.set_cons_succ] at P)
  (try clear cP fP)
  replace X := Box.below (g := w1.heap.size) (by (repeat (first | (with_reducible assumption) | (with_reducible exact box_new _ _ _) | ((with_reducible apply box_at); (first | (with_reducible rfl) | (simp <;> omega))) | (with_reducible apply Box.drew) | (with_reducible apply Box.drewN) | (with_reducible apply Box.near) | (with_reducible apply Box.alloc) | ((with_reducible apply box_far); (first | assumption | omega | (simp <;> omega))) | (with_reducible apply Box.set) | (simp only [List.size_toArray, List.length_cons, List.length_nil, Array.size_setIfInBounds] <;> omega)))) hb
  (try simp only [List.setIfInBounds_toArray, List.set_cons_zero, List.set_cons_succ] at X)
  (try clear cX fX)
  clear hb
  have z_w2 : W.heap.size ≤ w2.heap.size := A.size
  obtain ⟨lP_w2, cP, fP⟩ := id P
  obtain ⟨lX_w2, cX, fX⟩ := id X
  have Y := box_new w2 #[.int .i64 (alA a n), .int .i64 (alS b n f s)] 49
  go_wp2
  refine wp_region_calm (by kernel_rfl) (by kernel_rfl) ?_
  repeat (go_big_quiet_step ((first | ((go_at_call 35; exact calm_of _ (al_shown _ _ _ _))) | ((go_at_call 36; exact calm_of _ (ra_shown _ _ _ _))) | ((go_at_call 37; exact calm_of _ (law41_awake _))))))
  refine wpQuiet_nil ?_
  intro _ hw'
  obtain ⟨u, rfl⟩ := hw'
  go_wp2
  all_goals go_ret
  all_goals exact ⟨rfl, by (repeat (first | (with_reducible exact Below.refl _ _) | (with_reducible assumption) | (with_reducible refine Near.up _ ?_) | (with_reducible refine Below.drew ?_) | (with_reducible refine below_alloc_on ?_ _) | (with_reducible refine below_set_on ?_ (by first | (simp; done) | (simp; omega) | omega) _)))⟩

theorem lifted (os : Os) (started : os.Started) (H : Type) (enc : TypeId × Value → H) :
    ReturnsInHanded {} Try.checked os 9 .any (Rows.alarmSaysSpec.pre6 enc Try.prog Try.f9 Rows.alarmSaysRow.domain false) (Rows.alarmSaysSpec.post enc Try.prog Try.f9 false true false false) := by
  refine law_lift started (by kernel_rfl) Try.func9 rfl rfl ?_ (by kernel_rfl)
    (ChangeSpec.witness6 (enc := enc) (C := Try.checked) false ⟨#[], #[.agg #[.int .i64 0, .int .i64 0], .int .i64 0, .agg #[.bool false, .bool false]], []⟩ 8 (by kernel_rfl) (by kernel_rfl) (by kernel_rfl) (by kernel_rfl)) ?_
  · intro ds hl
    match ds, hl with
    | [_, _, _], _ => exact ⟨rfl, rfl, rfl⟩
  · intro W base args ds p hval hA hlt hwt
    rw [Try.params9] at hA hval hwt
    obtain ⟨v0, vs0, d0, ds0, p0, q0, hargs, rfl, rfl, h0, r0⟩ := trodAll_cons hA
    obtain ⟨v1, vs1, d1, ds1, p1, q1, rfl, rfl, rfl, h1, r1⟩ := trodAll_cons r0
    obtain ⟨v2, vs2, d2, ds2, p2, q2, rfl, rfl, rfl, h2, r2⟩ := trodAll_cons r1
    obtain ⟨rfl, rfl, rfl⟩ := trodAll_nil r2
    obtain rfl : args = #[v0, v1, v2] := by cases args; simp_all
    obtain ⟨cs0, rfl, l0, k0⟩ := open_leaves 5 [.int .i64, .int .i64] (by kernel_rfl) (by kernel_rfl) (hval 0 49 v0 rfl rfl) h0
    match cs0, l0, k0 with
    | [y0_0, y0_1], _, k0 =>
    obtain ⟨x0_0, e0_0, w0_0⟩ : leafIs (.int .i64) y0_0 := k0 0 _ rfl
    subst e0_0
    obtain ⟨x0_1, e0_1, w0_1⟩ : leafIs (.int .i64) y0_1 := k0 1 _ rfl
    subst e0_1
    obtain ⟨a1, rfl, rfl, rfl, w1⟩ := open_int Try.underlying3 (hval 1 3 v1 rfl rfl) h1
    obtain ⟨cs2, rfl, l2, k2⟩ := open_leaves 5 [.bool, .bool] (by kernel_rfl) (by kernel_rfl) (hval 2 50 v2 rfl rfl) h2
    match cs2, l2, k2 with
    | [y2_0, y2_1], _, k2 =>
    obtain ⟨x2_0, e2_0⟩ : leafIs (.bool) y2_0 := k2 0 _ rfl
    subst e2_0
    obtain ⟨x2_1, e2_1⟩ : leafIs (.bool) y2_1 := k2 1 _ rfl
    subst e2_1
    exact walk x0_0 w0_0 x0_1 w0_1 a1 w1 x2_0 x2_1 W

theorem over : Rows.alarmSaysRow.holds Try.pinned (OpenSpec.ofChange Rows.alarmSaysSpec) :=
  OpenClaim.holds_of_wide 9 Try.f9 rfl rfl rfl rfl rfl rfl rfl ⟨rfl, rfl, rfl, rfl, rfl⟩ rfl rfl rfl rfl rfl (by kernel_rfl) Try.func9 (by kernel_rfl)
    (of_decide_eq_true (by kernel_rfl)) (by unfold Func.isWrapper; first | (rw [if_pos (by decide +kernel)]; kernel_rfl) | (rw [if_neg (by decide +kernel)]; exact ⟨rfl, rfl⟩))
    (fun os started H enc _ => lifted os started H enc)

theorem proved : Rows.AlarmSaysSaid := over
#print axioms proved
end Go.Proofs.Ythfipnccjnekfaa.alarmSays
