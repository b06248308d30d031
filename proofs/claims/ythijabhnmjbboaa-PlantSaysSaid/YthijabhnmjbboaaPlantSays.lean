/- PlantSays holds of every plant, and every number: the next one, and the light, the flow, and a drop's parts, are the document's. No condition. -/
import Derived.Test.YthijabhnmjbboaaRef48
import Derived.Test.YthijabhnmjbboaaLeaf
import Derived.Test.YthijabhnmjbboaaArr
namespace Go.Proofs.Ythijabhnmjbboaa.plantSays
open Go.ChangeShapes Go.WideShapes Go.ChangeAt Go.RowKit
set_option linter.unusedVariables false
set_option linter.unusedSimpArgs false
attribute [local go_sem] cell_set_ite Near.cell Near.frozen

set_option maxRecDepth 100000 in
set_option maxHeartbeats 2000000 in
theorem walk (L : Int) (wL : (Lit.int .i64 L).wf = true) (P : Int) (wP : (Lit.int .i64 P).wf = true) (S : Int) (wS : (Lit.int .i64 S).wf = true) (F : Int) (wF : (Lit.int .i64 F).wf = true) (o : Int) (wo : (Lit.int .i64 o).wf = true) (h : Int) (wh : (Lit.int .i64 h).wf = true) (s : Int) (ws : (Lit.int .i64 s).wf = true) (W : World) :
    Calls Try.prog 6 #[.agg #[.int .i64 L, .int .i64 P, .int .i64 S, .int .i64 F], .agg #[.int .i64 o, .int .i64 h, .int .i64 s]] W fun e W' => e = .returned (.bool true) ∧ Below W.heap.size W W' := by
  simp only [Lit.wf, IntKind.min, IntKind.max, IntKind.signed, IntKind.bits, Bool.and_eq_true] at wL wS
  simp at wL wS
  have A : Below W.heap.size W W := Below.refl _ _
  have H1 := Lib.hid (fun w => pl_step L P S F o h s (by omega) (by omega) w)
  have H2 := Lib.hid (fun w => rq_step L P S F o h s (by omega) (by omega) w)
  have H3 := Lib.hid (fun w => pl_unit s w)
  have H4 := Lib.hid (fun w => rp_unit s w)
  have H5 := Lib.hid (fun w => pl_flow o h w)
  have H6 := Lib.hid (fun w => rp_flow o h w)
  generalize plL L P s o h = L1 at *
  generalize plP L P s o h = P1 at *
  generalize plS L P S s o h = S1 at *
  generalize plF L P F s o h = F1 at *
  generalize plX L P S s o h = X1 at *
  generalize unV s = U at *
  generalize fwV o h = G at *
  clear wL wP wS wF wo wh ws
  go_enter Try.func6, Try.ntmps6
  go_wp2_with (fail)
  refine (H1.out _).mono ?_
  rintro e w1 ⟨rfl, hb⟩
  replace A : Below W.heap.size W w1 := by (refine below_call ?_ hb; (repeat (first | (with_reducible exact Below.refl _ _) | (with_reducible assumption) | (with_reducible refine Near.up _ ?_) | (with_reducible refine Below.drew ?_) | (with_reducible refine below_alloc_on ?_ _) | (with_reducible refine below_set_on ?_ (by first | (simp; done) | (simp; omega) | omega) _))))
  replace B := Box.below (g := W.heap.size) (by (repeat (first | (with_reducible assumption) | (with_reducible exact box_new _ _ _) | ((with_reducible apply box_at); (first | (with_reducible rfl) | (simp <;> omega))) | (with_reducible apply Box.drew) | (with_reducible apply Box.drewN) | (with_reducible apply Box.near) | (with_reducible apply Box.alloc) | ((with_reducible apply box_far); (first | assumption | omega | (simp <;> omega))) | ((with_reducible apply Box.one_set); (with_reducible assumption)) | ((with_reducible apply Box.two_set); (with_reducible assumption)) | ((with_reducible apply Box.three_set); (with_reducible assumption)) | (with_reducible apply Box.set) | (simp only [List.size_toArray, List.length_cons, List.length_nil, Array.size_setIfInBounds] <;> omega)))) hb
  (try simp only [List.setIfInBounds_toArray, List.set_cons_zero, List.set_cons_succ] at B)
  (try clear cB fB)
  replace K := Box.below (g := W.heap.size + 1) (by (repeat (first | (with_reducible assumption) | (with_reducible exact box_new _ _ _) | ((with_reducible apply box_at); (first | (with_reducible rfl) | (simp <;> omega))) | (with_reducible apply Box.drew) | (with_reducible apply Box.drewN) | (with_reducible apply Box.near) | (with_reducible apply Box.alloc) | ((with_reducible apply box_far); (first | assumption | omega | (simp <;> omega))) | ((with_reducible apply Box.one_set); (with_reducible assumption)) | ((with_reducible apply Box.two_set); (with_reducible assumption)) | ((with_reducible apply Box.three_set); (with_reducible assumption)) | (with_reducible apply Box.set) | (simp only [List.size_toArray, List.length_cons, List.length_nil, Array.size_setIfInBounds] <;> omega)))) hb
  (try simp only [List.setIfInBounds_toArray, List.set_cons_zero, List.set_cons_succ] at K)
  (try clear cK fK)
  clear hb
  have z_w1 : W.heap.size ≤ w1.heap.size := A.size
  obtain ⟨lB_w1, cB, fB⟩ := id B
  obtain ⟨lK_w1, cK, fK⟩ := id K
  go_wp2_with (fail)
  refine (H2.out _).mono ?_
  rintro e w2 ⟨rfl, hb⟩
  replace A : Below W.heap.size W w2 := by (refine below_call ?_ hb; (repeat (first | (with_reducible exact Below.refl _ _) | (with_reducible assumption) | (with_reducible refine Near.up _ ?_) | (with_reducible refine Below.drew ?_) | (with_reducible refine below_alloc_on ?_ _) | (with_reducible refine below_set_on ?_ (by first | (simp; done) | (simp; omega) | omega) _))))
  replace B := Box.below (g := W.heap.size) (by (repeat (first | (with_reducible assumption) | (with_reducible exact box_new _ _ _) | ((with_reducible apply box_at); (first | (with_reducible rfl) | (simp <;> omega))) | (with_reducible apply Box.drew) | (with_reducible apply Box.drewN) | (with_reducible apply Box.near) | (with_reducible apply Box.alloc) | ((with_reducible apply box_far); (first | assumption | omega | (simp <;> omega))) | ((with_reducible apply Box.one_set); (with_reducible assumption)) | ((with_reducible apply Box.two_set); (with_reducible assumption)) | ((with_reducible apply Box.three_set); (with_reducible assumption)) | (with_reducible apply Box.set) | (simp only [List.size_toArray, List.length_cons, List.length_nil, Array.size_setIfInBounds] <;> omega)))) hb
  (try simp only [List.setIfInBounds_toArray, List.set_cons_zero, List.set_cons_succ] at B)
  (try clear cB fB)
  replace K := Box.below (g := W.heap.size + 1) (by (repeat (first | (with_reducible assumption) | (with_reducible exact box_new _ _ _) | ((with_reducible apply box_at); (first | (with_reducible rfl) | (simp <;> omega))) | (with_reducible apply Box.drew) | (with_reducible apply Box.drewN) | (with_reducible apply Box.near) | (with_reducible apply Box.alloc) | ((with_reducible apply box_far); (first | assumption | omega | (simp <;> omega))) | ((with_reducible apply Box.one_set); (with_reducible assumption)) | ((with_reducible apply Box.two_set); (with_reducible assumption)) | ((with_reducible apply Box.three_set); (with_reducible assumption)) | (with_reducible apply Box.set) | (simp only [List.size_toArray, List.length_cons, List.length_nil, Array.size_setIfInBounds] <;> omega)))) hb
  (try simp only [List.setIfInBounds_toArray, List.set_cons_zero, List.set_cons_succ] at K)
  (try clear cK fK)
  replace Q := Box.below (g := w1.heap.size) (by (repeat (first | (with_reducible assumption) | (with_reducible exact box_new _ _ _) | ((with_reducible apply box_at); (first | (with_reducible rfl) | (simp <;> omega))) | (with_reducible apply Box.drew) | (with_reducible apply Box.drewN) | (with_reducible apply Box.near) | (with_reducible apply Box.alloc) | ((with_reducible apply box_far); (first | assumption | omega | (simp <;> omega))) | ((with_reducible apply Box.one_set); (with_reducible assumption)) | ((with_reducible apply Box.two_set); (with_reducible assumption)) | ((with_reducible apply Box.three_set); (with_reducible assumption)) | (with_reducible apply Box.set) | (simp only [List.size_toArray, List.length_cons, List.length_nil, Array.size_setIfInBounds] <;> omega)))) hb
  (try simp only [List.setIfInBounds_toArray, List.set_cons_zero, List.set_cons_succ] at Q)
  (try clear cQ fQ)
  clear hb
  have z_w2 : W.heap.size ≤ w2.heap.size := A.size
  obtain ⟨lB_w2, cB, fB⟩ := id B
  obtain ⟨lK_w2, cK, fK⟩ := id K
  obtain ⟨lQ_w2, cQ, fQ⟩ := id Q
  go_wp2
  have A3 := below_alloc_on A (.cells #[.int .i64 L1, .int .i64 P1, .int .i64 S1, .int .i64 F1] 31)
  have K3 := K.alloc (.cells #[.int .i64 L1, .int .i64 P1, .int .i64 S1, .int .i64 F1] 31)
  have Q3 := Q.alloc (.cells #[.int .i64 L1, .int .i64 P1, .int .i64 S1, .int .i64 F1] 31)
  have R3 := box_new w2 #[.int .i64 L1, .int .i64 P1, .int .i64 S1, .int .i64 F1] 31
  generalize w2.alloc (.cells #[.int .i64 L1, .int .i64 P1, .int .i64 S1, .int .i64 F1] 31) = w3 at *
  clear cB fB cK fK cQ fQ
  obtain ⟨lK, cK, fK⟩ := id K3
  obtain ⟨lQ, cQ, fQ⟩ := id Q3
  obtain ⟨lR, cR, fR⟩ := id R3
  refine wp_region_calm (by kernel_rfl) (by kernel_rfl) ?_
  repeat (go_big_quiet_step ((first | ((go_at_call 23; exact calm_same _ (H3.out _))) | ((go_at_call 24; exact calm_same _ (H4.out _))) | ((go_at_call 25; exact calm_same _ (H5.out _))) | ((go_at_call 26; exact calm_same _ (H6.out _))) | ((go_at_call 27; exact calm_of _ (law48_awake _))))))
  refine wpQuiet_nil ?_
  intro _ hw'
  obtain ⟨u, rfl⟩ := hw'
  go_wp2
  all_goals go_ret
  all_goals exact ⟨rfl, u.up A3⟩

set_option maxRecDepth 100000 in
theorem lifted (os : Os) (started : os.Started) (H : Type) (enc : TypeId × Value → H) :
    ReturnsInHanded {} Try.checked os 6 .any (Rows.plantSaysSpec.pre6 enc Try.prog Try.f6 Rows.plantSaysRow.domain false) (Rows.plantSaysSpec.post enc Try.prog Try.f6 false true false false) := by
  refine law_lift started (by kernel_rfl) Try.func6 rfl rfl ?_ (by kernel_rfl)
    (ChangeSpec.witness6 (enc := enc) (C := Try.checked) false ⟨#[], #[.agg #[.int .i64 0, .int .i64 0, .int .i64 0, .int .i64 0], .agg #[.int .i64 0, .int .i64 0, .int .i64 0]], []⟩ 8 (by kernel_rfl) (by kernel_rfl) (by kernel_rfl) (by kernel_rfl)) ?_
  · intro ds hl
    match ds, hl with
    | [_, _], _ => exact ⟨rfl, rfl, rfl⟩
  · intro W base args ds p hval hA hlt hwt
    rw [Try.params6] at hA hval hwt
    obtain ⟨v0, vs0, d0, ds0, p0, q0, hargs, rfl, rfl, h0, r0⟩ := trodAll_cons hA
    obtain ⟨v1, vs1, d1, ds1, p1, q1, rfl, rfl, rfl, h1, r1⟩ := trodAll_cons r0
    obtain ⟨rfl, rfl, rfl⟩ := trodAll_nil r1
    obtain rfl : args = #[v0, v1] := by cases args; simp_all
    obtain ⟨cs0, rfl, l0, k0⟩ := open_leaves 5 [.int .i64, .int .i64, .int .i64, .int .i64] (by kernel_rfl) (by kernel_rfl) (hval 0 31 v0 rfl rfl) h0
    match cs0, l0, k0 with
    | [y0_0, y0_1, y0_2, y0_3], _, k0 =>
    obtain ⟨x0_0, e0_0, w0_0⟩ : leafIs (.int .i64) y0_0 := k0 0 _ rfl
    subst e0_0
    obtain ⟨x0_1, e0_1, w0_1⟩ : leafIs (.int .i64) y0_1 := k0 1 _ rfl
    subst e0_1
    obtain ⟨x0_2, e0_2, w0_2⟩ : leafIs (.int .i64) y0_2 := k0 2 _ rfl
    subst e0_2
    obtain ⟨x0_3, e0_3, w0_3⟩ : leafIs (.int .i64) y0_3 := k0 3 _ rfl
    subst e0_3
    obtain ⟨xs1, rfl, l1, w1⟩ := open_int_cells Try.underlying32 Try.underlying3 (by kernel_rfl) (by kernel_rfl) (hval 1 32 v1 rfl rfl) h1
    match xs1, l1, w1 with
    | [x1_0, x1_1, x1_2], _, w1 =>
    exact walk x0_0 w0_0 x0_1 w0_1 x0_2 w0_2 x0_3 w0_3 x1_0 (w1 _ (by simp)) x1_1 (w1 _ (by simp)) x1_2 (w1 _ (by simp)) W

theorem over : Rows.plantSaysRow.holds Try.pinned (OpenSpec.ofChange Rows.plantSaysSpec) :=
  OpenClaim.holds_of_wide 6 Try.f6 rfl rfl rfl rfl rfl rfl rfl ⟨rfl, rfl, rfl, rfl, rfl⟩ rfl rfl rfl rfl rfl (by kernel_rfl) Try.func6 (by kernel_rfl)
    (of_decide_eq_true (by kernel_rfl)) (by unfold Func.isWrapper; first | (rw [if_pos (by decide +kernel)]; kernel_rfl) | (rw [if_neg (by decide +kernel)]; exact ⟨rfl, rfl⟩))
    (fun os started H enc _ => lifted os started H enc)

theorem proved : Rows.PlantSaysSaid := over
#print axioms proved
end Go.Proofs.Ythijabhnmjbboaa.plantSays
