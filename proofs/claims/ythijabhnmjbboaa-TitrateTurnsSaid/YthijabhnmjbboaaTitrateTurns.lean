/- TitrateTurns holds of every programme and every rate: what is changed can be changed back. No condition. -/
import Derived.Test.YthijabhnmjbboaaLaw38
import Derived.Test.YthijabhnmjbboaaLeaf
namespace Go.Proofs.Ythijabhnmjbboaa.titrateTurns
open Go.ChangeShapes Go.WideShapes Go.ChangeAt Go.RowKit
set_option linter.unusedVariables false
set_option linter.unusedSimpArgs false
attribute [local go_sem] cell_set_ite Near.cell Near.frozen

theorem back {r v s n : Int} (h : chE r v s n = 0) : chE n v s r = 0 ∧ ckV n v s = 0 := by
  unfold chE at h
  by_cases h1 : ckV r v s = 0
  · rw [if_neg (by simpa using h1)] at h
    by_cases h2 : ckV n v s = 0
    · rw [if_neg (by simpa using h2)] at h
      by_cases h3 : n = stV r n
      · obtain ⟨_, r0, _, _, _, _⟩ := ck_ok h1
        obtain ⟨_, n0, _, _, _, _⟩ := ck_ok h2
        have := st_back r0 n0 h3
        exact ⟨by unfold chE; rw [if_neg (by simpa using h2), if_neg (by simpa using h1), if_pos this], h2⟩
      · rw [if_neg h3] at h; omega
    · rw [if_pos h2] at h; exact absurd h h2
  · rw [if_pos h1] at h; exact absurd h h1

set_option maxRecDepth 100000 in
set_option maxHeartbeats 2000000 in
theorem walk (r : Int) (wr : (Lit.int .i64 r).wf = true) (v : Int) (wv : (Lit.int .i64 v).wf = true) (s : Int) (ws : (Lit.int .i64 s).wf = true) (n : Int) (wn : (Lit.int .i64 n).wf = true) (W : World) :
    Calls Try.prog 11 #[.agg #[.int .i64 r, .int .i64 v, .int .i64 s], .int .i64 n] W fun e W' => e = .returned (.bool true) ∧ Below W.heap.size W W' := by
  clear wr wv ws wn
  have A : Below W.heap.size W W := Below.refl _ _
  have H1 := fun w => tt_change r v s n w
  by_cases h : chE r v s n = 0
  · obtain ⟨h2, h3⟩ := back h
    have H2 := fun w => tt_change n v s r w
    have H3 := fun w => pr_check n v s w
    rw [h] at H1
    rw [h2] at H2
    rw [h3] at H3
    simp only [orN, if_true, reduceIte] at H1 H2
    have H1 := Lib.hid H1
    have H2 := Lib.hid H2
    have H3 := Lib.hid H3
    clear h h2 h3
    go_enter Try.func11, Try.ntmps11
    go_wp2_with (fail)
    refine (H1.out _).mono ?_
    rintro e w1 ⟨rfl, hb⟩
    replace A : Below W.heap.size W w1 := by (refine below_call ?_ hb; (repeat (first | (with_reducible exact Below.refl _ _) | (with_reducible assumption) | (with_reducible refine Near.up _ ?_) | (with_reducible refine Below.drew ?_) | (with_reducible refine below_alloc_on ?_ _) | (with_reducible refine below_set_on ?_ (by first | (simp; done) | (simp; omega) | omega) _))))
    replace P := Box.below (g := W.heap.size) (by (repeat (first | (with_reducible assumption) | (with_reducible exact box_new _ _ _) | ((with_reducible apply box_at); (first | (with_reducible rfl) | (simp <;> omega))) | (with_reducible apply Box.drew) | (with_reducible apply Box.drewN) | (with_reducible apply Box.near) | (with_reducible apply Box.alloc) | ((with_reducible apply box_far); (first | assumption | omega | (simp <;> omega))) | ((with_reducible apply Box.one_set); (with_reducible assumption)) | ((with_reducible apply Box.two_set); (with_reducible assumption)) | ((with_reducible apply Box.three_set); (with_reducible assumption)) | (with_reducible apply Box.set) | (simp only [List.size_toArray, List.length_cons, List.length_nil, Array.size_setIfInBounds] <;> omega)))) hb
    (try simp only [List.setIfInBounds_toArray, List.set_cons_zero, List.set_cons_succ] at P)
    (try clear cP fP)
    clear hb
    have z_w1 : W.heap.size ≤ w1.heap.size := A.size
    obtain ⟨lP_w1, cP, fP⟩ := id P
    go_wp2_with (fail)
    refine (H2.out _).mono ?_
    rintro e w2 ⟨rfl, hb⟩
    replace A : Below W.heap.size W w2 := by (refine below_call ?_ hb; (repeat (first | (with_reducible exact Below.refl _ _) | (with_reducible assumption) | (with_reducible refine Near.up _ ?_) | (with_reducible refine Below.drew ?_) | (with_reducible refine below_alloc_on ?_ _) | (with_reducible refine below_set_on ?_ (by first | (simp; done) | (simp; omega) | omega) _))))
    replace P := Box.below (g := W.heap.size) (by (repeat (first | (with_reducible assumption) | (with_reducible exact box_new _ _ _) | ((with_reducible apply box_at); (first | (with_reducible rfl) | (simp <;> omega))) | (with_reducible apply Box.drew) | (with_reducible apply Box.drewN) | (with_reducible apply Box.near) | (with_reducible apply Box.alloc) | ((with_reducible apply box_far); (first | assumption | omega | (simp <;> omega))) | ((with_reducible apply Box.one_set); (with_reducible assumption)) | ((with_reducible apply Box.two_set); (with_reducible assumption)) | ((with_reducible apply Box.three_set); (with_reducible assumption)) | (with_reducible apply Box.set) | (simp only [List.size_toArray, List.length_cons, List.length_nil, Array.size_setIfInBounds] <;> omega)))) hb
    (try simp only [List.setIfInBounds_toArray, List.set_cons_zero, List.set_cons_succ] at P)
    (try clear cP fP)
    replace Q := Box.below (g := w1.heap.size) (by (repeat (first | (with_reducible assumption) | (with_reducible exact box_new _ _ _) | ((with_reducible apply box_at); (first | (with_reducible rfl) | (simp <;> omega))) | (with_reducible apply Box.drew) | (with_reducible apply Box.drewN) | (with_reducible apply Box.near) | (with_reducible apply Box.alloc) | ((with_reducible apply box_far); (first | assumption | omega | (simp <;> omega))) | ((with_reducible apply Box.one_set); (with_reducible assumption)) | ((with_reducible apply Box.two_set); (with_reducible assumption)) | ((with_reducible apply Box.three_set); (with_reducible assumption)) | (with_reducible apply Box.set) | (simp only [List.size_toArray, List.length_cons, List.length_nil, Array.size_setIfInBounds] <;> omega)))) hb
    (try simp only [List.setIfInBounds_toArray, List.set_cons_zero, List.set_cons_succ] at Q)
    (try clear cQ fQ)
    clear hb
    have z_w2 : W.heap.size ≤ w2.heap.size := A.size
    obtain ⟨lP_w2, cP, fP⟩ := id P
    obtain ⟨lQ_w2, cQ, fQ⟩ := id Q
    go_wp2_with (fail)
    refine (H3.out _).mono ?_
    rintro e w3 ⟨rfl, hb⟩
    replace A : Below W.heap.size W w3 := by (refine below_call ?_ hb; (repeat (first | (with_reducible exact Below.refl _ _) | (with_reducible assumption) | (with_reducible refine Near.up _ ?_) | (with_reducible refine Below.drew ?_) | (with_reducible refine below_alloc_on ?_ _) | (with_reducible refine below_set_on ?_ (by first | (simp; done) | (simp; omega) | omega) _))))
    replace P := Box.below (g := W.heap.size) (by (repeat (first | (with_reducible assumption) | (with_reducible exact box_new _ _ _) | ((with_reducible apply box_at); (first | (with_reducible rfl) | (simp <;> omega))) | (with_reducible apply Box.drew) | (with_reducible apply Box.drewN) | (with_reducible apply Box.near) | (with_reducible apply Box.alloc) | ((with_reducible apply box_far); (first | assumption | omega | (simp <;> omega))) | ((with_reducible apply Box.one_set); (with_reducible assumption)) | ((with_reducible apply Box.two_set); (with_reducible assumption)) | ((with_reducible apply Box.three_set); (with_reducible assumption)) | (with_reducible apply Box.set) | (simp only [List.size_toArray, List.length_cons, List.length_nil, Array.size_setIfInBounds] <;> omega)))) hb
    (try simp only [List.setIfInBounds_toArray, List.set_cons_zero, List.set_cons_succ] at P)
    (try clear cP fP)
    replace Q := Box.below (g := w1.heap.size) (by (repeat (first | (with_reducible assumption) | (with_reducible exact box_new _ _ _) | ((with_reducible apply box_at); (first | (with_reducible rfl) | (simp <;> omega))) | (with_reducible apply Box.drew) | (with_reducible apply Box.drewN) | (with_reducible apply Box.near) | (with_reducible apply Box.alloc) | ((with_reducible apply box_far); (first | assumption | omega | (simp <;> omega))) | ((with_reducible apply Box.one_set); (with_reducible assumption)) | ((with_reducible apply Box.two_set); (with_reducible assumption)) | ((with_reducible apply Box.three_set); (with_reducible assumption)) | (with_reducible apply Box.set) | (simp only [List.size_toArray, List.length_cons, List.length_nil, Array.size_setIfInBounds] <;> omega)))) hb
    (try simp only [List.setIfInBounds_toArray, List.set_cons_zero, List.set_cons_succ] at Q)
    (try clear cQ fQ)
    replace R := Box.below (g := w2.heap.size) (by (repeat (first | (with_reducible assumption) | (with_reducible exact box_new _ _ _) | ((with_reducible apply box_at); (first | (with_reducible rfl) | (simp <;> omega))) | (with_reducible apply Box.drew) | (with_reducible apply Box.drewN) | (with_reducible apply Box.near) | (with_reducible apply Box.alloc) | ((with_reducible apply box_far); (first | assumption | omega | (simp <;> omega))) | ((with_reducible apply Box.one_set); (with_reducible assumption)) | ((with_reducible apply Box.two_set); (with_reducible assumption)) | ((with_reducible apply Box.three_set); (with_reducible assumption)) | (with_reducible apply Box.set) | (simp only [List.size_toArray, List.length_cons, List.length_nil, Array.size_setIfInBounds] <;> omega)))) hb
    (try simp only [List.setIfInBounds_toArray, List.set_cons_zero, List.set_cons_succ] at R)
    (try clear cR fR)
    clear hb
    have z_w3 : W.heap.size ≤ w3.heap.size := A.size
    obtain ⟨lP_w3, cP, fP⟩ := id P
    obtain ⟨lQ_w3, cQ, fQ⟩ := id Q
    obtain ⟨lR_w3, cR, fR⟩ := id R
    go_wp2_with (fail)
    refine (law38_awake _).mono ?_
    rintro e w4 ⟨rfl, hb⟩
    replace A : Below W.heap.size W w4 := by (refine below_call ?_ hb; (repeat (first | (with_reducible exact Below.refl _ _) | (with_reducible assumption) | (with_reducible refine Near.up _ ?_) | (with_reducible refine Below.drew ?_) | (with_reducible refine below_alloc_on ?_ _) | (with_reducible refine below_set_on ?_ (by first | (simp; done) | (simp; omega) | omega) _))))
    clear hb
    have z_w4 : W.heap.size ≤ w4.heap.size := A.size
    go_wp2
    all_goals go_ret
    all_goals exact ⟨rfl, A⟩
  · rw [show orN (chE r v s n) n = 0 from if_neg h, show orN (chE r v s n) v = 0 from if_neg h, show orN (chE r v s n) s = 0 from if_neg h] at H1
    generalize chE r v s n = E at *
    have t1 : (E != 0) = true := by simpa using h
    have H1 := Lib.hid H1
    clear h
    go_enter Try.func11, Try.ntmps11
    go_wp2_with (fail)
    refine (H1.out _).mono ?_
    rintro e w1 ⟨rfl, hb⟩
    replace A : Below W.heap.size W w1 := by (refine below_call ?_ hb; (repeat (first | (with_reducible exact Below.refl _ _) | (with_reducible assumption) | (with_reducible refine Near.up _ ?_) | (with_reducible refine Below.drew ?_) | (with_reducible refine below_alloc_on ?_ _) | (with_reducible refine below_set_on ?_ (by first | (simp; done) | (simp; omega) | omega) _))))
    replace P := Box.below (g := W.heap.size) (by (repeat (first | (with_reducible assumption) | (with_reducible exact box_new _ _ _) | ((with_reducible apply box_at); (first | (with_reducible rfl) | (simp <;> omega))) | (with_reducible apply Box.drew) | (with_reducible apply Box.drewN) | (with_reducible apply Box.near) | (with_reducible apply Box.alloc) | ((with_reducible apply box_far); (first | assumption | omega | (simp <;> omega))) | ((with_reducible apply Box.one_set); (with_reducible assumption)) | ((with_reducible apply Box.two_set); (with_reducible assumption)) | ((with_reducible apply Box.three_set); (with_reducible assumption)) | (with_reducible apply Box.set) | (simp only [List.size_toArray, List.length_cons, List.length_nil, Array.size_setIfInBounds] <;> omega)))) hb
    (try simp only [List.setIfInBounds_toArray, List.set_cons_zero, List.set_cons_succ] at P)
    (try clear cP fP)
    clear hb
    have z_w1 : W.heap.size ≤ w1.heap.size := A.size
    obtain ⟨lP_w1, cP, fP⟩ := id P
    go_wp2_with (fail)
    refine (law38_awake _).mono ?_
    rintro e w2 ⟨rfl, hb⟩
    replace A : Below W.heap.size W w2 := by (refine below_call ?_ hb; (repeat (first | (with_reducible exact Below.refl _ _) | (with_reducible assumption) | (with_reducible refine Near.up _ ?_) | (with_reducible refine Below.drew ?_) | (with_reducible refine below_alloc_on ?_ _) | (with_reducible refine below_set_on ?_ (by first | (simp; done) | (simp; omega) | omega) _))))
    clear hb
    have z_w2 : W.heap.size ≤ w2.heap.size := A.size
    go_wp2
    all_goals go_ret
    all_goals exact ⟨rfl, A⟩

set_option maxRecDepth 100000 in
theorem lifted (os : Os) (started : os.Started) (H : Type) (enc : TypeId × Value → H) :
    ReturnsInHanded {} Try.checked os 11 .any (Rows.titrateTurnsSpec.pre6 enc Try.prog Try.f11 Rows.titrateTurnsRow.domain false) (Rows.titrateTurnsSpec.post enc Try.prog Try.f11 false true false false) := by
  refine law_lift started (by kernel_rfl) Try.func11 rfl rfl ?_ (by kernel_rfl)
    (ChangeSpec.witness6 (enc := enc) (C := Try.checked) false ⟨#[], #[.agg #[.int .i64 0, .int .i64 0, .int .i64 0], .int .i64 0], []⟩ 8 (by kernel_rfl) (by kernel_rfl) (by kernel_rfl) (by kernel_rfl)) ?_
  · intro ds hl
    match ds, hl with
    | [_, _], _ => exact ⟨rfl, rfl, rfl⟩
  · intro W base args ds p hval hA hlt hwt
    rw [Try.params11] at hA hval hwt
    obtain ⟨v0, vs0, d0, ds0, p0, q0, hargs, rfl, rfl, h0, r0⟩ := trodAll_cons hA
    obtain ⟨v1, vs1, d1, ds1, p1, q1, rfl, rfl, rfl, h1, r1⟩ := trodAll_cons r0
    obtain ⟨rfl, rfl, rfl⟩ := trodAll_nil r1
    obtain rfl : args = #[v0, v1] := by cases args; simp_all
    obtain ⟨cs0, rfl, l0, k0⟩ := open_leaves 5 [.int .i64, .int .i64, .int .i64] (by kernel_rfl) (by kernel_rfl) (hval 0 50 v0 rfl rfl) h0
    match cs0, l0, k0 with
    | [y0_0, y0_1, y0_2], _, k0 =>
    obtain ⟨x0_0, e0_0, w0_0⟩ : leafIs (.int .i64) y0_0 := k0 0 _ rfl
    subst e0_0
    obtain ⟨x0_1, e0_1, w0_1⟩ : leafIs (.int .i64) y0_1 := k0 1 _ rfl
    subst e0_1
    obtain ⟨x0_2, e0_2, w0_2⟩ : leafIs (.int .i64) y0_2 := k0 2 _ rfl
    subst e0_2
    obtain ⟨a1, rfl, rfl, rfl, w1⟩ := open_int Try.underlying3 (hval 1 3 v1 rfl rfl) h1
    exact walk x0_0 w0_0 x0_1 w0_1 x0_2 w0_2 a1 w1 W

theorem over : Rows.titrateTurnsRow.holds Try.pinned (OpenSpec.ofChange Rows.titrateTurnsSpec) :=
  OpenClaim.holds_of_wide 11 Try.f11 rfl rfl rfl rfl rfl rfl rfl ⟨rfl, rfl, rfl, rfl, rfl⟩ rfl rfl rfl rfl rfl (by kernel_rfl) Try.func11 (by kernel_rfl)
    (of_decide_eq_true (by kernel_rfl)) (by unfold Func.isWrapper; first | (rw [if_pos (by decide +kernel)]; kernel_rfl) | (rw [if_neg (by decide +kernel)]; exact ⟨rfl, rfl⟩))
    (fun os started H enc _ => lifted os started H enc)

theorem proved : Rows.TitrateTurnsSaid := over
#print axioms proved
end Go.Proofs.Ythijabhnmjbboaa.titrateTurns
