/- Contracts of package titrate: Change and Towards. -/
import Derived.Test.YthijabhnmjbboaaTitWay
import Derived.Deep.RegionHeld3
import Derived.Deep.DrawnRows
namespace Go.Proofs.Ythijabhnmjbboaa
open Go.RowKit
set_option linter.unusedVariables false
set_option linter.unusedSimpArgs false
attribute [local go_sem] cell_set_ite Near.cell Near.frozen
attribute [local go_sem ↓] Go.wp_at_zero Go.wp_at_succ

/-- What is told, beside what is wrong. -/
def orN (E a : Int) : Int := if E = 0 then a else 0
theorem tt_told2 (a b c E : Int) (w : World) : Calls Try.prog 57 #[.agg #[.int .i64 a, .int .i64 b, .int .i64 c, .int .i64 E]] w fun e w' =>
    e = .returned (.tuple #[.agg #[.int .i64 (orN E a), .int .i64 (orN E b), .int .i64 (orN E c)], .int .i64 E]) ∧ Below w.heap.size w w' := tt_told a b c E w
theorem ch_bad (r v s n a b c E : Int) (hE : E ≠ 0) (HW : ∀ w, Calls Try.prog 55 #[.agg #[.int .i64 r, .int .i64 v, .int .i64 s], .int .i64 n] w fun e w' => e = .returned (.agg #[.int .i64 a, .int .i64 b, .int .i64 c, .int .i64 E]) ∧ Below w.heap.size w w') (w : World) :
    Calls Try.prog 35 #[.agg #[.int .i64 r, .int .i64 v, .int .i64 s], .int .i64 n] w fun e w' => e = .returned (.tuple #[.agg #[.int .i64 0, .int .i64 0, .int .i64 0], .int .i64 E]) ∧ Below w.heap.size w w' := by
  have A : Below w.heap.size w w := Below.refl _ _
  have HT := Lib.hid (fun w => tt_told2 a b c E w)
  rw [show orN E a = 0 from if_neg hE, show orN E b = 0 from if_neg hE, show orN E c = 0 from if_neg hE] at HT
  have t1 : (E == 0) = false := by simpa using hE
  have HW := Lib.hid HW
  clear hE
  go_enter Try.func35, Try.ntmps35
  go_wp2_with (fail)
  refine (HW.out _).mono ?_
  rintro e w1 ⟨rfl, hb⟩
  replace A : Below w.heap.size w w1 := by (refine below_call ?_ hb; (repeat (first | (with_reducible exact Below.refl _ _) | (with_reducible assumption) | (with_reducible refine Near.up _ ?_) | (with_reducible refine Below.drew ?_) | (with_reducible refine below_alloc_on ?_ _) | (with_reducible refine below_set_on ?_ (by first | (simp; done) | (simp; omega) | omega) _))))
  replace P := Box.below (g := w.heap.size) (by (repeat (first | (with_reducible assumption) | (with_reducible exact box_new _ _ _) | ((with_reducible apply box_at); (first | (with_reducible rfl) | (simp <;> omega))) | (with_reducible apply Box.drew) | (with_reducible apply Box.drewN) | (with_reducible apply Box.near) | (with_reducible apply Box.alloc) | ((with_reducible apply box_far); (first | assumption | omega | (simp <;> omega))) | ((with_reducible apply Box.one_set); (with_reducible assumption)) | ((with_reducible apply Box.two_set); (with_reducible assumption)) | ((with_reducible apply Box.three_set); (with_reducible assumption)) | (with_reducible apply Box.set) | (simp only [List.size_toArray, List.length_cons, List.length_nil, Array.size_setIfInBounds] <;> omega)))) hb
  (try simp only [List.setIfInBounds_toArray, List.set_cons_zero, List.set_cons_succ] at P)
  (try clear cP fP)
  replace Q := Box.below (g := w.heap.size + 1) (by (repeat (first | (with_reducible assumption) | (with_reducible exact box_new _ _ _) | ((with_reducible apply box_at); (first | (with_reducible rfl) | (simp <;> omega))) | (with_reducible apply Box.drew) | (with_reducible apply Box.drewN) | (with_reducible apply Box.near) | (with_reducible apply Box.alloc) | ((with_reducible apply box_far); (first | assumption | omega | (simp <;> omega))) | ((with_reducible apply Box.one_set); (with_reducible assumption)) | ((with_reducible apply Box.two_set); (with_reducible assumption)) | ((with_reducible apply Box.three_set); (with_reducible assumption)) | (with_reducible apply Box.set) | (simp only [List.size_toArray, List.length_cons, List.length_nil, Array.size_setIfInBounds] <;> omega)))) hb
  (try simp only [List.setIfInBounds_toArray, List.set_cons_zero, List.set_cons_succ] at Q)
  (try clear cQ fQ)
  clear hb
  have z_w1 : w.heap.size ≤ w1.heap.size := A.size
  obtain ⟨lP_w1, cP, fP⟩ := id P
  obtain ⟨lQ_w1, cQ, fQ⟩ := id Q
  go_wp2_with (fail)
  refine (HT.out _).mono ?_
  rintro e w2 ⟨rfl, hb⟩
  replace A : Below w.heap.size w w2 := by (refine below_call ?_ hb; (repeat (first | (with_reducible exact Below.refl _ _) | (with_reducible assumption) | (with_reducible refine Near.up _ ?_) | (with_reducible refine Below.drew ?_) | (with_reducible refine below_alloc_on ?_ _) | (with_reducible refine below_set_on ?_ (by first | (simp; done) | (simp; omega) | omega) _))))
  replace P := Box.below (g := w.heap.size) (by (repeat (first | (with_reducible assumption) | (with_reducible exact box_new _ _ _) | ((with_reducible apply box_at); (first | (with_reducible rfl) | (simp <;> omega))) | (with_reducible apply Box.drew) | (with_reducible apply Box.drewN) | (with_reducible apply Box.near) | (with_reducible apply Box.alloc) | ((with_reducible apply box_far); (first | assumption | omega | (simp <;> omega))) | ((with_reducible apply Box.one_set); (with_reducible assumption)) | ((with_reducible apply Box.two_set); (with_reducible assumption)) | ((with_reducible apply Box.three_set); (with_reducible assumption)) | (with_reducible apply Box.set) | (simp only [List.size_toArray, List.length_cons, List.length_nil, Array.size_setIfInBounds] <;> omega)))) hb
  (try simp only [List.setIfInBounds_toArray, List.set_cons_zero, List.set_cons_succ] at P)
  (try clear cP fP)
  replace Q := Box.below (g := w.heap.size + 1) (by (repeat (first | (with_reducible assumption) | (with_reducible exact box_new _ _ _) | ((with_reducible apply box_at); (first | (with_reducible rfl) | (simp <;> omega))) | (with_reducible apply Box.drew) | (with_reducible apply Box.drewN) | (with_reducible apply Box.near) | (with_reducible apply Box.alloc) | ((with_reducible apply box_far); (first | assumption | omega | (simp <;> omega))) | ((with_reducible apply Box.one_set); (with_reducible assumption)) | ((with_reducible apply Box.two_set); (with_reducible assumption)) | ((with_reducible apply Box.three_set); (with_reducible assumption)) | (with_reducible apply Box.set) | (simp only [List.size_toArray, List.length_cons, List.length_nil, Array.size_setIfInBounds] <;> omega)))) hb
  (try simp only [List.setIfInBounds_toArray, List.set_cons_zero, List.set_cons_succ] at Q)
  (try clear cQ fQ)
  replace N := Box.below (g := w1.heap.size) (by (repeat (first | (with_reducible assumption) | (with_reducible exact box_new _ _ _) | ((with_reducible apply box_at); (first | (with_reducible rfl) | (simp <;> omega))) | (with_reducible apply Box.drew) | (with_reducible apply Box.drewN) | (with_reducible apply Box.near) | (with_reducible apply Box.alloc) | ((with_reducible apply box_far); (first | assumption | omega | (simp <;> omega))) | ((with_reducible apply Box.one_set); (with_reducible assumption)) | ((with_reducible apply Box.two_set); (with_reducible assumption)) | ((with_reducible apply Box.three_set); (with_reducible assumption)) | (with_reducible apply Box.set) | (simp only [List.size_toArray, List.length_cons, List.length_nil, Array.size_setIfInBounds] <;> omega)))) hb
  (try simp only [List.setIfInBounds_toArray, List.set_cons_zero, List.set_cons_succ] at N)
  (try clear cN fN)
  clear hb
  have z_w2 : w.heap.size ≤ w2.heap.size := A.size
  obtain ⟨lP_w2, cP, fP⟩ := id P
  obtain ⟨lQ_w2, cQ, fQ⟩ := id Q
  obtain ⟨lN_w2, cN, fN⟩ := id N
  go_wp2
  refine bodyPost_ret (v := .tuple #[.agg #[.int .i64 0, .int .i64 0, .int .i64 0], .int .i64 E]) (by simp [results, Try.results35, go_sem, cQ]) rfl ⟨rfl, by (repeat (first | (with_reducible exact Below.refl _ _) | (with_reducible assumption) | (with_reducible refine Near.up _ ?_) | (with_reducible refine Below.drew ?_) | (with_reducible refine below_alloc_on ?_ _) | (with_reducible refine below_set_on ?_ (by first | (simp; done) | (simp; omega) | omega) _)))⟩
theorem tt_change (r v s n : Int) (w : World) : Calls Try.prog 35 #[.agg #[.int .i64 r, .int .i64 v, .int .i64 s], .int .i64 n] w fun e w' =>
    e = .returned (.tuple #[.agg #[.int .i64 (orN (chE r v s n) n), .int .i64 (orN (chE r v s n) v), .int .i64 (orN (chE r v s n) s)], .int .i64 (chE r v s n)]) ∧ Below w.heap.size w w' := by
  by_cases h1 : ckV r v s = 0
  · by_cases h2 : ckV n v s = 0
    · obtain ⟨_, r0, r1, _, _, _⟩ := ck_ok h1
      have A : Below w.heap.size w w := Below.refl _ _
      have HW := Lib.hid (fun w => tt_wanted_ok r v s n h1 w)
      rw [h2] at HW
      have HS := Lib.hid (fun w => tt_step r n r0 r1 w)
      by_cases h3 : n = stV r n
      · rw [show chE r v s n = 0 by unfold chE; rw [if_neg (by simpa using h1), if_neg (by simpa using h2), if_pos h3]]
        rw [← h3] at HS
        have t1 : (n != n) = false := by simp
        have HT := Lib.hid (fun w => tt_told2 n v s 0 w)
        rw [show ∀ a, orN 0 a = a from fun a => rfl] at HT ⊢
        rw [show ∀ a, orN 0 a = a from fun a => rfl] at HT ⊢
        rw [show ∀ a, orN 0 a = a from fun a => rfl] at HT ⊢
        clear h1 h2 h3
        go_enter Try.func35, Try.ntmps35
        go_wp2_with (fail)
        refine (HW.out _).mono ?_
        rintro e w1 ⟨rfl, hb⟩
        replace A : Below w.heap.size w w1 := by (refine below_call ?_ hb; (repeat (first | (with_reducible exact Below.refl _ _) | (with_reducible assumption) | (with_reducible refine Near.up _ ?_) | (with_reducible refine Below.drew ?_) | (with_reducible refine below_alloc_on ?_ _) | (with_reducible refine below_set_on ?_ (by first | (simp; done) | (simp; omega) | omega) _))))
        replace P := Box.below (g := w.heap.size) (by (repeat (first | (with_reducible assumption) | (with_reducible exact box_new _ _ _) | ((with_reducible apply box_at); (first | (with_reducible rfl) | (simp <;> omega))) | (with_reducible apply Box.drew) | (with_reducible apply Box.drewN) | (with_reducible apply Box.near) | (with_reducible apply Box.alloc) | ((with_reducible apply box_far); (first | assumption | omega | (simp <;> omega))) | ((with_reducible apply Box.one_set); (with_reducible assumption)) | ((with_reducible apply Box.two_set); (with_reducible assumption)) | ((with_reducible apply Box.three_set); (with_reducible assumption)) | (with_reducible apply Box.set) | (simp only [List.size_toArray, List.length_cons, List.length_nil, Array.size_setIfInBounds] <;> omega)))) hb
        (try simp only [List.setIfInBounds_toArray, List.set_cons_zero, List.set_cons_succ] at P)
        (try clear cP fP)
        replace Q := Box.below (g := w.heap.size + 1) (by (repeat (first | (with_reducible assumption) | (with_reducible exact box_new _ _ _) | ((with_reducible apply box_at); (first | (with_reducible rfl) | (simp <;> omega))) | (with_reducible apply Box.drew) | (with_reducible apply Box.drewN) | (with_reducible apply Box.near) | (with_reducible apply Box.alloc) | ((with_reducible apply box_far); (first | assumption | omega | (simp <;> omega))) | ((with_reducible apply Box.one_set); (with_reducible assumption)) | ((with_reducible apply Box.two_set); (with_reducible assumption)) | ((with_reducible apply Box.three_set); (with_reducible assumption)) | (with_reducible apply Box.set) | (simp only [List.size_toArray, List.length_cons, List.length_nil, Array.size_setIfInBounds] <;> omega)))) hb
        (try simp only [List.setIfInBounds_toArray, List.set_cons_zero, List.set_cons_succ] at Q)
        (try clear cQ fQ)
        clear hb
        have z_w1 : w.heap.size ≤ w1.heap.size := A.size
        obtain ⟨lP_w1, cP, fP⟩ := id P
        obtain ⟨lQ_w1, cQ, fQ⟩ := id Q
        go_wp2_with ((go_at_call 56; refine (HS.out _).mono ?_; rintro e w' ⟨rfl, rfl⟩))
        refine (HT.out _).mono ?_
        rintro e w2 ⟨rfl, hb⟩
        replace A : Below w.heap.size w w2 := by (refine below_call ?_ hb; (repeat (first | (with_reducible exact Below.refl _ _) | (with_reducible assumption) | (with_reducible refine Near.up _ ?_) | (with_reducible refine Below.drew ?_) | (with_reducible refine below_alloc_on ?_ _) | (with_reducible refine below_set_on ?_ (by first | (simp; done) | (simp; omega) | omega) _))))
        replace P := Box.below (g := w.heap.size) (by (repeat (first | (with_reducible assumption) | (with_reducible exact box_new _ _ _) | ((with_reducible apply box_at); (first | (with_reducible rfl) | (simp <;> omega))) | (with_reducible apply Box.drew) | (with_reducible apply Box.drewN) | (with_reducible apply Box.near) | (with_reducible apply Box.alloc) | ((with_reducible apply box_far); (first | assumption | omega | (simp <;> omega))) | ((with_reducible apply Box.one_set); (with_reducible assumption)) | ((with_reducible apply Box.two_set); (with_reducible assumption)) | ((with_reducible apply Box.three_set); (with_reducible assumption)) | (with_reducible apply Box.set) | (simp only [List.size_toArray, List.length_cons, List.length_nil, Array.size_setIfInBounds] <;> omega)))) hb
        (try simp only [List.setIfInBounds_toArray, List.set_cons_zero, List.set_cons_succ] at P)
        (try clear cP fP)
        replace Q := Box.below (g := w.heap.size + 1) (by (repeat (first | (with_reducible assumption) | (with_reducible exact box_new _ _ _) | ((with_reducible apply box_at); (first | (with_reducible rfl) | (simp <;> omega))) | (with_reducible apply Box.drew) | (with_reducible apply Box.drewN) | (with_reducible apply Box.near) | (with_reducible apply Box.alloc) | ((with_reducible apply box_far); (first | assumption | omega | (simp <;> omega))) | ((with_reducible apply Box.one_set); (with_reducible assumption)) | ((with_reducible apply Box.two_set); (with_reducible assumption)) | ((with_reducible apply Box.three_set); (with_reducible assumption)) | (with_reducible apply Box.set) | (simp only [List.size_toArray, List.length_cons, List.length_nil, Array.size_setIfInBounds] <;> omega)))) hb
        (try simp only [List.setIfInBounds_toArray, List.set_cons_zero, List.set_cons_succ] at Q)
        (try clear cQ fQ)
        replace N := Box.below (g := w1.heap.size) (by (repeat (first | (with_reducible assumption) | (with_reducible exact box_new _ _ _) | ((with_reducible apply box_at); (first | (with_reducible rfl) | (simp <;> omega))) | (with_reducible apply Box.drew) | (with_reducible apply Box.drewN) | (with_reducible apply Box.near) | (with_reducible apply Box.alloc) | ((with_reducible apply box_far); (first | assumption | omega | (simp <;> omega))) | ((with_reducible apply Box.one_set); (with_reducible assumption)) | ((with_reducible apply Box.two_set); (with_reducible assumption)) | ((with_reducible apply Box.three_set); (with_reducible assumption)) | (with_reducible apply Box.set) | (simp only [List.size_toArray, List.length_cons, List.length_nil, Array.size_setIfInBounds] <;> omega)))) hb
        (try simp only [List.setIfInBounds_toArray, List.set_cons_zero, List.set_cons_succ] at N)
        (try clear cN fN)
        clear hb
        have z_w2 : w.heap.size ≤ w2.heap.size := A.size
        obtain ⟨lP_w2, cP, fP⟩ := id P
        obtain ⟨lQ_w2, cQ, fQ⟩ := id Q
        obtain ⟨lN_w2, cN, fN⟩ := id N
        go_wp2
        refine bodyPost_ret (v := .tuple #[.agg #[.int .i64 n, .int .i64 v, .int .i64 s], .int .i64 0]) (by simp [results, Try.results35, go_sem, cQ]) rfl ⟨rfl, by (repeat (first | (with_reducible exact Below.refl _ _) | (with_reducible assumption) | (with_reducible refine Near.up _ ?_) | (with_reducible refine Below.drew ?_) | (with_reducible refine below_alloc_on ?_ _) | (with_reducible refine below_set_on ?_ (by first | (simp; done) | (simp; omega) | omega) _)))⟩
      · rw [show chE r v s n = 14 by unfold chE; rw [if_neg (by simpa using h1), if_neg (by simpa using h2), if_neg h3]]
        have t1 : (n != stV r n) = true := by simpa using h3
        generalize stV r n = X at *
        have HT := Lib.hid (fun w => tt_told2 n v s 14 w)
        rw [show ∀ a, orN 14 a = 0 from fun a => rfl] at HT ⊢
        rw [show ∀ a, orN 14 a = 0 from fun a => rfl] at HT ⊢
        rw [show ∀ a, orN 14 a = 0 from fun a => rfl] at HT ⊢
        clear h1 h2 h3
        go_enter Try.func35, Try.ntmps35
        go_wp2_with (fail)
        refine (HW.out _).mono ?_
        rintro e w1 ⟨rfl, hb⟩
        replace A : Below w.heap.size w w1 := by (refine below_call ?_ hb; (repeat (first | (with_reducible exact Below.refl _ _) | (with_reducible assumption) | (with_reducible refine Near.up _ ?_) | (with_reducible refine Below.drew ?_) | (with_reducible refine below_alloc_on ?_ _) | (with_reducible refine below_set_on ?_ (by first | (simp; done) | (simp; omega) | omega) _))))
        replace P := Box.below (g := w.heap.size) (by (repeat (first | (with_reducible assumption) | (with_reducible exact box_new _ _ _) | ((with_reducible apply box_at); (first | (with_reducible rfl) | (simp <;> omega))) | (with_reducible apply Box.drew) | (with_reducible apply Box.drewN) | (with_reducible apply Box.near) | (with_reducible apply Box.alloc) | ((with_reducible apply box_far); (first | assumption | omega | (simp <;> omega))) | ((with_reducible apply Box.one_set); (with_reducible assumption)) | ((with_reducible apply Box.two_set); (with_reducible assumption)) | ((with_reducible apply Box.three_set); (with_reducible assumption)) | (with_reducible apply Box.set) | (simp only [List.size_toArray, List.length_cons, List.length_nil, Array.size_setIfInBounds] <;> omega)))) hb
        (try simp only [List.setIfInBounds_toArray, List.set_cons_zero, List.set_cons_succ] at P)
        (try clear cP fP)
        replace Q := Box.below (g := w.heap.size + 1) (by (repeat (first | (with_reducible assumption) | (with_reducible exact box_new _ _ _) | ((with_reducible apply box_at); (first | (with_reducible rfl) | (simp <;> omega))) | (with_reducible apply Box.drew) | (with_reducible apply Box.drewN) | (with_reducible apply Box.near) | (with_reducible apply Box.alloc) | ((with_reducible apply box_far); (first | assumption | omega | (simp <;> omega))) | ((with_reducible apply Box.one_set); (with_reducible assumption)) | ((with_reducible apply Box.two_set); (with_reducible assumption)) | ((with_reducible apply Box.three_set); (with_reducible assumption)) | (with_reducible apply Box.set) | (simp only [List.size_toArray, List.length_cons, List.length_nil, Array.size_setIfInBounds] <;> omega)))) hb
        (try simp only [List.setIfInBounds_toArray, List.set_cons_zero, List.set_cons_succ] at Q)
        (try clear cQ fQ)
        clear hb
        have z_w1 : w.heap.size ≤ w1.heap.size := A.size
        obtain ⟨lP_w1, cP, fP⟩ := id P
        obtain ⟨lQ_w1, cQ, fQ⟩ := id Q
        go_wp2_with ((go_at_call 56; refine (HS.out _).mono ?_; rintro e w' ⟨rfl, rfl⟩))
        refine (HT.out _).mono ?_
        rintro e w2 ⟨rfl, hb⟩
        replace A : Below w.heap.size w w2 := by (refine below_call ?_ hb; (repeat (first | (with_reducible exact Below.refl _ _) | (with_reducible assumption) | (with_reducible refine Near.up _ ?_) | (with_reducible refine Below.drew ?_) | (with_reducible refine below_alloc_on ?_ _) | (with_reducible refine below_set_on ?_ (by first | (simp; done) | (simp; omega) | omega) _))))
        replace P := Box.below (g := w.heap.size) (by (repeat (first | (with_reducible assumption) | (with_reducible exact box_new _ _ _) | ((with_reducible apply box_at); (first | (with_reducible rfl) | (simp <;> omega))) | (with_reducible apply Box.drew) | (with_reducible apply Box.drewN) | (with_reducible apply Box.near) | (with_reducible apply Box.alloc) | ((with_reducible apply box_far); (first | assumption | omega | (simp <;> omega))) | ((with_reducible apply Box.one_set); (with_reducible assumption)) | ((with_reducible apply Box.two_set); (with_reducible assumption)) | ((with_reducible apply Box.three_set); (with_reducible assumption)) | (with_reducible apply Box.set) | (simp only [List.size_toArray, List.length_cons, List.length_nil, Array.size_setIfInBounds] <;> omega)))) hb
        (try simp only [List.setIfInBounds_toArray, List.set_cons_zero, List.set_cons_succ] at P)
        (try clear cP fP)
        replace Q := Box.below (g := w.heap.size + 1) (by (repeat (first | (with_reducible assumption) | (with_reducible exact box_new _ _ _) | ((with_reducible apply box_at); (first | (with_reducible rfl) | (simp <;> omega))) | (with_reducible apply Box.drew) | (with_reducible apply Box.drewN) | (with_reducible apply Box.near) | (with_reducible apply Box.alloc) | ((with_reducible apply box_far); (first | assumption | omega | (simp <;> omega))) | ((with_reducible apply Box.one_set); (with_reducible assumption)) | ((with_reducible apply Box.two_set); (with_reducible assumption)) | ((with_reducible apply Box.three_set); (with_reducible assumption)) | (with_reducible apply Box.set) | (simp only [List.size_toArray, List.length_cons, List.length_nil, Array.size_setIfInBounds] <;> omega)))) hb
        (try simp only [List.setIfInBounds_toArray, List.set_cons_zero, List.set_cons_succ] at Q)
        (try clear cQ fQ)
        clear hb
        have z_w2 : w.heap.size ≤ w2.heap.size := A.size
        obtain ⟨lP_w2, cP, fP⟩ := id P
        obtain ⟨lQ_w2, cQ, fQ⟩ := id Q
        go_wp2
        refine bodyPost_ret (v := .tuple #[.agg #[.int .i64 0, .int .i64 0, .int .i64 0], .int .i64 14]) (by simp [results, Try.results35, go_sem, cQ]) rfl ⟨rfl, by (repeat (first | (with_reducible exact Below.refl _ _) | (with_reducible assumption) | (with_reducible refine Near.up _ ?_) | (with_reducible refine Below.drew ?_) | (with_reducible refine below_alloc_on ?_ _) | (with_reducible refine below_set_on ?_ (by first | (simp; done) | (simp; omega) | omega) _)))⟩
    · have e : chE r v s n = ckV n v s := by unfold chE; rw [if_neg (by simpa using h1), if_pos h2]
      rw [e, show orN (ckV n v s) n = 0 from if_neg h2, show orN (ckV n v s) v = 0 from if_neg h2, show orN (ckV n v s) s = 0 from if_neg h2]
      exact ch_bad r v s n n v s _ h2 (fun w => tt_wanted_ok r v s n h1 w) w
  · have e : chE r v s n = ckV r v s := by unfold chE; rw [if_pos h1]
    rw [e, show orN (ckV r v s) n = 0 from if_neg h1, show orN (ckV r v s) v = 0 from if_neg h1, show orN (ckV r v s) s = 0 from if_neg h1]
    exact ch_bad r v s n 0 0 0 _ h1 (fun w => tt_wanted_no r v s n h1 w) w

/-- What Towards answers. -/
def twL (r v s n : Int) : List Int := if ckV r v s = 0 ∧ ckV n v s = 0 then wayL 8 r n else []
def twE (r v s n : Int) : Int := if ckV r v s ≠ 0 then ckV r v s else ckV n v s
theorem tw_bad (r v s n a b c E : Int) (hE : E ≠ 0) (HW : ∀ w, Calls Try.prog 55 #[.agg #[.int .i64 r, .int .i64 v, .int .i64 s], .int .i64 n] w fun e w' => e = .returned (.agg #[.int .i64 a, .int .i64 b, .int .i64 c, .int .i64 E]) ∧ Below w.heap.size w w') (w : World) :
    Calls Try.prog 37 #[.agg #[.int .i64 r, .int .i64 v, .int .i64 s], .int .i64 n] w fun e w' => e = .returned (.tuple #[.slice none 0 0, .int .i64 E]) ∧ Below w.heap.size w w' := by
  have A : Below w.heap.size w w := Below.refl _ _
  have HV := Lib.hid (fun w => tt_way_no r a b c E hE w)
  have HT := Lib.hid (fun w => tt_told_l none 0 0 E w)
  rw [if_neg hE] at HT
  have HW := Lib.hid HW
  clear hE
  go_enter Try.func37, Try.ntmps37
  go_wp2
  refine wp_region_calm (by kernel_rfl) (by kernel_rfl) ?_
  repeat (go_big_quiet_step ((first | ((go_at_call 55; exact calm_of _ (HW.out _))) | ((go_at_call 59; exact calm_of _ (HV.out _))) | ((go_at_call 60; exact calm_of _ (HT.out _))))))
  refine wpQuiet_nil ?_
  intro _ hw'
  obtain ⟨u, rfl⟩ := hw'
  go_wp2
  all_goals go_ret2
  all_goals exact ⟨rfl, by (repeat (first | (with_reducible exact Below.refl _ _) | (with_reducible assumption) | (with_reducible refine Near.up _ ?_) | (with_reducible refine Below.drew ?_) | (with_reducible refine below_alloc_on ?_ _) | (with_reducible refine below_set_on ?_ (by first | (simp; done) | (simp; omega) | omega) _)))⟩
theorem tw_good (r v s n : Int) (h1 : ckV r v s = 0) (h2 : ckV n v s = 0) (w : World) :
    Calls Try.prog 37 #[.agg #[.int .i64 r, .int .i64 v, .int .i64 s], .int .i64 n] w fun e w' => ∃ B d, e = .returned (.tuple #[.slice B (wayL 8 r n).length d, .int .i64 0]) ∧ (wayL 8 r n).length ≤ d ∧ Ints w' B (wayL 8 r n).length (wayL 8 r n) ∧ Below w.heap.size w w' := by
  obtain ⟨_, r0, r1, _, _, _⟩ := ck_ok h1
  obtain ⟨_, n0, n1, _, _, _⟩ := ck_ok h2
  have A : Below w.heap.size w w := Below.refl _ _
  have HW := Lib.hid (fun w => tt_wanted_ok r v s n h1 w)
  rw [h2] at HW
  have HV := Lib.hid (fun w => tt_way r v s n r0 r1 n0 n1 w)
  have HT := Lib.hid (fun A k c w => tt_told_l A k c 0 w)
  generalize wayL 8 r n = Y at *
  clear h1 h2 r0 r1 n0 n1
  go_enter Try.func37, Try.ntmps37
  go_upto_region 1 with fail
  have X1 : Bx w w.heap.size #[.int .i64 r, .int .i64 v, .int .i64 s] (w.alloc (.cells #[.int .i64 r, .int .i64 v, .int .i64 s] 50)) := ⟨box_new _ _ _, below_alloc_on A _, Nat.le_refl _⟩
  go_region_held3 (fun w' => w'.cell? ⟨w.heap.size, 0, none⟩ = some (.int .i64 r) ∧ w'.cell? ⟨w.heap.size, 1, none⟩ = some (.int .i64 v) ∧ w'.cell? ⟨w.heap.size, 2, none⟩ = some (.int .i64 s) ∧ w.heap.size < w'.heap.size ∧ Bx w w.heap.size #[.int .i64 r, .int .i64 v, .int .i64 s] w')
    ((exact ⟨Bx.cell (W := w) (g := w.heap.size) (cs := #[.int .i64 r, .int .i64 v, .int .i64 s]) (by (repeat (first | assumption | (exact (by assumption : (_ : World).cell? ⟨w.heap.size, 0, none⟩ = some (.int .i64 r) ∧ (_ : World).cell? ⟨w.heap.size, 1, none⟩ = some (.int .i64 v) ∧ (_ : World).cell? ⟨w.heap.size, 2, none⟩ = some (.int .i64 s) ∧ w.heap.size < (_ : World).heap.size ∧ Bx w w.heap.size #[.int .i64 r, .int .i64 v, .int .i64 s] (_ : World)).2.2.2.2) | (refine Bx.call ?_ hb) | (refine Bx.drew ?_) | (refine Bx.alloc ?_ _) | (refine Bx.far2 ?_ (by first | (simp; done) | (simp; omega) | omega) (by first | (simp; done) | (simp; omega) | omega) _)))) 0 _ rfl, Bx.cell (W := w) (g := w.heap.size) (cs := #[.int .i64 r, .int .i64 v, .int .i64 s]) (by (repeat (first | assumption | (exact (by assumption : (_ : World).cell? ⟨w.heap.size, 0, none⟩ = some (.int .i64 r) ∧ (_ : World).cell? ⟨w.heap.size, 1, none⟩ = some (.int .i64 v) ∧ (_ : World).cell? ⟨w.heap.size, 2, none⟩ = some (.int .i64 s) ∧ w.heap.size < (_ : World).heap.size ∧ Bx w w.heap.size #[.int .i64 r, .int .i64 v, .int .i64 s] (_ : World)).2.2.2.2) | (refine Bx.call ?_ hb) | (refine Bx.drew ?_) | (refine Bx.alloc ?_ _) | (refine Bx.far2 ?_ (by first | (simp; done) | (simp; omega) | omega) (by first | (simp; done) | (simp; omega) | omega) _)))) 1 _ rfl, Bx.cell (W := w) (g := w.heap.size) (cs := #[.int .i64 r, .int .i64 v, .int .i64 s]) (by (repeat (first | assumption | (exact (by assumption : (_ : World).cell? ⟨w.heap.size, 0, none⟩ = some (.int .i64 r) ∧ (_ : World).cell? ⟨w.heap.size, 1, none⟩ = some (.int .i64 v) ∧ (_ : World).cell? ⟨w.heap.size, 2, none⟩ = some (.int .i64 s) ∧ w.heap.size < (_ : World).heap.size ∧ Bx w w.heap.size #[.int .i64 r, .int .i64 v, .int .i64 s] (_ : World)).2.2.2.2) | (refine Bx.call ?_ hb) | (refine Bx.drew ?_) | (refine Bx.alloc ?_ _) | (refine Bx.far2 ?_ (by first | (simp; done) | (simp; omega) | omega) (by first | (simp; done) | (simp; omega) | omega) _)))) 2 _ rfl, Bx.lt (W := w) (g := w.heap.size) (cs := #[.int .i64 r, .int .i64 v, .int .i64 s]) (by (repeat (first | assumption | (exact (by assumption : (_ : World).cell? ⟨w.heap.size, 0, none⟩ = some (.int .i64 r) ∧ (_ : World).cell? ⟨w.heap.size, 1, none⟩ = some (.int .i64 v) ∧ (_ : World).cell? ⟨w.heap.size, 2, none⟩ = some (.int .i64 s) ∧ w.heap.size < (_ : World).heap.size ∧ Bx w w.heap.size #[.int .i64 r, .int .i64 v, .int .i64 s] (_ : World)).2.2.2.2) | (refine Bx.call ?_ hb) | (refine Bx.drew ?_) | (refine Bx.alloc ?_ _) | (refine Bx.far2 ?_ (by first | (simp; done) | (simp; omega) | omega) (by first | (simp; done) | (simp; omega) | omega) _)))), (by (repeat (first | assumption | (exact (by assumption : (_ : World).cell? ⟨w.heap.size, 0, none⟩ = some (.int .i64 r) ∧ (_ : World).cell? ⟨w.heap.size, 1, none⟩ = some (.int .i64 v) ∧ (_ : World).cell? ⟨w.heap.size, 2, none⟩ = some (.int .i64 s) ∧ w.heap.size < (_ : World).heap.size ∧ Bx w w.heap.size #[.int .i64 r, .int .i64 v, .int .i64 s] (_ : World)).2.2.2.2) | (refine Bx.call ?_ hb) | (refine Bx.drew ?_) | (refine Bx.alloc ?_ _) | (refine Bx.far2 ?_ (by first | (simp; done) | (simp; omega) | omega) (by first | (simp; done) | (simp; omega) | omega) _))))⟩))
    (first | (go_at_call 55; refine (HW.out _).mono ?_; rintro e w1 ⟨rfl, hb⟩) | (go_at_call 59; refine (HV.out _).mono ?_; rintro e w2 ⟨B, d, rfl, hd, hi, hb⟩) | (go_at_call 60; refine (HT.out _ _ _ _).mono ?_; rintro e w3 ⟨rfl, hb⟩; have hi3 := hi.below hb; have Y0 : Bx w w.heap.size #[.int .i64 r, .int .i64 v, .int .i64 s] w3 := (by (repeat (first | assumption | (exact (by assumption : (_ : World).cell? ⟨w.heap.size, 0, none⟩ = some (.int .i64 r) ∧ (_ : World).cell? ⟨w.heap.size, 1, none⟩ = some (.int .i64 v) ∧ (_ : World).cell? ⟨w.heap.size, 2, none⟩ = some (.int .i64 s) ∧ w.heap.size < (_ : World).heap.size ∧ Bx w w.heap.size #[.int .i64 r, .int .i64 v, .int .i64 s] (_ : World)).2.2.2.2) | (refine Bx.call ?_ hb) | (refine Bx.drew ?_) | (refine Bx.alloc ?_ _) | (refine Bx.far2 ?_ (by first | (simp; done) | (simp; omega) | omega) (by first | (simp; done) | (simp; omega) | omega) _)))); have y0 := Y0.lt; have A3 := Y0.bel))
  all_goals go_wp2
  all_goals go_ret2
  all_goals exact ⟨_, _, rfl, hd, hi3, by (repeat (first | (with_reducible exact Below.refl _ _) | (with_reducible assumption) | (with_reducible refine Near.up _ ?_) | (with_reducible refine Below.drew ?_) | (with_reducible refine below_alloc_on ?_ _) | (with_reducible refine below_set_on ?_ (by first | (simp; done) | (simp; omega) | omega) _)))⟩
end Go.Proofs.Ythijabhnmjbboaa
