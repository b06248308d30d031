/- The document's answers for package titrate, and the law package's own check. -/
import Derived.Test.YthijabhnmjbboaaTitC
import Derived.Test.YthijabhnmjbboaaRead
import Derived.Test.YthijabhnmjbboaaLaw4
namespace Go.Proofs.Ythijabhnmjbboaa
open Go.RowKit
set_option linter.unusedVariables false
set_option linter.unusedSimpArgs false
attribute [local go_sem] cell_set_ite Near.cell Near.frozen

theorem ints_nil (w : World) (A : Option Addr) : Ints w A 0 [] := ⟨rfl, fun h => absurd h (by omega)⟩
/-- What both answer of the way. -/
theorem tt_towards (r v s n : Int) (w : World) : Calls Try.prog 37 #[.agg #[.int .i64 r, .int .i64 v, .int .i64 s], .int .i64 n] w fun e w' => ∃ B d, e = .returned (.tuple #[.slice B (twL r v s n).length d, .int .i64 (twE r v s n)]) ∧ (twL r v s n).length ≤ d ∧ Ints w' B (twL r v s n).length (twL r v s n) ∧ Below w.heap.size w w' := by
  unfold twL twE
  by_cases h1 : ckV r v s = 0
  · by_cases h2 : ckV n v s = 0
    · rw [if_pos ⟨h1, h2⟩, if_neg (by simpa using h1), h2]
      exact tw_good r v s n h1 h2 w
    · rw [if_neg (by simp [h2]), if_neg (by simpa using h1)]
      exact (tw_bad r v s n n v s _ h2 (fun w => tt_wanted_ok r v s n h1 w) w).mono fun e w' ⟨he, hb⟩ => ⟨none, 0, he, Nat.le_refl _, ints_nil _ _, hb⟩
  · rw [if_neg (by simp [h1]), if_pos h1]
    exact (tw_bad r v s n 0 0 0 _ h1 (fun w => tt_wanted_no r v s n h1 w) w).mono fun e w' ⟨he, hb⟩ => ⟨none, 0, he, Nat.le_refl _, ints_nil _ _, hb⟩

theorem rt_change (r v s n : Int) (w : World) : Calls Try.prog 36 #[.agg #[.int .i64 r, .int .i64 v, .int .i64 s], .int .i64 n] w fun e w' =>
    e = .returned (.tuple #[.agg #[.int .i64 (orN (chE r v s n) n), .int .i64 (orN (chE r v s n) v), .int .i64 (orN (chE r v s n) s)], .int .i64 (chE r v s n)]) ∧ Below w.heap.size w w' := by
  have A : Below w.heap.size w w := Below.refl _ _
  have HC := Lib.hid (fun w => rp_check r v s w)
  have HD := Lib.hid (fun w => rp_check n v s w)
  by_cases h1 : ckV r v s = 0
  · rw [h1] at HC
    by_cases h2 : ckV n v s = 0
    · rw [h2] at HD
      obtain ⟨_, r0, r1, _, _, _⟩ := ck_ok h1
      obtain ⟨_, n0, n1, _, _, _⟩ := ck_ok h2
      have hst := st_iff (r := r) (n := n) r0 n0
      by_cases h3 : n = stV r n
      · have e : chE r v s n = 0 := by unfold chE; rw [if_neg (by simpa using h1), if_neg (by simpa using h2), if_pos h3]
        rw [e, show ∀ a, orN 0 a = a from fun a => rfl, show ∀ a, orN 0 a = a from fun a => rfl, show ∀ a, orN 0 a = a from fun a => rfl]
        have h4 := hst.1 h3
        have t1 : decide (2 * r < n) = false := decide_eq_false (by omega)
        have t2 : decide (2 * n < r) = false := decide_eq_false (by omega)
        clear h1 h2 h3 hst e h4
        go_enter Try.func36, Try.ntmps36
        go_wp2_with (fail)
        refine (HC.out _).mono ?_
        rintro e w1 ⟨rfl, hb⟩
        replace A : Below w.heap.size w w1 := by (refine below_call ?_ hb; (repeat (first | (with_reducible exact Below.refl _ _) | (with_reducible assumption) | (with_reducible refine Near.up _ ?_) | (with_reducible refine Below.drew ?_) | (with_reducible refine below_alloc_on ?_ _) | (with_reducible refine below_set_on ?_ (by first | (simp; done) | (simp; omega) | omega) _))))
        replace P := Box.below (g := w.heap.size) (by (repeat (first | (with_reducible assumption) | (with_reducible exact box_new _ _ _) | ((with_reducible apply box_at); (first | (with_reducible rfl) | (simp <;> omega))) | (with_reducible apply Box.drew) | (with_reducible apply Box.drewN) | (with_reducible apply Box.near) | (with_reducible apply Box.alloc) | ((with_reducible apply box_far); (first | assumption | omega | (simp <;> omega))) | ((with_reducible apply Box.one_set); (with_reducible assumption)) | ((with_reducible apply Box.two_set); (with_reducible assumption)) | ((with_reducible apply Box.three_set); (with_reducible assumption)) | (with_reducible apply Box.set) | (simp only [List.size_toArray, List.length_cons, List.length_nil, Array.size_setIfInBounds] <;> omega)))) hb
        (try simp only [List.setIfInBounds_toArray, List.set_cons_zero, List.set_cons_succ] at P)
        (try clear cP fP)
        replace Q := Box.below (g := w.heap.size + 1) (by (repeat (first | (with_reducible assumption) | (with_reducible exact box_new _ _ _) | ((with_reducible apply box_at); (first | (with_reducible rfl) | (simp <;> omega))) | (with_reducible apply Box.drew) | (with_reducible apply Box.drewN) | (with_reducible apply Box.near) | (with_reducible apply Box.alloc) | ((with_reducible apply box_far); (first | assumption | omega | (simp <;> omega))) | ((with_reducible apply Box.one_set); (with_reducible assumption)) | ((with_reducible apply Box.two_set); (with_reducible assumption)) | ((with_reducible apply Box.three_set); (with_reducible assumption)) | (with_reducible apply Box.set) | (simp only [List.size_toArray, List.length_cons, List.length_nil, Array.size_setIfInBounds] <;> omega)))) hb
        (try simp only [List.setIfInBounds_toArray, List.set_cons_zero, List.set_cons_succ] at Q)
        (try clear cQ fQ)
        clear hb
        have z_w1 : w.heap.size ≤ w1.heap.size := A.size
        obtain ⟨lP_w1, cP, fP⟩ := id P
        obtain ⟨lQ_w1, cQ, fQ⟩ := id Q
        go_wp2_with (fail)
        refine (HD.out _).mono ?_
        rintro e w2 ⟨rfl, hb⟩
        replace A : Below w.heap.size w w2 := by (refine below_call ?_ hb; (repeat (first | (with_reducible exact Below.refl _ _) | (with_reducible assumption) | (with_reducible refine Near.up _ ?_) | (with_reducible refine Below.drew ?_) | (with_reducible refine below_alloc_on ?_ _) | (with_reducible refine below_set_on ?_ (by first | (simp; done) | (simp; omega) | omega) _))))
        replace P := Box.below (g := w.heap.size) (by (repeat (first | (with_reducible assumption) | (with_reducible exact box_new _ _ _) | ((with_reducible apply box_at); (first | (with_reducible rfl) | (simp <;> omega))) | (with_reducible apply Box.drew) | (with_reducible apply Box.drewN) | (with_reducible apply Box.near) | (with_reducible apply Box.alloc) | ((with_reducible apply box_far); (first | assumption | omega | (simp <;> omega))) | ((with_reducible apply Box.one_set); (with_reducible assumption)) | ((with_reducible apply Box.two_set); (with_reducible assumption)) | ((with_reducible apply Box.three_set); (with_reducible assumption)) | (with_reducible apply Box.set) | (simp only [List.size_toArray, List.length_cons, List.length_nil, Array.size_setIfInBounds] <;> omega)))) hb
        (try simp only [List.setIfInBounds_toArray, List.set_cons_zero, List.set_cons_succ] at P)
        (try clear cP fP)
        replace Q := Box.below (g := w.heap.size + 1) (by (repeat (first | (with_reducible assumption) | (with_reducible exact box_new _ _ _) | ((with_reducible apply box_at); (first | (with_reducible rfl) | (simp <;> omega))) | (with_reducible apply Box.drew) | (with_reducible apply Box.drewN) | (with_reducible apply Box.near) | (with_reducible apply Box.alloc) | ((with_reducible apply box_far); (first | assumption | omega | (simp <;> omega))) | ((with_reducible apply Box.one_set); (with_reducible assumption)) | ((with_reducible apply Box.two_set); (with_reducible assumption)) | ((with_reducible apply Box.three_set); (with_reducible assumption)) | (with_reducible apply Box.set) | (simp only [List.size_toArray, List.length_cons, List.length_nil, Array.size_setIfInBounds] <;> omega)))) hb
        (try simp only [List.setIfInBounds_toArray, List.set_cons_zero, List.set_cons_succ] at Q)
        (try clear cQ fQ)
        replace N := Box.below (g := w1.heap.size) (by (repeat (first | (with_reducible assumption) | (with_reducible exact box_new _ _ _) | ((with_reducible apply box_at); (first | (with_reducible rfl) | (simp <;> omega))) | (with_reducible apply Box.drew) | (with_reducible apply Box.drewN) | (with_reducible apply Box.near) | (with_reducible apply Box.alloc) | ((with_reducible apply box_far); (first | assumption | omega | (simp <;> omega))) | ((with_reducible apply Box.one_set); (with_reducible assumption)) | ((with_reducible apply Box.two_set); (with_reducible assumption)) | ((with_reducible apply Box.three_set); (with_reducible assumption)) | (with_reducible apply Box.set) | (simp only [List.size_toArray, List.length_cons, List.length_nil, Array.size_setIfInBounds] <;> omega)))) hb
        (try simp only [List.setIfInBounds_toArray, List.set_cons_zero, List.set_cons_succ] at N)
        (try clear cN fN)
        clear hb
        have z_w2 : w.heap.size ≤ w2.heap.size := A.size
        obtain ⟨lP_w2, cP, fP⟩ := id P
        obtain ⟨lQ_w2, cQ, fQ⟩ := id Q
        obtain ⟨lN_w2, cN, fN⟩ := id N
        go_wp2
        refine bodyPost_ret (v := .tuple #[.agg #[.int .i64 n, .int .i64 v, .int .i64 s], .int .i64 0]) (by simp [results, Try.results36, go_sem, cQ]) rfl ⟨rfl, by (repeat (first | (with_reducible exact Below.refl _ _) | (with_reducible assumption) | (with_reducible refine Near.up _ ?_) | (with_reducible refine Below.drew ?_) | (with_reducible refine below_alloc_on ?_ _) | (with_reducible refine below_set_on ?_ (by first | (simp; done) | (simp; omega) | omega) _)))⟩
      · have e : chE r v s n = 14 := by unfold chE; rw [if_neg (by simpa using h1), if_neg (by simpa using h2), if_neg h3]
        rw [e, show ∀ a, orN 14 a = 0 from fun a => rfl, show ∀ a, orN 14 a = 0 from fun a => rfl, show ∀ a, orN 14 a = 0 from fun a => rfl]
        have h4 : r * 2 < n ∨ n * 2 < r := by
          rcases Classical.em (r * 2 < n ∨ n * 2 < r) with h | h
          · exact h
          · exact absurd (hst.2 h) h3
        clear h1 h2 h3 hst e
        rcases (by omega : 2 * r < n ∨ (n ≤ 2 * r ∧ 2 * n < r)) with h | ⟨h, h5⟩
        · have t1 : decide (2 * r < n) = true := decide_eq_true h
          go_enter Try.func36, Try.ntmps36
          go_wp2_with (fail)
          refine (HC.out _).mono ?_
          rintro e w1 ⟨rfl, hb⟩
          replace A : Below w.heap.size w w1 := by (refine below_call ?_ hb; (repeat (first | (with_reducible exact Below.refl _ _) | (with_reducible assumption) | (with_reducible refine Near.up _ ?_) | (with_reducible refine Below.drew ?_) | (with_reducible refine below_alloc_on ?_ _) | (with_reducible refine below_set_on ?_ (by first | (simp; done) | (simp; omega) | omega) _))))
          replace P := Box.below (g := w.heap.size) (by (repeat (first | (with_reducible assumption) | (with_reducible exact box_new _ _ _) | ((with_reducible apply box_at); (first | (with_reducible rfl) | (simp <;> omega))) | (with_reducible apply Box.drew) | (with_reducible apply Box.drewN) | (with_reducible apply Box.near) | (with_reducible apply Box.alloc) | ((with_reducible apply box_far); (first | assumption | omega | (simp <;> omega))) | ((with_reducible apply Box.one_set); (with_reducible assumption)) | ((with_reducible apply Box.two_set); (with_reducible assumption)) | ((with_reducible apply Box.three_set); (with_reducible assumption)) | (with_reducible apply Box.set) | (simp only [List.size_toArray, List.length_cons, List.length_nil, Array.size_setIfInBounds] <;> omega)))) hb
          (try simp only [List.setIfInBounds_toArray, List.set_cons_zero, List.set_cons_succ] at P)
          (try clear cP fP)
          replace Q := Box.below (g := w.heap.size + 1) (by (repeat (first | (with_reducible assumption) | (with_reducible exact box_new _ _ _) | ((with_reducible apply box_at); (first | (with_reducible rfl) | (simp <;> omega))) | (with_reducible apply Box.drew) | (with_reducible apply Box.drewN) | (with_reducible apply Box.near) | (with_reducible apply Box.alloc) | ((with_reducible apply box_far); (first | assumption | omega | (simp <;> omega))) | ((with_reducible apply Box.one_set); (with_reducible assumption)) | ((with_reducible apply Box.two_set); (with_reducible assumption)) | ((with_reducible apply Box.three_set); (with_reducible assumption)) | (with_reducible apply Box.set) | (simp only [List.size_toArray, List.length_cons, List.length_nil, Array.size_setIfInBounds] <;> omega)))) hb
          (try simp only [List.setIfInBounds_toArray, List.set_cons_zero, List.set_cons_succ] at Q)
          (try clear cQ fQ)
          clear hb
          have z_w1 : w.heap.size ≤ w1.heap.size := A.size
          obtain ⟨lP_w1, cP, fP⟩ := id P
          obtain ⟨lQ_w1, cQ, fQ⟩ := id Q
          go_wp2_with (fail)
          refine (HD.out _).mono ?_
          rintro e w2 ⟨rfl, hb⟩
          replace A : Below w.heap.size w w2 := by (refine below_call ?_ hb; (repeat (first | (with_reducible exact Below.refl _ _) | (with_reducible assumption) | (with_reducible refine Near.up _ ?_) | (with_reducible refine Below.drew ?_) | (with_reducible refine below_alloc_on ?_ _) | (with_reducible refine below_set_on ?_ (by first | (simp; done) | (simp; omega) | omega) _))))
          replace P := Box.below (g := w.heap.size) (by (repeat (first | (with_reducible assumption) | (with_reducible exact box_new _ _ _) | ((with_reducible apply box_at); (first | (with_reducible rfl) | (simp <;> omega))) | (with_reducible apply Box.drew) | (with_reducible apply Box.drewN) | (with_reducible apply Box.near) | (with_reducible apply Box.alloc) | ((with_reducible apply box_far); (first | assumption | omega | (simp <;> omega))) | ((with_reducible apply Box.one_set); (with_reducible assumption)) | ((with_reducible apply Box.two_set); (with_reducible assumption)) | ((with_reducible apply Box.three_set); (with_reducible assumption)) | (with_reducible apply Box.set) | (simp only [List.size_toArray, List.length_cons, List.length_nil, Array.size_setIfInBounds] <;> omega)))) hb
          (try simp only [List.setIfInBounds_toArray, List.set_cons_zero, List.set_cons_succ] at P)
          (try clear cP fP)
          replace Q := Box.below (g := w.heap.size + 1) (by (repeat (first | (with_reducible assumption) | (with_reducible exact box_new _ _ _) | ((with_reducible apply box_at); (first | (with_reducible rfl) | (simp <;> omega))) | (with_reducible apply Box.drew) | (with_reducible apply Box.drewN) | (with_reducible apply Box.near) | (with_reducible apply Box.alloc) | ((with_reducible apply box_far); (first | assumption | omega | (simp <;> omega))) | ((with_reducible apply Box.one_set); (with_reducible assumption)) | ((with_reducible apply Box.two_set); (with_reducible assumption)) | ((with_reducible apply Box.three_set); (with_reducible assumption)) | (with_reducible apply Box.set) | (simp only [List.size_toArray, List.length_cons, List.length_nil, Array.size_setIfInBounds] <;> omega)))) hb
          (try simp only [List.setIfInBounds_toArray, List.set_cons_zero, List.set_cons_succ] at Q)
          (try clear cQ fQ)
          replace N := Box.below (g := w1.heap.size) (by (repeat (first | (with_reducible assumption) | (with_reducible exact box_new _ _ _) | ((with_reducible apply box_at); (first | (with_reducible rfl) | (simp <;> omega))) | (with_reducible apply Box.drew) | (with_reducible apply Box.drewN) | (with_reducible apply Box.near) | (with_reducible apply Box.alloc) | ((with_reducible apply box_far); (first | assumption | omega | (simp <;> omega))) | ((with_reducible apply Box.one_set); (with_reducible assumption)) | ((with_reducible apply Box.two_set); (with_reducible assumption)) | ((with_reducible apply Box.three_set); (with_reducible assumption)) | (with_reducible apply Box.set) | (simp only [List.size_toArray, List.length_cons, List.length_nil, Array.size_setIfInBounds] <;> omega)))) hb
          (try simp only [List.setIfInBounds_toArray, List.set_cons_zero, List.set_cons_succ] at N)
          (try clear cN fN)
          clear hb
          have z_w2 : w.heap.size ≤ w2.heap.size := A.size
          obtain ⟨lP_w2, cP, fP⟩ := id P
          obtain ⟨lQ_w2, cQ, fQ⟩ := id Q
          obtain ⟨lN_w2, cN, fN⟩ := id N
          go_wp2
          refine bodyPost_ret (v := .tuple #[.agg #[.int .i64 0, .int .i64 0, .int .i64 0], .int .i64 14]) (by simp [results, Try.results36, go_sem, cQ]) rfl ⟨rfl, by (repeat (first | (with_reducible exact Below.refl _ _) | (with_reducible assumption) | (with_reducible refine Near.up _ ?_) | (with_reducible refine Below.drew ?_) | (with_reducible refine below_alloc_on ?_ _) | (with_reducible refine below_set_on ?_ (by first | (simp; done) | (simp; omega) | omega) _)))⟩
        · have t1 : decide (2 * r < n) = false := decide_eq_false (by omega)
          have t2 : decide (2 * n < r) = true := decide_eq_true h5
          go_enter Try.func36, Try.ntmps36
          go_wp2_with (fail)
          refine (HC.out _).mono ?_
          rintro e w1 ⟨rfl, hb⟩
          replace A : Below w.heap.size w w1 := by (refine below_call ?_ hb; (repeat (first | (with_reducible exact Below.refl _ _) | (with_reducible assumption) | (with_reducible refine Near.up _ ?_) | (with_reducible refine Below.drew ?_) | (with_reducible refine below_alloc_on ?_ _) | (with_reducible refine below_set_on ?_ (by first | (simp; done) | (simp; omega) | omega) _))))
          replace P := Box.below (g := w.heap.size) (by (repeat (first | (with_reducible assumption) | (with_reducible exact box_new _ _ _) | ((with_reducible apply box_at); (first | (with_reducible rfl) | (simp <;> omega))) | (with_reducible apply Box.drew) | (with_reducible apply Box.drewN) | (with_reducible apply Box.near) | (with_reducible apply Box.alloc) | ((with_reducible apply box_far); (first | assumption | omega | (simp <;> omega))) | ((with_reducible apply Box.one_set); (with_reducible assumption)) | ((with_reducible apply Box.two_set); (with_reducible assumption)) | ((with_reducible apply Box.three_set); (with_reducible assumption)) | (with_reducible apply Box.set) | (simp only [List.size_toArray, List.length_cons, List.length_nil, Array.size_setIfInBounds] <;> omega)))) hb
          (try simp only [List.setIfInBounds_toArray, List.set_cons_zero, List.set_cons_succ] at P)
          (try clear cP fP)
          replace Q := Box.below (g := w.heap.size + 1) (by (repeat (first | (with_reducible assumption) | (with_reducible exact box_new _ _ _) | ((with_reducible apply box_at); (first | (with_reducible rfl) | (simp <;> omega))) | (with_reducible apply Box.drew) | (with_reducible apply Box.drewN) | (with_reducible apply Box.near) | (with_reducible apply Box.alloc) | ((with_reducible apply box_far); (first | assumption | omega | (simp <;> omega))) | ((with_reducible apply Box.one_set); (with_reducible assumption)) | ((with_reducible apply Box.two_set); (with_reducible assumption)) | ((with_reducible apply Box.three_set); (with_reducible assumption)) | (with_reducible apply Box.set) | (simp only [List.size_toArray, List.length_cons, List.length_nil, Array.size_setIfInBounds] <;> omega)))) hb
          (try simp only [List.setIfInBounds_toArray, List.set_cons_zero, List.set_cons_succ] at Q)
          (try clear cQ fQ)
          clear hb
          have z_w1 : w.heap.size ≤ w1.heap.size := A.size
          obtain ⟨lP_w1, cP, fP⟩ := id P
          obtain ⟨lQ_w1, cQ, fQ⟩ := id Q
          go_wp2_with (fail)
          refine (HD.out _).mono ?_
          rintro e w2 ⟨rfl, hb⟩
          replace A : Below w.heap.size w w2 := by (refine below_call ?_ hb; (repeat (first | (with_reducible exact Below.refl _ _) | (with_reducible assumption) | (with_reducible refine Near.up _ ?_) | (with_reducible refine Below.drew ?_) | (with_reducible refine below_alloc_on ?_ _) | (with_reducible refine below_set_on ?_ (by first | (simp; done) | (simp; omega) | omega) _))))
          replace P := Box.below (g := w.heap.size) (by (repeat (first | (with_reducible assumption) | (with_reducible exact box_new _ _ _) | ((with_reducible apply box_at); (first | (with_reducible rfl) | (simp <;> omega))) | (with_reducible apply Box.drew) | (with_reducible apply Box.drewN) | (with_reducible apply Box.near) | (with_reducible apply Box.alloc) | ((with_reducible apply box_far); (first | assumption | omega | (simp <;> omega))) | ((with_reducible apply Box.one_set); (with_reducible assumption)) | ((with_reducible apply Box.two_set); (with_reducible assumption)) | ((with_reducible apply Box.three_set); (with_reducible assumption)) | (with_reducible apply Box.set) | (simp only [List.size_toArray, List.length_cons, List.length_nil, Array.size_setIfInBounds] <;> omega)))) hb
          (try simp only [List.setIfInBounds_toArray, List.set_cons_zero, List.set_cons_succ] at P)
          (try clear cP fP)
          replace Q := Box.below (g := w.heap.size + 1) (by (repeat (first | (with_reducible assumption) | (with_reducible exact box_new _ _ _) | ((with_reducible apply box_at); (first | (with_reducible rfl) | (simp <;> omega))) | (with_reducible apply Box.drew) | (with_reducible apply Box.drewN) | (with_reducible apply Box.near) | (with_reducible apply Box.alloc) | ((with_reducible apply box_far); (first | assumption | omega | (simp <;> omega))) | ((with_reducible apply Box.one_set); (with_reducible assumption)) | ((with_reducible apply Box.two_set); (with_reducible assumption)) | ((with_reducible apply Box.three_set); (with_reducible assumption)) | (with_reducible apply Box.set) | (simp only [List.size_toArray, List.length_cons, List.length_nil, Array.size_setIfInBounds] <;> omega)))) hb
          (try simp only [List.setIfInBounds_toArray, List.set_cons_zero, List.set_cons_succ] at Q)
          (try clear cQ fQ)
          replace N := Box.below (g := w1.heap.size) (by (repeat (first | (with_reducible assumption) | (with_reducible exact box_new _ _ _) | ((with_reducible apply box_at); (first | (with_reducible rfl) | (simp <;> omega))) | (with_reducible apply Box.drew) | (with_reducible apply Box.drewN) | (with_reducible apply Box.near) | (with_reducible apply Box.alloc) | ((with_reducible apply box_far); (first | assumption | omega | (simp <;> omega))) | ((with_reducible apply Box.one_set); (with_reducible assumption)) | ((with_reducible apply Box.two_set); (with_reducible assumption)) | ((with_reducible apply Box.three_set); (with_reducible assumption)) | (with_reducible apply Box.set) | (simp only [List.size_toArray, List.length_cons, List.length_nil, Array.size_setIfInBounds] <;> omega)))) hb
          (try simp only [List.setIfInBounds_toArray, List.set_cons_zero, List.set_cons_succ] at N)
          (try clear cN fN)
          clear hb
          have z_w2 : w.heap.size ≤ w2.heap.size := A.size
          obtain ⟨lP_w2, cP, fP⟩ := id P
          obtain ⟨lQ_w2, cQ, fQ⟩ := id Q
          obtain ⟨lN_w2, cN, fN⟩ := id N
          go_wp2
          refine bodyPost_ret (v := .tuple #[.agg #[.int .i64 0, .int .i64 0, .int .i64 0], .int .i64 14]) (by simp [results, Try.results36, go_sem, cQ]) rfl ⟨rfl, by (repeat (first | (with_reducible exact Below.refl _ _) | (with_reducible assumption) | (with_reducible refine Near.up _ ?_) | (with_reducible refine Below.drew ?_) | (with_reducible refine below_alloc_on ?_ _) | (with_reducible refine below_set_on ?_ (by first | (simp; done) | (simp; omega) | omega) _)))⟩
    · have e : chE r v s n = ckV n v s := by unfold chE; rw [if_neg (by simpa using h1), if_pos h2]
      rw [e, show orN (ckV n v s) n = 0 from if_neg h2, show orN (ckV n v s) v = 0 from if_neg h2, show orN (ckV n v s) s = 0 from if_neg h2]
      generalize ckV n v s = E at *
      have t2 : (E != 0) = true := by simpa using h2
      clear h1 h2 e
      go_enter Try.func36, Try.ntmps36
      go_wp2_with (fail)
      refine (HC.out _).mono ?_
      rintro e w1 ⟨rfl, hb⟩
      replace A : Below w.heap.size w w1 := by (refine below_call ?_ hb; (repeat (first | (with_reducible exact Below.refl _ _) | (with_reducible assumption) | (with_reducible refine Near.up _ ?_) | (with_reducible refine Below.drew ?_) | (with_reducible refine below_alloc_on ?_ _) | (with_reducible refine below_set_on ?_ (by first | (simp; done) | (simp; omega) | omega) _))))
      replace P := Box.below (g := w.heap.size) (by (repeat (first | (with_reducible assumption) | (with_reducible exact box_new _ _ _) | ((with_reducible apply box_at); (first | (with_reducible rfl) | (simp <;> omega))) | (with_reducible apply Box.drew) | (with_reducible apply Box.drewN) | (with_reducible apply Box.near) | (with_reducible apply Box.alloc) | ((with_reducible apply box_far); (first | assumption | omega | (simp <;> omega))) | ((with_reducible apply Box.one_set); (with_reducible assumption)) | ((with_reducible apply Box.two_set); (with_reducible assumption)) | ((with_reducible apply Box.three_set); (with_reducible assumption)) | (with_reducible apply Box.set) | (simp only [List.size_toArray, List.length_cons, List.length_nil, Array.size_setIfInBounds] <;> omega)))) hb
      (try simp only [List.setIfInBounds_toArray, List.set_cons_zero, List.set_cons_succ] at P)
      (try clear cP fP)
      replace Q := Box.below (g := w.heap.size + 1) (by (repeat (first | (with_reducible assumption) | (with_reducible exact box_new _ _ _) | ((with_reducible apply box_at); (first | (with_reducible rfl) | (simp <;> omega))) | (with_reducible apply Box.drew) | (with_reducible apply Box.drewN) | (with_reducible apply Box.near) | (with_reducible apply Box.alloc) | ((with_reducible apply box_far); (first | assumption | omega | (simp <;> omega))) | ((with_reducible apply Box.one_set); (with_reducible assumption)) | ((with_reducible apply Box.two_set); (with_reducible assumption)) | ((with_reducible apply Box.three_set); (with_reducible assumption)) | (with_reducible apply Box.set) | (simp only [List.size_toArray, List.length_cons, List.length_nil, Array.size_setIfInBounds] <;> omega)))) hb
      (try simp only [List.setIfInBounds_toArray, List.set_cons_zero, List.set_cons_succ] at Q)
      (try clear cQ fQ)
      clear hb
      have z_w1 : w.heap.size ≤ w1.heap.size := A.size
      obtain ⟨lP_w1, cP, fP⟩ := id P
      obtain ⟨lQ_w1, cQ, fQ⟩ := id Q
      go_wp2_with (fail)
      refine (HD.out _).mono ?_
      rintro e w2 ⟨rfl, hb⟩
      replace A : Below w.heap.size w w2 := by (refine below_call ?_ hb; (repeat (first | (with_reducible exact Below.refl _ _) | (with_reducible assumption) | (with_reducible refine Near.up _ ?_) | (with_reducible refine Below.drew ?_) | (with_reducible refine below_alloc_on ?_ _) | (with_reducible refine below_set_on ?_ (by first | (simp; done) | (simp; omega) | omega) _))))
      replace P := Box.below (g := w.heap.size) (by (repeat (first | (with_reducible assumption) | (with_reducible exact box_new _ _ _) | ((with_reducible apply box_at); (first | (with_reducible rfl) | (simp <;> omega))) | (with_reducible apply Box.drew) | (with_reducible apply Box.drewN) | (with_reducible apply Box.near) | (with_reducible apply Box.alloc) | ((with_reducible apply box_far); (first | assumption | omega | (simp <;> omega))) | ((with_reducible apply Box.one_set); (with_reducible assumption)) | ((with_reducible apply Box.two_set); (with_reducible assumption)) | ((with_reducible apply Box.three_set); (with_reducible assumption)) | (with_reducible apply Box.set) | (simp only [List.size_toArray, List.length_cons, List.length_nil, Array.size_setIfInBounds] <;> omega)))) hb
      (try simp only [List.setIfInBounds_toArray, List.set_cons_zero, List.set_cons_succ] at P)
      (try clear cP fP)
      replace Q := Box.below (g := w.heap.size + 1) (by (repeat (first | (with_reducible assumption) | (with_reducible exact box_new _ _ _) | ((with_reducible apply box_at); (first | (with_reducible rfl) | (simp <;> omega))) | (with_reducible apply Box.drew) | (with_reducible apply Box.drewN) | (with_reducible apply Box.near) | (with_reducible apply Box.alloc) | ((with_reducible apply box_far); (first | assumption | omega | (simp <;> omega))) | ((with_reducible apply Box.one_set); (with_reducible assumption)) | ((with_reducible apply Box.two_set); (with_reducible assumption)) | ((with_reducible apply Box.three_set); (with_reducible assumption)) | (with_reducible apply Box.set) | (simp only [List.size_toArray, List.length_cons, List.length_nil, Array.size_setIfInBounds] <;> omega)))) hb
      (try simp only [List.setIfInBounds_toArray, List.set_cons_zero, List.set_cons_succ] at Q)
      (try clear cQ fQ)
      replace N := Box.below (g := w1.heap.size) (by (repeat (first | (with_reducible assumption) | (with_reducible exact box_new _ _ _) | ((with_reducible apply box_at); (first | (with_reducible rfl) | (simp <;> omega))) | (with_reducible apply Box.drew) | (with_reducible apply Box.drewN) | (with_reducible apply Box.near) | (with_reducible apply Box.alloc) | ((with_reducible apply box_far); (first | assumption | omega | (simp <;> omega))) | ((with_reducible apply Box.one_set); (with_reducible assumption)) | ((with_reducible apply Box.two_set); (with_reducible assumption)) | ((with_reducible apply Box.three_set); (with_reducible assumption)) | (with_reducible apply Box.set) | (simp only [List.size_toArray, List.length_cons, List.length_nil, Array.size_setIfInBounds] <;> omega)))) hb
      (try simp only [List.setIfInBounds_toArray, List.set_cons_zero, List.set_cons_succ] at N)
      (try clear cN fN)
      clear hb
      have z_w2 : w.heap.size ≤ w2.heap.size := A.size
      obtain ⟨lP_w2, cP, fP⟩ := id P
      obtain ⟨lQ_w2, cQ, fQ⟩ := id Q
      obtain ⟨lN_w2, cN, fN⟩ := id N
      go_wp2
      refine bodyPost_ret (v := .tuple #[.agg #[.int .i64 0, .int .i64 0, .int .i64 0], .int .i64 E]) (by simp [results, Try.results36, go_sem, cQ]) rfl ⟨rfl, by (repeat (first | (with_reducible exact Below.refl _ _) | (with_reducible assumption) | (with_reducible refine Near.up _ ?_) | (with_reducible refine Below.drew ?_) | (with_reducible refine below_alloc_on ?_ _) | (with_reducible refine below_set_on ?_ (by first | (simp; done) | (simp; omega) | omega) _)))⟩
  · have e : chE r v s n = ckV r v s := by unfold chE; rw [if_pos h1]
    rw [e, show orN (ckV r v s) n = 0 from if_neg h1, show orN (ckV r v s) v = 0 from if_neg h1, show orN (ckV r v s) s = 0 from if_neg h1]
    clear HD
    generalize ckV r v s = E at *
    have t2 : (E != 0) = true := by simpa using h1
    clear h1 e
    go_enter Try.func36, Try.ntmps36
    go_wp2_with (fail)
    refine (HC.out _).mono ?_
    rintro e w1 ⟨rfl, hb⟩
    replace A : Below w.heap.size w w1 := by (refine below_call ?_ hb; (repeat (first | (with_reducible exact Below.refl _ _) | (with_reducible assumption) | (with_reducible refine Near.up _ ?_) | (with_reducible refine Below.drew ?_) | (with_reducible refine below_alloc_on ?_ _) | (with_reducible refine below_set_on ?_ (by first | (simp; done) | (simp; omega) | omega) _))))
    replace P := Box.below (g := w.heap.size) (by (repeat (first | (with_reducible assumption) | (with_reducible exact box_new _ _ _) | ((with_reducible apply box_at); (first | (with_reducible rfl) | (simp <;> omega))) | (with_reducible apply Box.drew) | (with_reducible apply Box.drewN) | (with_reducible apply Box.near) | (with_reducible apply Box.alloc) | ((with_reducible apply box_far); (first | assumption | omega | (simp <;> omega))) | ((with_reducible apply Box.one_set); (with_reducible assumption)) | ((with_reducible apply Box.two_set); (with_reducible assumption)) | ((with_reducible apply Box.three_set); (with_reducible assumption)) | (with_reducible apply Box.set) | (simp only [List.size_toArray, List.length_cons, List.length_nil, Array.size_setIfInBounds] <;> omega)))) hb
    (try simp only [List.setIfInBounds_toArray, List.set_cons_zero, List.set_cons_succ] at P)
    (try clear cP fP)
    replace Q := Box.below (g := w.heap.size + 1) (by (repeat (first | (with_reducible assumption) | (with_reducible exact box_new _ _ _) | ((with_reducible apply box_at); (first | (with_reducible rfl) | (simp <;> omega))) | (with_reducible apply Box.drew) | (with_reducible apply Box.drewN) | (with_reducible apply Box.near) | (with_reducible apply Box.alloc) | ((with_reducible apply box_far); (first | assumption | omega | (simp <;> omega))) | ((with_reducible apply Box.one_set); (with_reducible assumption)) | ((with_reducible apply Box.two_set); (with_reducible assumption)) | ((with_reducible apply Box.three_set); (with_reducible assumption)) | (with_reducible apply Box.set) | (simp only [List.size_toArray, List.length_cons, List.length_nil, Array.size_setIfInBounds] <;> omega)))) hb
    (try simp only [List.setIfInBounds_toArray, List.set_cons_zero, List.set_cons_succ] at Q)
    (try clear cQ fQ)
    clear hb
    have z_w1 : w.heap.size ≤ w1.heap.size := A.size
    obtain ⟨lP_w1, cP, fP⟩ := id P
    obtain ⟨lQ_w1, cQ, fQ⟩ := id Q
    go_wp2
    refine bodyPost_ret (v := .tuple #[.agg #[.int .i64 0, .int .i64 0, .int .i64 0], .int .i64 E]) (by simp [results, Try.results36, go_sem, cQ]) rfl ⟨rfl, by (repeat (first | (with_reducible exact Below.refl _ _) | (with_reducible assumption) | (with_reducible refine Near.up _ ?_) | (with_reducible refine Below.drew ?_) | (with_reducible refine below_alloc_on ?_ _) | (with_reducible refine below_set_on ?_ (by first | (simp; done) | (simp; omega) | omega) _)))⟩

theorem rt_towards (r v s n : Int) (w : World) : Calls Try.prog 38 #[.agg #[.int .i64 r, .int .i64 v, .int .i64 s], .int .i64 n] w fun e w' => ∃ B d, e = .returned (.tuple #[.slice B (twL r v s n).length d, .int .i64 (twE r v s n)]) ∧ (twL r v s n).length ≤ d ∧ Ints w' B (twL r v s n).length (twL r v s n) ∧ Below w.heap.size w w' := by
  have A : Below w.heap.size w w := Below.refl _ _
  have HC := Lib.hid (fun w => rp_check r v s w)
  have HD := Lib.hid (fun w => rp_check n v s w)
  unfold twL twE
  by_cases h1 : ckV r v s = 0
  · rw [h1] at HC
    by_cases h2 : ckV n v s = 0
    · rw [if_pos ⟨h1, h2⟩, if_neg (by simpa using h1), h2]
      rw [h2] at HD
      obtain ⟨_, r0, r1, _, _, _⟩ := ck_ok h1
      obtain ⟨_, n0, n1, _, _, _⟩ := ck_ok h2
      have hreach := reach_8 r0 r1 n0 n1
      obtain ⟨Y, hY⟩ : ∃ Y, wayL 8 r n = Y := ⟨_, rfl⟩
      have hl := way_len 8 r n
      rw [hY] at hl ⊢
      clear h1 h2
      go_enter Try.func38, Try.ntmps38
      go_wp2_with (fail)
      refine (HC.out _).mono ?_
      rintro e w1 ⟨rfl, hb⟩
      replace A : Below w.heap.size w w1 := by (refine below_call ?_ hb; (repeat (first | (with_reducible exact Below.refl _ _) | (with_reducible assumption) | (with_reducible refine Near.up _ ?_) | (with_reducible refine Below.drew ?_) | (with_reducible refine below_alloc_on ?_ _) | (with_reducible refine below_set_on ?_ (by first | (simp; done) | (simp; omega) | omega) _))))
      replace P := Box.below (g := w.heap.size) (by (repeat (first | (with_reducible assumption) | (with_reducible exact box_new _ _ _) | ((with_reducible apply box_at); (first | (with_reducible rfl) | (simp <;> omega))) | (with_reducible apply Box.drew) | (with_reducible apply Box.drewN) | (with_reducible apply Box.near) | (with_reducible apply Box.alloc) | ((with_reducible apply box_far); (first | assumption | omega | (simp <;> omega))) | ((with_reducible apply Box.one_set); (with_reducible assumption)) | ((with_reducible apply Box.two_set); (with_reducible assumption)) | ((with_reducible apply Box.three_set); (with_reducible assumption)) | (with_reducible apply Box.set) | (simp only [List.size_toArray, List.length_cons, List.length_nil, Array.size_setIfInBounds] <;> omega)))) hb
      (try simp only [List.setIfInBounds_toArray, List.set_cons_zero, List.set_cons_succ] at P)
      (try clear cP fP)
      clear hb
      have z_w1 : w.heap.size ≤ w1.heap.size := A.size
      obtain ⟨lP_w1, cP, fP⟩ := id P
      go_wp2_with (fail)
      refine (HD.out _).mono ?_
      rintro e wB ⟨rfl, hb⟩
      replace A : Below w.heap.size w wB := by (refine below_call ?_ hb; (repeat (first | (with_reducible exact Below.refl _ _) | (with_reducible assumption) | (with_reducible refine Near.up _ ?_) | (with_reducible refine Below.drew ?_) | (with_reducible refine below_alloc_on ?_ _) | (with_reducible refine below_set_on ?_ (by first | (simp; done) | (simp; omega) | omega) _))))
      replace P := Box.below (g := w.heap.size) (by (repeat (first | (with_reducible assumption) | (with_reducible exact box_new _ _ _) | ((with_reducible apply box_at); (first | (with_reducible rfl) | (simp <;> omega))) | (with_reducible apply Box.drew) | (with_reducible apply Box.drewN) | (with_reducible apply Box.near) | (with_reducible apply Box.alloc) | ((with_reducible apply box_far); (first | assumption | omega | (simp <;> omega))) | ((with_reducible apply Box.one_set); (with_reducible assumption)) | ((with_reducible apply Box.two_set); (with_reducible assumption)) | ((with_reducible apply Box.three_set); (with_reducible assumption)) | (with_reducible apply Box.set) | (simp only [List.size_toArray, List.length_cons, List.length_nil, Array.size_setIfInBounds] <;> omega)))) hb
      (try simp only [List.setIfInBounds_toArray, List.set_cons_zero, List.set_cons_succ] at P)
      (try clear cP fP)
      clear hb
      have z_wB : w.heap.size ≤ wB.heap.size := A.size
      obtain ⟨lP_wB, cP, fP⟩ := id P
      go_upto_region 9 with fail
      have H0 := Grown.nil wB
      clear P cP fP
      go_loopg [8, 7] 8 (fun k r' v' wr => ∃ (q : Int) (zs : List Int), k ≤ 8 ∧ r' = .int .i64 q ∧ 5 ≤ q ∧ q ≤ 1000 ∧ Reach k q n ∧ Y = zs ++ wayL k q n ∧ Grown wB zs v' wr)
      case atStart => exact ⟨r, [], Nat.le_refl _, rfl, r0, r1, hreach, hY.symm, H0⟩
      case round =>
        clear H0 hreach hY
        obtain ⟨q, zs, hk, rfl, q0, q1, hq, hYz, hso⟩ := hrel
        have hbw : Below wB.heap.size wB wr := hso.2.2
        have A2 : Below w.heap.size w wr := A.trans (hbw.mono A.size)
        have hsz := hbw.size
        have HS := Lib.hid hso
        have HO := Lib.hid hso.2.1
        have hzl : zs.length ≤ 8 := by
          have := congrArg List.length hYz
          rw [List.length_append] at this; omega
        obtain ⟨B, d, rfl, hd, hi⟩ := hso.form
        clear hso A
        by_cases hn : q = n
        · subst hn
          rw [way_done, List.append_nil] at hYz
          subst hYz
          have t1 : (q != q) = false := by simp
          clear HS hq HO
          go_wp2
          all_goals go_ret2
          all_goals exact ⟨B, d, rfl, hd, hi, A2⟩
        · have t1 : (q != n) = true := by simpa using hn
          obtain ⟨j, rfl, hw⟩ := way_more hq hn
          rw [hw] at hYz
          have hr2 := reach_next hq q0 n0 hn
          have ⟨b0, b1⟩ := st_bd q0 q1 n0 n1
          clear hw hq hd hi
          have HR := Lib.hid hr2
          clear hr2
          have HY := Lib.hid hYz
          clear hYz
          obtain ⟨X, hX⟩ : ∃ X, stV q n = X := ⟨_, rfl⟩
          rw [hX] at HR HY b0 b1
          have m1 : min (max n ((q + 1) / 2)) (2 * q) = X := by rw [← hX]; unfold stV; omega
          have m2 : Int.tdiv (q + 1) 2 = (q + 1) / 2 := Int.tdiv_eq_ediv_of_nonneg (by omega)
          clear hX
          go_wp2_with (first
            | (at_builtin; refine app_int rfl _ _ rfl X rfl rfl HO.out hsz (by omega) ?_))
          intro v' w1 hown' hg
          have hnext := Lib.hid (HS.out.next (by simpa using hown') hg)
          clear hown' hg HO HS
          go_wp2
          go_roundg j
          case rel => exact ⟨X, zs ++ [X], by omega, rfl, b0, b1, HR.out, by rw [HY.out]; simp, by simpa using hnext.out⟩
          case measure => omega
    · rw [if_neg (by simp [h2]), if_neg (by simpa using h1)]
      generalize ckV n v s = E at *
      have t2 : (E != 0) = true := by simpa using h2
      clear h1 h2
      go_enter Try.func38, Try.ntmps38
      go_wp2_with (fail)
      refine (HC.out _).mono ?_
      rintro e w1 ⟨rfl, hb⟩
      replace A : Below w.heap.size w w1 := by (refine below_call ?_ hb; (repeat (first | (with_reducible exact Below.refl _ _) | (with_reducible assumption) | (with_reducible refine Near.up _ ?_) | (with_reducible refine Below.drew ?_) | (with_reducible refine below_alloc_on ?_ _) | (with_reducible refine below_set_on ?_ (by first | (simp; done) | (simp; omega) | omega) _))))
      replace P := Box.below (g := w.heap.size) (by (repeat (first | (with_reducible assumption) | (with_reducible exact box_new _ _ _) | ((with_reducible apply box_at); (first | (with_reducible rfl) | (simp <;> omega))) | (with_reducible apply Box.drew) | (with_reducible apply Box.drewN) | (with_reducible apply Box.near) | (with_reducible apply Box.alloc) | ((with_reducible apply box_far); (first | assumption | omega | (simp <;> omega))) | ((with_reducible apply Box.one_set); (with_reducible assumption)) | ((with_reducible apply Box.two_set); (with_reducible assumption)) | ((with_reducible apply Box.three_set); (with_reducible assumption)) | (with_reducible apply Box.set) | (simp only [List.size_toArray, List.length_cons, List.length_nil, Array.size_setIfInBounds] <;> omega)))) hb
      (try simp only [List.setIfInBounds_toArray, List.set_cons_zero, List.set_cons_succ] at P)
      (try clear cP fP)
      clear hb
      have z_w1 : w.heap.size ≤ w1.heap.size := A.size
      obtain ⟨lP_w1, cP, fP⟩ := id P
      go_wp2_with (fail)
      refine (HD.out _).mono ?_
      rintro e w2 ⟨rfl, hb⟩
      replace A : Below w.heap.size w w2 := by (refine below_call ?_ hb; (repeat (first | (with_reducible exact Below.refl _ _) | (with_reducible assumption) | (with_reducible refine Near.up _ ?_) | (with_reducible refine Below.drew ?_) | (with_reducible refine below_alloc_on ?_ _) | (with_reducible refine below_set_on ?_ (by first | (simp; done) | (simp; omega) | omega) _))))
      replace P := Box.below (g := w.heap.size) (by (repeat (first | (with_reducible assumption) | (with_reducible exact box_new _ _ _) | ((with_reducible apply box_at); (first | (with_reducible rfl) | (simp <;> omega))) | (with_reducible apply Box.drew) | (with_reducible apply Box.drewN) | (with_reducible apply Box.near) | (with_reducible apply Box.alloc) | ((with_reducible apply box_far); (first | assumption | omega | (simp <;> omega))) | ((with_reducible apply Box.one_set); (with_reducible assumption)) | ((with_reducible apply Box.two_set); (with_reducible assumption)) | ((with_reducible apply Box.three_set); (with_reducible assumption)) | (with_reducible apply Box.set) | (simp only [List.size_toArray, List.length_cons, List.length_nil, Array.size_setIfInBounds] <;> omega)))) hb
      (try simp only [List.setIfInBounds_toArray, List.set_cons_zero, List.set_cons_succ] at P)
      (try clear cP fP)
      clear hb
      have z_w2 : w.heap.size ≤ w2.heap.size := A.size
      obtain ⟨lP_w2, cP, fP⟩ := id P
      go_wp2
      all_goals go_ret2
      all_goals exact ⟨none, 0, rfl, Nat.le_refl _, ints_nil _ _, by (repeat (first | (with_reducible exact Below.refl _ _) | (with_reducible assumption) | (with_reducible refine Near.up _ ?_) | (with_reducible refine Below.drew ?_) | (with_reducible refine below_alloc_on ?_ _) | (with_reducible refine below_set_on ?_ (by first | (simp; done) | (simp; omega) | omega) _)))⟩
  · rw [if_neg (by simp [h1]), if_pos h1]
    clear HD
    generalize ckV r v s = E at *
    have t2 : (E != 0) = true := by simpa using h1
    clear h1
    go_enter Try.func38, Try.ntmps38
    go_wp2_with (fail)
    refine (HC.out _).mono ?_
    rintro e w1 ⟨rfl, hb⟩
    replace A : Below w.heap.size w w1 := by (refine below_call ?_ hb; (repeat (first | (with_reducible exact Below.refl _ _) | (with_reducible assumption) | (with_reducible refine Near.up _ ?_) | (with_reducible refine Below.drew ?_) | (with_reducible refine below_alloc_on ?_ _) | (with_reducible refine below_set_on ?_ (by first | (simp; done) | (simp; omega) | omega) _))))
    replace P := Box.below (g := w.heap.size) (by (repeat (first | (with_reducible assumption) | (with_reducible exact box_new _ _ _) | ((with_reducible apply box_at); (first | (with_reducible rfl) | (simp <;> omega))) | (with_reducible apply Box.drew) | (with_reducible apply Box.drewN) | (with_reducible apply Box.near) | (with_reducible apply Box.alloc) | ((with_reducible apply box_far); (first | assumption | omega | (simp <;> omega))) | ((with_reducible apply Box.one_set); (with_reducible assumption)) | ((with_reducible apply Box.two_set); (with_reducible assumption)) | ((with_reducible apply Box.three_set); (with_reducible assumption)) | (with_reducible apply Box.set) | (simp only [List.size_toArray, List.length_cons, List.length_nil, Array.size_setIfInBounds] <;> omega)))) hb
    (try simp only [List.setIfInBounds_toArray, List.set_cons_zero, List.set_cons_succ] at P)
    (try clear cP fP)
    clear hb
    have z_w1 : w.heap.size ≤ w1.heap.size := A.size
    obtain ⟨lP_w1, cP, fP⟩ := id P
    go_wp2
    all_goals go_ret2
    all_goals exact ⟨none, 0, rfl, Nat.le_refl _, ints_nil _ _, by (repeat (first | (with_reducible exact Below.refl _ _) | (with_reducible assumption) | (with_reducible refine Near.up _ ?_) | (with_reducible refine Below.drew ?_) | (with_reducible refine below_alloc_on ?_ _) | (with_reducible refine below_set_on ?_ (by first | (simp; done) | (simp; omega) | omega) _)))⟩
theorem l38_ints (A B : Option Addr) (n c m d : Nat) (xs ys : List Int) (w : World) (h : Ints w A n xs) (g : Ints w B m ys) (hn : n ≤ 9223372036854775807) (hm : m ≤ 9223372036854775807) :
    Calls Try.prog 39 #[.slice A n c, .slice B m d] w fun e w' => e = .returned (.bool (eqL xs ys)) ∧ Below w.heap.size w w' :=
  (law4_ints A B n c m d xs ys w h g hn hm).mono fun e w' ⟨he, t, hw⟩ => ⟨he, hw ▸ below_drewN (Below.refl _ _) t⟩
theorem twL_len (r v s n : Int) : (twL r v s n).length ≤ 8 := by
  unfold twL; split
  · exact way_len 8 r n
  · simp

end Go.Proofs.Ythijabhnmjbboaa
