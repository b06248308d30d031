/- JournalBack holds of every entry and every text: what is put is got, and the other way round. No condition. -/
import Derived.Test.YtidmoacjgbjlnaaJour3
import Derived.Test.YtidmoacjgbjlnaaLeaf
namespace Go.Proofs.Ytidmoacjgbjlnaa.journalBack
open Go.ChangeShapes Go.WideShapes Go.ChangeAt Go.RowKit
set_option linter.unusedVariables false
set_option linter.unusedSimpArgs false
set_option maxRecDepth 100000
attribute [local go_sem] cell_set_ite Near.cell Near.frozen

set_option maxHeartbeats 8000000 in
theorem way (q m r v k t d b : Int) (s T u : ByteArray) (en can : Bool) (f0 f1 f2 f3 f4 f5 f6 f7 y0 y1 y2 y3 y4 y5 y6 y7 : Int) (W : World) (hs : s.size ≤ 100)
    (HP : Hid (∀ w, Calls Try.prog 29 #[.agg #[.int .i64 q, .int .i64 m, .int .i64 r, .int .i64 v, .int .i64 k, .int .i64 t, .int .i64 d, .int .i64 b]] w fun e w' => e = .returned (.tuple #[.string T, .bool en]) ∧ Below w.heap.size w w'))
    (HG : Hid (∀ w, Calls Try.prog 31 #[.string T] w fun e w' => e = .returned (.tuple #[.agg #[.int .i64 f0, .int .i64 f1, .int .i64 f2, .int .i64 f3, .int .i64 f4, .int .i64 f5, .int .i64 f6, .int .i64 f7], .bool en]) ∧ Below w.heap.size w w'))
    (HS : Hid (∀ w, Calls Try.prog 31 #[.string s] w fun e w' => e = .returned (.tuple #[.agg #[.int .i64 y0, .int .i64 y1, .int .i64 y2, .int .i64 y3, .int .i64 y4, .int .i64 y5, .int .i64 y6, .int .i64 y7], .bool can]) ∧ Below w.heap.size w w'))
    (HU : Hid (∀ w, Calls Try.prog 29 #[.agg #[.int .i64 y0, .int .i64 y1, .int .i64 y2, .int .i64 y3, .int .i64 y4, .int .i64 y5, .int .i64 y6, .int .i64 y7]] w fun e w' => e = .returned (.tuple #[.string u, .bool can]) ∧ Below w.heap.size w w'))
    (HR : Hid (∀ w, Calls Try.prog 35 #[.agg #[.int .i64 q, .int .i64 m, .int .i64 r, .int .i64 v, .int .i64 k, .int .i64 t, .int .i64 d, .int .i64 b]] w fun e w' => e = .returned (.bool en) ∧ Below w.heap.size w w'))
    (h1 : en = true → T.size = 21 ∧ f0 = q ∧ f1 = m ∧ f2 = r ∧ f3 = v ∧ f4 = k ∧ f5 = t ∧ f6 = d ∧ f7 = b) (h2 : can = true → u = s) (h3 : can = false → y0 = 0 ∧ y1 = 0 ∧ y2 = 0 ∧ y3 = 0 ∧ y4 = 0 ∧ y5 = 0 ∧ y6 = 0 ∧ y7 = 0) :
    Calls Try.prog 9 #[.agg #[.int .i64 q, .int .i64 m, .int .i64 r, .int .i64 v, .int .i64 k, .int .i64 t, .int .i64 d, .int .i64 b], .string s] W fun e W' => e = .returned (.bool true) ∧ Below W.heap.size W W' := by
  have A : Below W.heap.size W W := Below.refl _ _
  have t0 : decide (100 < (s.size : Int)) = false := decide_eq_false (by omega)
  cases en <;> cases can
  · obtain ⟨rfl, rfl, rfl, rfl, rfl, rfl, rfl, rfl⟩ := h3 rfl
    clear h1 h2 h3 hs
    go_enter Try.func9, Try.ntmps9
    go_wp2_with (fail)
    refine (HP.out _).mono ?_
    rintro e w1 ⟨rfl, hb⟩
    replace A : Below W.heap.size W w1 := by (refine below_call ?_ hb; (repeat (first | (with_reducible exact Below.refl _ _) | (with_reducible assumption) | (with_reducible refine Near.up _ ?_) | (with_reducible refine Below.drew ?_) | (with_reducible refine below_alloc_on ?_ _) | (with_reducible refine below_set_on ?_ (by first | (simp; done) | (simp; omega) | omega) _))))
    replace P := Box.below (g := W.heap.size) (by (repeat (first | (with_reducible assumption) | (with_reducible exact box_new _ _ _) | ((with_reducible apply box_at); (first | (with_reducible rfl) | (simp <;> omega))) | (with_reducible apply Box.drew) | (with_reducible apply Box.drewN) | (with_reducible apply Box.near) | (with_reducible apply Box.alloc) | ((with_reducible apply box_far); (first | assumption | omega | (simp <;> omega))) | ((with_reducible apply Box.one_set); (with_reducible assumption)) | ((with_reducible apply Box.two_set); (with_reducible assumption)) | ((with_reducible apply Box.three_set); (with_reducible assumption)) | (with_reducible apply Box.set) | (simp only [List.size_toArray, List.length_cons, List.length_nil, Array.size_setIfInBounds] <;> omega)))) hb
    (try simp only [List.setIfInBounds_toArray, List.set_cons_zero, List.set_cons_succ] at P)
    (try clear cP fP)
    clear hb
    have z_w1 : W.heap.size ≤ w1.heap.size := A.size
    obtain ⟨lP_w1, cP, fP⟩ := id P
    go_wp2_with (fail)
    refine (HG.out _).mono ?_
    rintro e w2 ⟨rfl, hb⟩
    replace A : Below W.heap.size W w2 := by (refine below_call ?_ hb; (repeat (first | (with_reducible exact Below.refl _ _) | (with_reducible assumption) | (with_reducible refine Near.up _ ?_) | (with_reducible refine Below.drew ?_) | (with_reducible refine below_alloc_on ?_ _) | (with_reducible refine below_set_on ?_ (by first | (simp; done) | (simp; omega) | omega) _))))
    replace P := Box.below (g := W.heap.size) (by (repeat (first | (with_reducible assumption) | (with_reducible exact box_new _ _ _) | ((with_reducible apply box_at); (first | (with_reducible rfl) | (simp <;> omega))) | (with_reducible apply Box.drew) | (with_reducible apply Box.drewN) | (with_reducible apply Box.near) | (with_reducible apply Box.alloc) | ((with_reducible apply box_far); (first | assumption | omega | (simp <;> omega))) | ((with_reducible apply Box.one_set); (with_reducible assumption)) | ((with_reducible apply Box.two_set); (with_reducible assumption)) | ((with_reducible apply Box.three_set); (with_reducible assumption)) | (with_reducible apply Box.set) | (simp only [List.size_toArray, List.length_cons, List.length_nil, Array.size_setIfInBounds] <;> omega)))) hb
    (try simp only [List.setIfInBounds_toArray, List.set_cons_zero, List.set_cons_succ] at P)
    (try clear cP fP)
    clear hb
    have z_w2 : W.heap.size ≤ w2.heap.size := A.size
    obtain ⟨lP_w2, cP, fP⟩ := id P
    have n1 : ¬ W.heap.size = w2.heap.size := by omega
    go_wp2_with (fail)
    refine (HS.out _).mono ?_
    rintro e w3 ⟨rfl, hb⟩
    replace A : Below W.heap.size W w3 := by (refine below_call ?_ hb; (repeat (first | (with_reducible exact Below.refl _ _) | (with_reducible assumption) | (with_reducible refine Near.up _ ?_) | (with_reducible refine Below.drew ?_) | (with_reducible refine below_alloc_on ?_ _) | (with_reducible refine below_set_on ?_ (by first | (simp; done) | (simp; omega) | omega) _))))
    replace P := Box.below (g := W.heap.size) (by (repeat (first | (with_reducible assumption) | (with_reducible exact box_new _ _ _) | ((with_reducible apply box_at); (first | (with_reducible rfl) | (simp <;> omega))) | (with_reducible apply Box.drew) | (with_reducible apply Box.drewN) | (with_reducible apply Box.near) | (with_reducible apply Box.alloc) | ((with_reducible apply box_far); (first | assumption | omega | (simp <;> omega))) | ((with_reducible apply Box.one_set); (with_reducible assumption)) | ((with_reducible apply Box.two_set); (with_reducible assumption)) | ((with_reducible apply Box.three_set); (with_reducible assumption)) | (with_reducible apply Box.set) | (simp only [List.size_toArray, List.length_cons, List.length_nil, Array.size_setIfInBounds] <;> omega)))) hb
    (try simp only [List.setIfInBounds_toArray, List.set_cons_zero, List.set_cons_succ] at P)
    (try clear cP fP)
    replace F := Box.below (g := w2.heap.size) (by (repeat (first | (with_reducible assumption) | (with_reducible exact box_new _ _ _) | ((with_reducible apply box_at); (first | (with_reducible rfl) | (simp <;> omega))) | (with_reducible apply Box.drew) | (with_reducible apply Box.drewN) | (with_reducible apply Box.near) | (with_reducible apply Box.alloc) | ((with_reducible apply box_far); (first | assumption | omega | (simp <;> omega))) | ((with_reducible apply Box.one_set); (with_reducible assumption)) | ((with_reducible apply Box.two_set); (with_reducible assumption)) | ((with_reducible apply Box.three_set); (with_reducible assumption)) | (with_reducible apply Box.set) | (simp only [List.size_toArray, List.length_cons, List.length_nil, Array.size_setIfInBounds] <;> omega)))) hb
    (try simp only [List.setIfInBounds_toArray, List.set_cons_zero, List.set_cons_succ] at F)
    (try clear cF fF)
    clear hb
    have z_w3 : W.heap.size ≤ w3.heap.size := A.size
    obtain ⟨lP_w3, cP, fP⟩ := id P
    obtain ⟨lF_w3, cF, fF⟩ := id F
    have n2 : ¬ W.heap.size = w3.heap.size := by omega
    have n3 : ¬ w2.heap.size = w3.heap.size := by omega
    go_wp2_with (fail)
    refine (HU.out _).mono ?_
    rintro e w4 ⟨rfl, hb⟩
    replace A : Below W.heap.size W w4 := by (refine below_call ?_ hb; (repeat (first | (with_reducible exact Below.refl _ _) | (with_reducible assumption) | (with_reducible refine Near.up _ ?_) | (with_reducible refine Below.drew ?_) | (with_reducible refine below_alloc_on ?_ _) | (with_reducible refine below_set_on ?_ (by first | (simp; done) | (simp; omega) | omega) _))))
    replace P := Box.below (g := W.heap.size) (by (repeat (first | (with_reducible assumption) | (with_reducible exact box_new _ _ _) | ((with_reducible apply box_at); (first | (with_reducible rfl) | (simp <;> omega))) | (with_reducible apply Box.drew) | (with_reducible apply Box.drewN) | (with_reducible apply Box.near) | (with_reducible apply Box.alloc) | ((with_reducible apply box_far); (first | assumption | omega | (simp <;> omega))) | ((with_reducible apply Box.one_set); (with_reducible assumption)) | ((with_reducible apply Box.two_set); (with_reducible assumption)) | ((with_reducible apply Box.three_set); (with_reducible assumption)) | (with_reducible apply Box.set) | (simp only [List.size_toArray, List.length_cons, List.length_nil, Array.size_setIfInBounds] <;> omega)))) hb
    (try simp only [List.setIfInBounds_toArray, List.set_cons_zero, List.set_cons_succ] at P)
    (try clear cP fP)
    replace F := Box.below (g := w2.heap.size) (by (repeat (first | (with_reducible assumption) | (with_reducible exact box_new _ _ _) | ((with_reducible apply box_at); (first | (with_reducible rfl) | (simp <;> omega))) | (with_reducible apply Box.drew) | (with_reducible apply Box.drewN) | (with_reducible apply Box.near) | (with_reducible apply Box.alloc) | ((with_reducible apply box_far); (first | assumption | omega | (simp <;> omega))) | ((with_reducible apply Box.one_set); (with_reducible assumption)) | ((with_reducible apply Box.two_set); (with_reducible assumption)) | ((with_reducible apply Box.three_set); (with_reducible assumption)) | (with_reducible apply Box.set) | (simp only [List.size_toArray, List.length_cons, List.length_nil, Array.size_setIfInBounds] <;> omega)))) hb
    (try simp only [List.setIfInBounds_toArray, List.set_cons_zero, List.set_cons_succ] at F)
    (try clear cF fF)
    replace G := Box.below (g := w3.heap.size) (by (repeat (first | (with_reducible assumption) | (with_reducible exact box_new _ _ _) | ((with_reducible apply box_at); (first | (with_reducible rfl) | (simp <;> omega))) | (with_reducible apply Box.drew) | (with_reducible apply Box.drewN) | (with_reducible apply Box.near) | (with_reducible apply Box.alloc) | ((with_reducible apply box_far); (first | assumption | omega | (simp <;> omega))) | ((with_reducible apply Box.one_set); (with_reducible assumption)) | ((with_reducible apply Box.two_set); (with_reducible assumption)) | ((with_reducible apply Box.three_set); (with_reducible assumption)) | (with_reducible apply Box.set) | (simp only [List.size_toArray, List.length_cons, List.length_nil, Array.size_setIfInBounds] <;> omega)))) hb
    (try simp only [List.setIfInBounds_toArray, List.set_cons_zero, List.set_cons_succ] at G)
    (try clear cG fG)
    clear hb
    have z_w4 : W.heap.size ≤ w4.heap.size := A.size
    obtain ⟨lP_w4, cP, fP⟩ := id P
    obtain ⟨lF_w4, cF, fF⟩ := id F
    obtain ⟨lG_w4, cG, fG⟩ := id G
    go_wp2_with (fail)
    refine (HR.out _).mono ?_
    rintro e w5 ⟨rfl, hb⟩
    replace A : Below W.heap.size W w5 := by (refine below_call ?_ hb; (repeat (first | (with_reducible exact Below.refl _ _) | (with_reducible assumption) | (with_reducible refine Near.up _ ?_) | (with_reducible refine Below.drew ?_) | (with_reducible refine below_alloc_on ?_ _) | (with_reducible refine below_set_on ?_ (by first | (simp; done) | (simp; omega) | omega) _))))
    replace P := Box.below (g := W.heap.size) (by (repeat (first | (with_reducible assumption) | (with_reducible exact box_new _ _ _) | ((with_reducible apply box_at); (first | (with_reducible rfl) | (simp <;> omega))) | (with_reducible apply Box.drew) | (with_reducible apply Box.drewN) | (with_reducible apply Box.near) | (with_reducible apply Box.alloc) | ((with_reducible apply box_far); (first | assumption | omega | (simp <;> omega))) | ((with_reducible apply Box.one_set); (with_reducible assumption)) | ((with_reducible apply Box.two_set); (with_reducible assumption)) | ((with_reducible apply Box.three_set); (with_reducible assumption)) | (with_reducible apply Box.set) | (simp only [List.size_toArray, List.length_cons, List.length_nil, Array.size_setIfInBounds] <;> omega)))) hb
    (try simp only [List.setIfInBounds_toArray, List.set_cons_zero, List.set_cons_succ] at P)
    (try clear cP fP)
    replace F := Box.below (g := w2.heap.size) (by (repeat (first | (with_reducible assumption) | (with_reducible exact box_new _ _ _) | ((with_reducible apply box_at); (first | (with_reducible rfl) | (simp <;> omega))) | (with_reducible apply Box.drew) | (with_reducible apply Box.drewN) | (with_reducible apply Box.near) | (with_reducible apply Box.alloc) | ((with_reducible apply box_far); (first | assumption | omega | (simp <;> omega))) | ((with_reducible apply Box.one_set); (with_reducible assumption)) | ((with_reducible apply Box.two_set); (with_reducible assumption)) | ((with_reducible apply Box.three_set); (with_reducible assumption)) | (with_reducible apply Box.set) | (simp only [List.size_toArray, List.length_cons, List.length_nil, Array.size_setIfInBounds] <;> omega)))) hb
    (try simp only [List.setIfInBounds_toArray, List.set_cons_zero, List.set_cons_succ] at F)
    (try clear cF fF)
    replace G := Box.below (g := w3.heap.size) (by (repeat (first | (with_reducible assumption) | (with_reducible exact box_new _ _ _) | ((with_reducible apply box_at); (first | (with_reducible rfl) | (simp <;> omega))) | (with_reducible apply Box.drew) | (with_reducible apply Box.drewN) | (with_reducible apply Box.near) | (with_reducible apply Box.alloc) | ((with_reducible apply box_far); (first | assumption | omega | (simp <;> omega))) | ((with_reducible apply Box.one_set); (with_reducible assumption)) | ((with_reducible apply Box.two_set); (with_reducible assumption)) | ((with_reducible apply Box.three_set); (with_reducible assumption)) | (with_reducible apply Box.set) | (simp only [List.size_toArray, List.length_cons, List.length_nil, Array.size_setIfInBounds] <;> omega)))) hb
    (try simp only [List.setIfInBounds_toArray, List.set_cons_zero, List.set_cons_succ] at G)
    (try clear cG fG)
    clear hb
    have z_w5 : W.heap.size ≤ w5.heap.size := A.size
    obtain ⟨lP_w5, cP, fP⟩ := id P
    obtain ⟨lF_w5, cF, fF⟩ := id F
    obtain ⟨lG_w5, cG, fG⟩ := id G
    go_wp2_with (fail)
    refine (law39_awake _).mono ?_
    rintro e w6 ⟨rfl, hb⟩
    replace A : Below W.heap.size W w6 := by (refine below_call ?_ hb; (repeat (first | (with_reducible exact Below.refl _ _) | (with_reducible assumption) | (with_reducible refine Near.up _ ?_) | (with_reducible refine Below.drew ?_) | (with_reducible refine below_alloc_on ?_ _) | (with_reducible refine below_set_on ?_ (by first | (simp; done) | (simp; omega) | omega) _))))
    clear hb
    have z_w6 : W.heap.size ≤ w6.heap.size := A.size
    go_wp2
    all_goals go_ret
    all_goals exact ⟨rfl, A⟩
  · obtain rfl := h2 rfl
    clear h1 h2 h3 hs
    go_enter Try.func9, Try.ntmps9
    go_wp2_with (fail)
    refine (HP.out _).mono ?_
    rintro e w1 ⟨rfl, hb⟩
    replace A : Below W.heap.size W w1 := by (refine below_call ?_ hb; (repeat (first | (with_reducible exact Below.refl _ _) | (with_reducible assumption) | (with_reducible refine Near.up _ ?_) | (with_reducible refine Below.drew ?_) | (with_reducible refine below_alloc_on ?_ _) | (with_reducible refine below_set_on ?_ (by first | (simp; done) | (simp; omega) | omega) _))))
    replace P := Box.below (g := W.heap.size) (by (repeat (first | (with_reducible assumption) | (with_reducible exact box_new _ _ _) | ((with_reducible apply box_at); (first | (with_reducible rfl) | (simp <;> omega))) | (with_reducible apply Box.drew) | (with_reducible apply Box.drewN) | (with_reducible apply Box.near) | (with_reducible apply Box.alloc) | ((with_reducible apply box_far); (first | assumption | omega | (simp <;> omega))) | ((with_reducible apply Box.one_set); (with_reducible assumption)) | ((with_reducible apply Box.two_set); (with_reducible assumption)) | ((with_reducible apply Box.three_set); (with_reducible assumption)) | (with_reducible apply Box.set) | (simp only [List.size_toArray, List.length_cons, List.length_nil, Array.size_setIfInBounds] <;> omega)))) hb
    (try simp only [List.setIfInBounds_toArray, List.set_cons_zero, List.set_cons_succ] at P)
    (try clear cP fP)
    clear hb
    have z_w1 : W.heap.size ≤ w1.heap.size := A.size
    obtain ⟨lP_w1, cP, fP⟩ := id P
    go_wp2_with (fail)
    refine (HG.out _).mono ?_
    rintro e w2 ⟨rfl, hb⟩
    replace A : Below W.heap.size W w2 := by (refine below_call ?_ hb; (repeat (first | (with_reducible exact Below.refl _ _) | (with_reducible assumption) | (with_reducible refine Near.up _ ?_) | (with_reducible refine Below.drew ?_) | (with_reducible refine below_alloc_on ?_ _) | (with_reducible refine below_set_on ?_ (by first | (simp; done) | (simp; omega) | omega) _))))
    replace P := Box.below (g := W.heap.size) (by (repeat (first | (with_reducible assumption) | (with_reducible exact box_new _ _ _) | ((with_reducible apply box_at); (first | (with_reducible rfl) | (simp <;> omega))) | (with_reducible apply Box.drew) | (with_reducible apply Box.drewN) | (with_reducible apply Box.near) | (with_reducible apply Box.alloc) | ((with_reducible apply box_far); (first | assumption | omega | (simp <;> omega))) | ((with_reducible apply Box.one_set); (with_reducible assumption)) | ((with_reducible apply Box.two_set); (with_reducible assumption)) | ((with_reducible apply Box.three_set); (with_reducible assumption)) | (with_reducible apply Box.set) | (simp only [List.size_toArray, List.length_cons, List.length_nil, Array.size_setIfInBounds] <;> omega)))) hb
    (try simp only [List.setIfInBounds_toArray, List.set_cons_zero, List.set_cons_succ] at P)
    (try clear cP fP)
    clear hb
    have z_w2 : W.heap.size ≤ w2.heap.size := A.size
    obtain ⟨lP_w2, cP, fP⟩ := id P
    have n1 : ¬ W.heap.size = w2.heap.size := by omega
    go_wp2_with (fail)
    refine (HS.out _).mono ?_
    rintro e w3 ⟨rfl, hb⟩
    replace A : Below W.heap.size W w3 := by (refine below_call ?_ hb; (repeat (first | (with_reducible exact Below.refl _ _) | (with_reducible assumption) | (with_reducible refine Near.up _ ?_) | (with_reducible refine Below.drew ?_) | (with_reducible refine below_alloc_on ?_ _) | (with_reducible refine below_set_on ?_ (by first | (simp; done) | (simp; omega) | omega) _))))
    replace P := Box.below (g := W.heap.size) (by (repeat (first | (with_reducible assumption) | (with_reducible exact box_new _ _ _) | ((with_reducible apply box_at); (first | (with_reducible rfl) | (simp <;> omega))) | (with_reducible apply Box.drew) | (with_reducible apply Box.drewN) | (with_reducible apply Box.near) | (with_reducible apply Box.alloc) | ((with_reducible apply box_far); (first | assumption | omega | (simp <;> omega))) | ((with_reducible apply Box.one_set); (with_reducible assumption)) | ((with_reducible apply Box.two_set); (with_reducible assumption)) | ((with_reducible apply Box.three_set); (with_reducible assumption)) | (with_reducible apply Box.set) | (simp only [List.size_toArray, List.length_cons, List.length_nil, Array.size_setIfInBounds] <;> omega)))) hb
    (try simp only [List.setIfInBounds_toArray, List.set_cons_zero, List.set_cons_succ] at P)
    (try clear cP fP)
    replace F := Box.below (g := w2.heap.size) (by (repeat (first | (with_reducible assumption) | (with_reducible exact box_new _ _ _) | ((with_reducible apply box_at); (first | (with_reducible rfl) | (simp <;> omega))) | (with_reducible apply Box.drew) | (with_reducible apply Box.drewN) | (with_reducible apply Box.near) | (with_reducible apply Box.alloc) | ((with_reducible apply box_far); (first | assumption | omega | (simp <;> omega))) | ((with_reducible apply Box.one_set); (with_reducible assumption)) | ((with_reducible apply Box.two_set); (with_reducible assumption)) | ((with_reducible apply Box.three_set); (with_reducible assumption)) | (with_reducible apply Box.set) | (simp only [List.size_toArray, List.length_cons, List.length_nil, Array.size_setIfInBounds] <;> omega)))) hb
    (try simp only [List.setIfInBounds_toArray, List.set_cons_zero, List.set_cons_succ] at F)
    (try clear cF fF)
    clear hb
    have z_w3 : W.heap.size ≤ w3.heap.size := A.size
    obtain ⟨lP_w3, cP, fP⟩ := id P
    obtain ⟨lF_w3, cF, fF⟩ := id F
    have n2 : ¬ W.heap.size = w3.heap.size := by omega
    have n3 : ¬ w2.heap.size = w3.heap.size := by omega
    go_wp2_with (fail)
    refine (HU.out _).mono ?_
    rintro e w4 ⟨rfl, hb⟩
    replace A : Below W.heap.size W w4 := by (refine below_call ?_ hb; (repeat (first | (with_reducible exact Below.refl _ _) | (with_reducible assumption) | (with_reducible refine Near.up _ ?_) | (with_reducible refine Below.drew ?_) | (with_reducible refine below_alloc_on ?_ _) | (with_reducible refine below_set_on ?_ (by first | (simp; done) | (simp; omega) | omega) _))))
    replace P := Box.below (g := W.heap.size) (by (repeat (first | (with_reducible assumption) | (with_reducible exact box_new _ _ _) | ((with_reducible apply box_at); (first | (with_reducible rfl) | (simp <;> omega))) | (with_reducible apply Box.drew) | (with_reducible apply Box.drewN) | (with_reducible apply Box.near) | (with_reducible apply Box.alloc) | ((with_reducible apply box_far); (first | assumption | omega | (simp <;> omega))) | ((with_reducible apply Box.one_set); (with_reducible assumption)) | ((with_reducible apply Box.two_set); (with_reducible assumption)) | ((with_reducible apply Box.three_set); (with_reducible assumption)) | (with_reducible apply Box.set) | (simp only [List.size_toArray, List.length_cons, List.length_nil, Array.size_setIfInBounds] <;> omega)))) hb
    (try simp only [List.setIfInBounds_toArray, List.set_cons_zero, List.set_cons_succ] at P)
    (try clear cP fP)
    replace F := Box.below (g := w2.heap.size) (by (repeat (first | (with_reducible assumption) | (with_reducible exact box_new _ _ _) | ((with_reducible apply box_at); (first | (with_reducible rfl) | (simp <;> omega))) | (with_reducible apply Box.drew) | (with_reducible apply Box.drewN) | (with_reducible apply Box.near) | (with_reducible apply Box.alloc) | ((with_reducible apply box_far); (first | assumption | omega | (simp <;> omega))) | ((with_reducible apply Box.one_set); (with_reducible assumption)) | ((with_reducible apply Box.two_set); (with_reducible assumption)) | ((with_reducible apply Box.three_set); (with_reducible assumption)) | (with_reducible apply Box.set) | (simp only [List.size_toArray, List.length_cons, List.length_nil, Array.size_setIfInBounds] <;> omega)))) hb
    (try simp only [List.setIfInBounds_toArray, List.set_cons_zero, List.set_cons_succ] at F)
    (try clear cF fF)
    replace G := Box.below (g := w3.heap.size) (by (repeat (first | (with_reducible assumption) | (with_reducible exact box_new _ _ _) | ((with_reducible apply box_at); (first | (with_reducible rfl) | (simp <;> omega))) | (with_reducible apply Box.drew) | (with_reducible apply Box.drewN) | (with_reducible apply Box.near) | (with_reducible apply Box.alloc) | ((with_reducible apply box_far); (first | assumption | omega | (simp <;> omega))) | ((with_reducible apply Box.one_set); (with_reducible assumption)) | ((with_reducible apply Box.two_set); (with_reducible assumption)) | ((with_reducible apply Box.three_set); (with_reducible assumption)) | (with_reducible apply Box.set) | (simp only [List.size_toArray, List.length_cons, List.length_nil, Array.size_setIfInBounds] <;> omega)))) hb
    (try simp only [List.setIfInBounds_toArray, List.set_cons_zero, List.set_cons_succ] at G)
    (try clear cG fG)
    clear hb
    have z_w4 : W.heap.size ≤ w4.heap.size := A.size
    obtain ⟨lP_w4, cP, fP⟩ := id P
    obtain ⟨lF_w4, cF, fF⟩ := id F
    obtain ⟨lG_w4, cG, fG⟩ := id G
    go_wp2_with (fail)
    refine (HR.out _).mono ?_
    rintro e w5 ⟨rfl, hb⟩
    replace A : Below W.heap.size W w5 := by (refine below_call ?_ hb; (repeat (first | (with_reducible exact Below.refl _ _) | (with_reducible assumption) | (with_reducible refine Near.up _ ?_) | (with_reducible refine Below.drew ?_) | (with_reducible refine below_alloc_on ?_ _) | (with_reducible refine below_set_on ?_ (by first | (simp; done) | (simp; omega) | omega) _))))
    replace P := Box.below (g := W.heap.size) (by (repeat (first | (with_reducible assumption) | (with_reducible exact box_new _ _ _) | ((with_reducible apply box_at); (first | (with_reducible rfl) | (simp <;> omega))) | (with_reducible apply Box.drew) | (with_reducible apply Box.drewN) | (with_reducible apply Box.near) | (with_reducible apply Box.alloc) | ((with_reducible apply box_far); (first | assumption | omega | (simp <;> omega))) | ((with_reducible apply Box.one_set); (with_reducible assumption)) | ((with_reducible apply Box.two_set); (with_reducible assumption)) | ((with_reducible apply Box.three_set); (with_reducible assumption)) | (with_reducible apply Box.set) | (simp only [List.size_toArray, List.length_cons, List.length_nil, Array.size_setIfInBounds] <;> omega)))) hb
    (try simp only [List.setIfInBounds_toArray, List.set_cons_zero, List.set_cons_succ] at P)
    (try clear cP fP)
    replace F := Box.below (g := w2.heap.size) (by (repeat (first | (with_reducible assumption) | (with_reducible exact box_new _ _ _) | ((with_reducible apply box_at); (first | (with_reducible rfl) | (simp <;> omega))) | (with_reducible apply Box.drew) | (with_reducible apply Box.drewN) | (with_reducible apply Box.near) | (with_reducible apply Box.alloc) | ((with_reducible apply box_far); (first | assumption | omega | (simp <;> omega))) | ((with_reducible apply Box.one_set); (with_reducible assumption)) | ((with_reducible apply Box.two_set); (with_reducible assumption)) | ((with_reducible apply Box.three_set); (with_reducible assumption)) | (with_reducible apply Box.set) | (simp only [List.size_toArray, List.length_cons, List.length_nil, Array.size_setIfInBounds] <;> omega)))) hb
    (try simp only [List.setIfInBounds_toArray, List.set_cons_zero, List.set_cons_succ] at F)
    (try clear cF fF)
    replace G := Box.below (g := w3.heap.size) (by (repeat (first | (with_reducible assumption) | (with_reducible exact box_new _ _ _) | ((with_reducible apply box_at); (first | (with_reducible rfl) | (simp <;> omega))) | (with_reducible apply Box.drew) | (with_reducible apply Box.drewN) | (with_reducible apply Box.near) | (with_reducible apply Box.alloc) | ((with_reducible apply box_far); (first | assumption | omega | (simp <;> omega))) | ((with_reducible apply Box.one_set); (with_reducible assumption)) | ((with_reducible apply Box.two_set); (with_reducible assumption)) | ((with_reducible apply Box.three_set); (with_reducible assumption)) | (with_reducible apply Box.set) | (simp only [List.size_toArray, List.length_cons, List.length_nil, Array.size_setIfInBounds] <;> omega)))) hb
    (try simp only [List.setIfInBounds_toArray, List.set_cons_zero, List.set_cons_succ] at G)
    (try clear cG fG)
    clear hb
    have z_w5 : W.heap.size ≤ w5.heap.size := A.size
    obtain ⟨lP_w5, cP, fP⟩ := id P
    obtain ⟨lF_w5, cF, fF⟩ := id F
    obtain ⟨lG_w5, cG, fG⟩ := id G
    go_wp2_with (fail)
    refine (law39_awake _).mono ?_
    rintro e w6 ⟨rfl, hb⟩
    replace A : Below W.heap.size W w6 := by (refine below_call ?_ hb; (repeat (first | (with_reducible exact Below.refl _ _) | (with_reducible assumption) | (with_reducible refine Near.up _ ?_) | (with_reducible refine Below.drew ?_) | (with_reducible refine below_alloc_on ?_ _) | (with_reducible refine below_set_on ?_ (by first | (simp; done) | (simp; omega) | omega) _))))
    clear hb
    have z_w6 : W.heap.size ≤ w6.heap.size := A.size
    go_wp2
    all_goals go_ret
    all_goals exact ⟨rfl, A⟩
  · obtain ⟨hT, rfl, rfl, rfl, rfl, rfl, rfl, rfl, rfl⟩ := h1 rfl
    obtain ⟨rfl, rfl, rfl, rfl, rfl, rfl, rfl, rfl⟩ := h3 rfl
    clear h1 h2 h3 hs
    go_enter Try.func9, Try.ntmps9
    go_wp2_with (fail)
    refine (HP.out _).mono ?_
    rintro e w1 ⟨rfl, hb⟩
    replace A : Below W.heap.size W w1 := by (refine below_call ?_ hb; (repeat (first | (with_reducible exact Below.refl _ _) | (with_reducible assumption) | (with_reducible refine Near.up _ ?_) | (with_reducible refine Below.drew ?_) | (with_reducible refine below_alloc_on ?_ _) | (with_reducible refine below_set_on ?_ (by first | (simp; done) | (simp; omega) | omega) _))))
    replace P := Box.below (g := W.heap.size) (by (repeat (first | (with_reducible assumption) | (with_reducible exact box_new _ _ _) | ((with_reducible apply box_at); (first | (with_reducible rfl) | (simp <;> omega))) | (with_reducible apply Box.drew) | (with_reducible apply Box.drewN) | (with_reducible apply Box.near) | (with_reducible apply Box.alloc) | ((with_reducible apply box_far); (first | assumption | omega | (simp <;> omega))) | ((with_reducible apply Box.one_set); (with_reducible assumption)) | ((with_reducible apply Box.two_set); (with_reducible assumption)) | ((with_reducible apply Box.three_set); (with_reducible assumption)) | (with_reducible apply Box.set) | (simp only [List.size_toArray, List.length_cons, List.length_nil, Array.size_setIfInBounds] <;> omega)))) hb
    (try simp only [List.setIfInBounds_toArray, List.set_cons_zero, List.set_cons_succ] at P)
    (try clear cP fP)
    clear hb
    have z_w1 : W.heap.size ≤ w1.heap.size := A.size
    obtain ⟨lP_w1, cP, fP⟩ := id P
    go_wp2_with (fail)
    refine (HG.out _).mono ?_
    rintro e w2 ⟨rfl, hb⟩
    replace A : Below W.heap.size W w2 := by (refine below_call ?_ hb; (repeat (first | (with_reducible exact Below.refl _ _) | (with_reducible assumption) | (with_reducible refine Near.up _ ?_) | (with_reducible refine Below.drew ?_) | (with_reducible refine below_alloc_on ?_ _) | (with_reducible refine below_set_on ?_ (by first | (simp; done) | (simp; omega) | omega) _))))
    replace P := Box.below (g := W.heap.size) (by (repeat (first | (with_reducible assumption) | (with_reducible exact box_new _ _ _) | ((with_reducible apply box_at); (first | (with_reducible rfl) | (simp <;> omega))) | (with_reducible apply Box.drew) | (with_reducible apply Box.drewN) | (with_reducible apply Box.near) | (with_reducible apply Box.alloc) | ((with_reducible apply box_far); (first | assumption | omega | (simp <;> omega))) | ((with_reducible apply Box.one_set); (with_reducible assumption)) | ((with_reducible apply Box.two_set); (with_reducible assumption)) | ((with_reducible apply Box.three_set); (with_reducible assumption)) | (with_reducible apply Box.set) | (simp only [List.size_toArray, List.length_cons, List.length_nil, Array.size_setIfInBounds] <;> omega)))) hb
    (try simp only [List.setIfInBounds_toArray, List.set_cons_zero, List.set_cons_succ] at P)
    (try clear cP fP)
    clear hb
    have z_w2 : W.heap.size ≤ w2.heap.size := A.size
    obtain ⟨lP_w2, cP, fP⟩ := id P
    have n1 : ¬ W.heap.size = w2.heap.size := by omega
    go_wp2_with (fail)
    refine (HS.out _).mono ?_
    rintro e w3 ⟨rfl, hb⟩
    replace A : Below W.heap.size W w3 := by (refine below_call ?_ hb; (repeat (first | (with_reducible exact Below.refl _ _) | (with_reducible assumption) | (with_reducible refine Near.up _ ?_) | (with_reducible refine Below.drew ?_) | (with_reducible refine below_alloc_on ?_ _) | (with_reducible refine below_set_on ?_ (by first | (simp; done) | (simp; omega) | omega) _))))
    replace P := Box.below (g := W.heap.size) (by (repeat (first | (with_reducible assumption) | (with_reducible exact box_new _ _ _) | ((with_reducible apply box_at); (first | (with_reducible rfl) | (simp <;> omega))) | (with_reducible apply Box.drew) | (with_reducible apply Box.drewN) | (with_reducible apply Box.near) | (with_reducible apply Box.alloc) | ((with_reducible apply box_far); (first | assumption | omega | (simp <;> omega))) | ((with_reducible apply Box.one_set); (with_reducible assumption)) | ((with_reducible apply Box.two_set); (with_reducible assumption)) | ((with_reducible apply Box.three_set); (with_reducible assumption)) | (with_reducible apply Box.set) | (simp only [List.size_toArray, List.length_cons, List.length_nil, Array.size_setIfInBounds] <;> omega)))) hb
    (try simp only [List.setIfInBounds_toArray, List.set_cons_zero, List.set_cons_succ] at P)
    (try clear cP fP)
    replace F := Box.below (g := w2.heap.size) (by (repeat (first | (with_reducible assumption) | (with_reducible exact box_new _ _ _) | ((with_reducible apply box_at); (first | (with_reducible rfl) | (simp <;> omega))) | (with_reducible apply Box.drew) | (with_reducible apply Box.drewN) | (with_reducible apply Box.near) | (with_reducible apply Box.alloc) | ((with_reducible apply box_far); (first | assumption | omega | (simp <;> omega))) | ((with_reducible apply Box.one_set); (with_reducible assumption)) | ((with_reducible apply Box.two_set); (with_reducible assumption)) | ((with_reducible apply Box.three_set); (with_reducible assumption)) | (with_reducible apply Box.set) | (simp only [List.size_toArray, List.length_cons, List.length_nil, Array.size_setIfInBounds] <;> omega)))) hb
    (try simp only [List.setIfInBounds_toArray, List.set_cons_zero, List.set_cons_succ] at F)
    (try clear cF fF)
    clear hb
    have z_w3 : W.heap.size ≤ w3.heap.size := A.size
    obtain ⟨lP_w3, cP, fP⟩ := id P
    obtain ⟨lF_w3, cF, fF⟩ := id F
    have n2 : ¬ W.heap.size = w3.heap.size := by omega
    have n3 : ¬ w2.heap.size = w3.heap.size := by omega
    go_wp2_with (fail)
    refine (HU.out _).mono ?_
    rintro e w4 ⟨rfl, hb⟩
    replace A : Below W.heap.size W w4 := by (refine below_call ?_ hb; (repeat (first | (with_reducible exact Below.refl _ _) | (with_reducible assumption) | (with_reducible refine Near.up _ ?_) | (with_reducible refine Below.drew ?_) | (with_reducible refine below_alloc_on ?_ _) | (with_reducible refine below_set_on ?_ (by first | (simp; done) | (simp; omega) | omega) _))))
    replace P := Box.below (g := W.heap.size) (by (repeat (first | (with_reducible assumption) | (with_reducible exact box_new _ _ _) | ((with_reducible apply box_at); (first | (with_reducible rfl) | (simp <;> omega))) | (with_reducible apply Box.drew) | (with_reducible apply Box.drewN) | (with_reducible apply Box.near) | (with_reducible apply Box.alloc) | ((with_reducible apply box_far); (first | assumption | omega | (simp <;> omega))) | ((with_reducible apply Box.one_set); (with_reducible assumption)) | ((with_reducible apply Box.two_set); (with_reducible assumption)) | ((with_reducible apply Box.three_set); (with_reducible assumption)) | (with_reducible apply Box.set) | (simp only [List.size_toArray, List.length_cons, List.length_nil, Array.size_setIfInBounds] <;> omega)))) hb
    (try simp only [List.setIfInBounds_toArray, List.set_cons_zero, List.set_cons_succ] at P)
    (try clear cP fP)
    replace F := Box.below (g := w2.heap.size) (by (repeat (first | (with_reducible assumption) | (with_reducible exact box_new _ _ _) | ((with_reducible apply box_at); (first | (with_reducible rfl) | (simp <;> omega))) | (with_reducible apply Box.drew) | (with_reducible apply Box.drewN) | (with_reducible apply Box.near) | (with_reducible apply Box.alloc) | ((with_reducible apply box_far); (first | assumption | omega | (simp <;> omega))) | ((with_reducible apply Box.one_set); (with_reducible assumption)) | ((with_reducible apply Box.two_set); (with_reducible assumption)) | ((with_reducible apply Box.three_set); (with_reducible assumption)) | (with_reducible apply Box.set) | (simp only [List.size_toArray, List.length_cons, List.length_nil, Array.size_setIfInBounds] <;> omega)))) hb
    (try simp only [List.setIfInBounds_toArray, List.set_cons_zero, List.set_cons_succ] at F)
    (try clear cF fF)
    replace G := Box.below (g := w3.heap.size) (by (repeat (first | (with_reducible assumption) | (with_reducible exact box_new _ _ _) | ((with_reducible apply box_at); (first | (with_reducible rfl) | (simp <;> omega))) | (with_reducible apply Box.drew) | (with_reducible apply Box.drewN) | (with_reducible apply Box.near) | (with_reducible apply Box.alloc) | ((with_reducible apply box_far); (first | assumption | omega | (simp <;> omega))) | ((with_reducible apply Box.one_set); (with_reducible assumption)) | ((with_reducible apply Box.two_set); (with_reducible assumption)) | ((with_reducible apply Box.three_set); (with_reducible assumption)) | (with_reducible apply Box.set) | (simp only [List.size_toArray, List.length_cons, List.length_nil, Array.size_setIfInBounds] <;> omega)))) hb
    (try simp only [List.setIfInBounds_toArray, List.set_cons_zero, List.set_cons_succ] at G)
    (try clear cG fG)
    clear hb
    have z_w4 : W.heap.size ≤ w4.heap.size := A.size
    obtain ⟨lP_w4, cP, fP⟩ := id P
    obtain ⟨lF_w4, cF, fF⟩ := id F
    obtain ⟨lG_w4, cG, fG⟩ := id G
    go_wp2_with (fail)
    refine (HR.out _).mono ?_
    rintro e w5 ⟨rfl, hb⟩
    replace A : Below W.heap.size W w5 := by (refine below_call ?_ hb; (repeat (first | (with_reducible exact Below.refl _ _) | (with_reducible assumption) | (with_reducible refine Near.up _ ?_) | (with_reducible refine Below.drew ?_) | (with_reducible refine below_alloc_on ?_ _) | (with_reducible refine below_set_on ?_ (by first | (simp; done) | (simp; omega) | omega) _))))
    replace P := Box.below (g := W.heap.size) (by (repeat (first | (with_reducible assumption) | (with_reducible exact box_new _ _ _) | ((with_reducible apply box_at); (first | (with_reducible rfl) | (simp <;> omega))) | (with_reducible apply Box.drew) | (with_reducible apply Box.drewN) | (with_reducible apply Box.near) | (with_reducible apply Box.alloc) | ((with_reducible apply box_far); (first | assumption | omega | (simp <;> omega))) | ((with_reducible apply Box.one_set); (with_reducible assumption)) | ((with_reducible apply Box.two_set); (with_reducible assumption)) | ((with_reducible apply Box.three_set); (with_reducible assumption)) | (with_reducible apply Box.set) | (simp only [List.size_toArray, List.length_cons, List.length_nil, Array.size_setIfInBounds] <;> omega)))) hb
    (try simp only [List.setIfInBounds_toArray, List.set_cons_zero, List.set_cons_succ] at P)
    (try clear cP fP)
    replace F := Box.below (g := w2.heap.size) (by (repeat (first | (with_reducible assumption) | (with_reducible exact box_new _ _ _) | ((with_reducible apply box_at); (first | (with_reducible rfl) | (simp <;> omega))) | (with_reducible apply Box.drew) | (with_reducible apply Box.drewN) | (with_reducible apply Box.near) | (with_reducible apply Box.alloc) | ((with_reducible apply box_far); (first | assumption | omega | (simp <;> omega))) | ((with_reducible apply Box.one_set); (with_reducible assumption)) | ((with_reducible apply Box.two_set); (with_reducible assumption)) | ((with_reducible apply Box.three_set); (with_reducible assumption)) | (with_reducible apply Box.set) | (simp only [List.size_toArray, List.length_cons, List.length_nil, Array.size_setIfInBounds] <;> omega)))) hb
    (try simp only [List.setIfInBounds_toArray, List.set_cons_zero, List.set_cons_succ] at F)
    (try clear cF fF)
    replace G := Box.below (g := w3.heap.size) (by (repeat (first | (with_reducible assumption) | (with_reducible exact box_new _ _ _) | ((with_reducible apply box_at); (first | (with_reducible rfl) | (simp <;> omega))) | (with_reducible apply Box.drew) | (with_reducible apply Box.drewN) | (with_reducible apply Box.near) | (with_reducible apply Box.alloc) | ((with_reducible apply box_far); (first | assumption | omega | (simp <;> omega))) | ((with_reducible apply Box.one_set); (with_reducible assumption)) | ((with_reducible apply Box.two_set); (with_reducible assumption)) | ((with_reducible apply Box.three_set); (with_reducible assumption)) | (with_reducible apply Box.set) | (simp only [List.size_toArray, List.length_cons, List.length_nil, Array.size_setIfInBounds] <;> omega)))) hb
    (try simp only [List.setIfInBounds_toArray, List.set_cons_zero, List.set_cons_succ] at G)
    (try clear cG fG)
    clear hb
    have z_w5 : W.heap.size ≤ w5.heap.size := A.size
    obtain ⟨lP_w5, cP, fP⟩ := id P
    obtain ⟨lF_w5, cF, fF⟩ := id F
    obtain ⟨lG_w5, cG, fG⟩ := id G
    go_wp2_with (fail)
    refine (law39_awake _).mono ?_
    rintro e w6 ⟨rfl, hb⟩
    replace A : Below W.heap.size W w6 := by (refine below_call ?_ hb; (repeat (first | (with_reducible exact Below.refl _ _) | (with_reducible assumption) | (with_reducible refine Near.up _ ?_) | (with_reducible refine Below.drew ?_) | (with_reducible refine below_alloc_on ?_ _) | (with_reducible refine below_set_on ?_ (by first | (simp; done) | (simp; omega) | omega) _))))
    clear hb
    have z_w6 : W.heap.size ≤ w6.heap.size := A.size
    go_wp2
    all_goals go_ret
    all_goals exact ⟨rfl, A⟩
  · obtain ⟨hT, rfl, rfl, rfl, rfl, rfl, rfl, rfl, rfl⟩ := h1 rfl
    obtain rfl := h2 rfl
    clear h1 h2 h3 hs
    go_enter Try.func9, Try.ntmps9
    go_wp2_with (fail)
    refine (HP.out _).mono ?_
    rintro e w1 ⟨rfl, hb⟩
    replace A : Below W.heap.size W w1 := by (refine below_call ?_ hb; (repeat (first | (with_reducible exact Below.refl _ _) | (with_reducible assumption) | (with_reducible refine Near.up _ ?_) | (with_reducible refine Below.drew ?_) | (with_reducible refine below_alloc_on ?_ _) | (with_reducible refine below_set_on ?_ (by first | (simp; done) | (simp; omega) | omega) _))))
    replace P := Box.below (g := W.heap.size) (by (repeat (first | (with_reducible assumption) | (with_reducible exact box_new _ _ _) | ((with_reducible apply box_at); (first | (with_reducible rfl) | (simp <;> omega))) | (with_reducible apply Box.drew) | (with_reducible apply Box.drewN) | (with_reducible apply Box.near) | (with_reducible apply Box.alloc) | ((with_reducible apply box_far); (first | assumption | omega | (simp <;> omega))) | ((with_reducible apply Box.one_set); (with_reducible assumption)) | ((with_reducible apply Box.two_set); (with_reducible assumption)) | ((with_reducible apply Box.three_set); (with_reducible assumption)) | (with_reducible apply Box.set) | (simp only [List.size_toArray, List.length_cons, List.length_nil, Array.size_setIfInBounds] <;> omega)))) hb
    (try simp only [List.setIfInBounds_toArray, List.set_cons_zero, List.set_cons_succ] at P)
    (try clear cP fP)
    clear hb
    have z_w1 : W.heap.size ≤ w1.heap.size := A.size
    obtain ⟨lP_w1, cP, fP⟩ := id P
    go_wp2_with (fail)
    refine (HG.out _).mono ?_
    rintro e w2 ⟨rfl, hb⟩
    replace A : Below W.heap.size W w2 := by (refine below_call ?_ hb; (repeat (first | (with_reducible exact Below.refl _ _) | (with_reducible assumption) | (with_reducible refine Near.up _ ?_) | (with_reducible refine Below.drew ?_) | (with_reducible refine below_alloc_on ?_ _) | (with_reducible refine below_set_on ?_ (by first | (simp; done) | (simp; omega) | omega) _))))
    replace P := Box.below (g := W.heap.size) (by (repeat (first | (with_reducible assumption) | (with_reducible exact box_new _ _ _) | ((with_reducible apply box_at); (first | (with_reducible rfl) | (simp <;> omega))) | (with_reducible apply Box.drew) | (with_reducible apply Box.drewN) | (with_reducible apply Box.near) | (with_reducible apply Box.alloc) | ((with_reducible apply box_far); (first | assumption | omega | (simp <;> omega))) | ((with_reducible apply Box.one_set); (with_reducible assumption)) | ((with_reducible apply Box.two_set); (with_reducible assumption)) | ((with_reducible apply Box.three_set); (with_reducible assumption)) | (with_reducible apply Box.set) | (simp only [List.size_toArray, List.length_cons, List.length_nil, Array.size_setIfInBounds] <;> omega)))) hb
    (try simp only [List.setIfInBounds_toArray, List.set_cons_zero, List.set_cons_succ] at P)
    (try clear cP fP)
    clear hb
    have z_w2 : W.heap.size ≤ w2.heap.size := A.size
    obtain ⟨lP_w2, cP, fP⟩ := id P
    have n1 : ¬ W.heap.size = w2.heap.size := by omega
    go_wp2_with (fail)
    refine (HS.out _).mono ?_
    rintro e w3 ⟨rfl, hb⟩
    replace A : Below W.heap.size W w3 := by (refine below_call ?_ hb; (repeat (first | (with_reducible exact Below.refl _ _) | (with_reducible assumption) | (with_reducible refine Near.up _ ?_) | (with_reducible refine Below.drew ?_) | (with_reducible refine below_alloc_on ?_ _) | (with_reducible refine below_set_on ?_ (by first | (simp; done) | (simp; omega) | omega) _))))
    replace P := Box.below (g := W.heap.size) (by (repeat (first | (with_reducible assumption) | (with_reducible exact box_new _ _ _) | ((with_reducible apply box_at); (first | (with_reducible rfl) | (simp <;> omega))) | (with_reducible apply Box.drew) | (with_reducible apply Box.drewN) | (with_reducible apply Box.near) | (with_reducible apply Box.alloc) | ((with_reducible apply box_far); (first | assumption | omega | (simp <;> omega))) | ((with_reducible apply Box.one_set); (with_reducible assumption)) | ((with_reducible apply Box.two_set); (with_reducible assumption)) | ((with_reducible apply Box.three_set); (with_reducible assumption)) | (with_reducible apply Box.set) | (simp only [List.size_toArray, List.length_cons, List.length_nil, Array.size_setIfInBounds] <;> omega)))) hb
    (try simp only [List.setIfInBounds_toArray, List.set_cons_zero, List.set_cons_succ] at P)
    (try clear cP fP)
    replace F := Box.below (g := w2.heap.size) (by (repeat (first | (with_reducible assumption) | (with_reducible exact box_new _ _ _) | ((with_reducible apply box_at); (first | (with_reducible rfl) | (simp <;> omega))) | (with_reducible apply Box.drew) | (with_reducible apply Box.drewN) | (with_reducible apply Box.near) | (with_reducible apply Box.alloc) | ((with_reducible apply box_far); (first | assumption | omega | (simp <;> omega))) | ((with_reducible apply Box.one_set); (with_reducible assumption)) | ((with_reducible apply Box.two_set); (with_reducible assumption)) | ((with_reducible apply Box.three_set); (with_reducible assumption)) | (with_reducible apply Box.set) | (simp only [List.size_toArray, List.length_cons, List.length_nil, Array.size_setIfInBounds] <;> omega)))) hb
    (try simp only [List.setIfInBounds_toArray, List.set_cons_zero, List.set_cons_succ] at F)
    (try clear cF fF)
    clear hb
    have z_w3 : W.heap.size ≤ w3.heap.size := A.size
    obtain ⟨lP_w3, cP, fP⟩ := id P
    obtain ⟨lF_w3, cF, fF⟩ := id F
    have n2 : ¬ W.heap.size = w3.heap.size := by omega
    have n3 : ¬ w2.heap.size = w3.heap.size := by omega
    go_wp2_with (fail)
    refine (HU.out _).mono ?_
    rintro e w4 ⟨rfl, hb⟩
    replace A : Below W.heap.size W w4 := by (refine below_call ?_ hb; (repeat (first | (with_reducible exact Below.refl _ _) | (with_reducible assumption) | (with_reducible refine Near.up _ ?_) | (with_reducible refine Below.drew ?_) | (with_reducible refine below_alloc_on ?_ _) | (with_reducible refine below_set_on ?_ (by first | (simp; done) | (simp; omega) | omega) _))))
    replace P := Box.below (g := W.heap.size) (by (repeat (first | (with_reducible assumption) | (with_reducible exact box_new _ _ _) | ((with_reducible apply box_at); (first | (with_reducible rfl) | (simp <;> omega))) | (with_reducible apply Box.drew) | (with_reducible apply Box.drewN) | (with_reducible apply Box.near) | (with_reducible apply Box.alloc) | ((with_reducible apply box_far); (first | assumption | omega | (simp <;> omega))) | ((with_reducible apply Box.one_set); (with_reducible assumption)) | ((with_reducible apply Box.two_set); (with_reducible assumption)) | ((with_reducible apply Box.three_set); (with_reducible assumption)) | (with_reducible apply Box.set) | (simp only [List.size_toArray, List.length_cons, List.length_nil, Array.size_setIfInBounds] <;> omega)))) hb
    (try simp only [List.setIfInBounds_toArray, List.set_cons_zero, List.set_cons_succ] at P)
    (try clear cP fP)
    replace F := Box.below (g := w2.heap.size) (by (repeat (first | (with_reducible assumption) | (with_reducible exact box_new _ _ _) | ((with_reducible apply box_at); (first | (with_reducible rfl) | (simp <;> omega))) | (with_reducible apply Box.drew) | (with_reducible apply Box.drewN) | (with_reducible apply Box.near) | (with_reducible apply Box.alloc) | ((with_reducible apply box_far); (first | assumption | omega | (simp <;> omega))) | ((with_reducible apply Box.one_set); (with_reducible assumption)) | ((with_reducible apply Box.two_set); (with_reducible assumption)) | ((with_reducible apply Box.three_set); (with_reducible assumption)) | (with_reducible apply Box.set) | (simp only [List.size_toArray, List.length_cons, List.length_nil, Array.size_setIfInBounds] <;> omega)))) hb
    (try simp only [List.setIfInBounds_toArray, List.set_cons_zero, List.set_cons_succ] at F)
    (try clear cF fF)
    replace G := Box.below (g := w3.heap.size) (by (repeat (first | (with_reducible assumption) | (with_reducible exact box_new _ _ _) | ((with_reducible apply box_at); (first | (with_reducible rfl) | (simp <;> omega))) | (with_reducible apply Box.drew) | (with_reducible apply Box.drewN) | (with_reducible apply Box.near) | (with_reducible apply Box.alloc) | ((with_reducible apply box_far); (first | assumption | omega | (simp <;> omega))) | ((with_reducible apply Box.one_set); (with_reducible assumption)) | ((with_reducible apply Box.two_set); (with_reducible assumption)) | ((with_reducible apply Box.three_set); (with_reducible assumption)) | (with_reducible apply Box.set) | (simp only [List.size_toArray, List.length_cons, List.length_nil, Array.size_setIfInBounds] <;> omega)))) hb
    (try simp only [List.setIfInBounds_toArray, List.set_cons_zero, List.set_cons_succ] at G)
    (try clear cG fG)
    clear hb
    have z_w4 : W.heap.size ≤ w4.heap.size := A.size
    obtain ⟨lP_w4, cP, fP⟩ := id P
    obtain ⟨lF_w4, cF, fF⟩ := id F
    obtain ⟨lG_w4, cG, fG⟩ := id G
    go_wp2_with (fail)
    refine (HR.out _).mono ?_
    rintro e w5 ⟨rfl, hb⟩
    replace A : Below W.heap.size W w5 := by (refine below_call ?_ hb; (repeat (first | (with_reducible exact Below.refl _ _) | (with_reducible assumption) | (with_reducible refine Near.up _ ?_) | (with_reducible refine Below.drew ?_) | (with_reducible refine below_alloc_on ?_ _) | (with_reducible refine below_set_on ?_ (by first | (simp; done) | (simp; omega) | omega) _))))
    replace P := Box.below (g := W.heap.size) (by (repeat (first | (with_reducible assumption) | (with_reducible exact box_new _ _ _) | ((with_reducible apply box_at); (first | (with_reducible rfl) | (simp <;> omega))) | (with_reducible apply Box.drew) | (with_reducible apply Box.drewN) | (with_reducible apply Box.near) | (with_reducible apply Box.alloc) | ((with_reducible apply box_far); (first | assumption | omega | (simp <;> omega))) | ((with_reducible apply Box.one_set); (with_reducible assumption)) | ((with_reducible apply Box.two_set); (with_reducible assumption)) | ((with_reducible apply Box.three_set); (with_reducible assumption)) | (with_reducible apply Box.set) | (simp only [List.size_toArray, List.length_cons, List.length_nil, Array.size_setIfInBounds] <;> omega)))) hb
    (try simp only [List.setIfInBounds_toArray, List.set_cons_zero, List.set_cons_succ] at P)
    (try clear cP fP)
    replace F := Box.below (g := w2.heap.size) (by (repeat (first | (with_reducible assumption) | (with_reducible exact box_new _ _ _) | ((with_reducible apply box_at); (first | (with_reducible rfl) | (simp <;> omega))) | (with_reducible apply Box.drew) | (with_reducible apply Box.drewN) | (with_reducible apply Box.near) | (with_reducible apply Box.alloc) | ((with_reducible apply box_far); (first | assumption | omega | (simp <;> omega))) | ((with_reducible apply Box.one_set); (with_reducible assumption)) | ((with_reducible apply Box.two_set); (with_reducible assumption)) | ((with_reducible apply Box.three_set); (with_reducible assumption)) | (with_reducible apply Box.set) | (simp only [List.size_toArray, List.length_cons, List.length_nil, Array.size_setIfInBounds] <;> omega)))) hb
    (try simp only [List.setIfInBounds_toArray, List.set_cons_zero, List.set_cons_succ] at F)
    (try clear cF fF)
    replace G := Box.below (g := w3.heap.size) (by (repeat (first | (with_reducible assumption) | (with_reducible exact box_new _ _ _) | ((with_reducible apply box_at); (first | (with_reducible rfl) | (simp <;> omega))) | (with_reducible apply Box.drew) | (with_reducible apply Box.drewN) | (with_reducible apply Box.near) | (with_reducible apply Box.alloc) | ((with_reducible apply box_far); (first | assumption | omega | (simp <;> omega))) | ((with_reducible apply Box.one_set); (with_reducible assumption)) | ((with_reducible apply Box.two_set); (with_reducible assumption)) | ((with_reducible apply Box.three_set); (with_reducible assumption)) | (with_reducible apply Box.set) | (simp only [List.size_toArray, List.length_cons, List.length_nil, Array.size_setIfInBounds] <;> omega)))) hb
    (try simp only [List.setIfInBounds_toArray, List.set_cons_zero, List.set_cons_succ] at G)
    (try clear cG fG)
    clear hb
    have z_w5 : W.heap.size ≤ w5.heap.size := A.size
    obtain ⟨lP_w5, cP, fP⟩ := id P
    obtain ⟨lF_w5, cF, fF⟩ := id F
    obtain ⟨lG_w5, cG, fG⟩ := id G
    go_wp2_with (fail)
    refine (law39_awake _).mono ?_
    rintro e w6 ⟨rfl, hb⟩
    replace A : Below W.heap.size W w6 := by (refine below_call ?_ hb; (repeat (first | (with_reducible exact Below.refl _ _) | (with_reducible assumption) | (with_reducible refine Near.up _ ?_) | (with_reducible refine Below.drew ?_) | (with_reducible refine below_alloc_on ?_ _) | (with_reducible refine below_set_on ?_ (by first | (simp; done) | (simp; omega) | omega) _))))
    clear hb
    have z_w6 : W.heap.size ≤ w6.heap.size := A.size
    go_wp2
    all_goals go_ret
    all_goals exact ⟨rfl, A⟩

theorem walk (W : World) (q : Int) (wq : (Lit.int .i64 q).wf = true) (m : Int) (wm : (Lit.int .i64 m).wf = true) (r : Int) (wr : (Lit.int .i64 r).wf = true) (v : Int) (wv : (Lit.int .i64 v).wf = true) (k : Int) (wk : (Lit.int .i64 k).wf = true) (t : Int) (wt : (Lit.int .i64 t).wf = true) (d : Int) (wd : (Lit.int .i64 d).wf = true) (b : Int) (wb : (Lit.int .i64 b).wf = true) (s : ByteArray) (hs : s.size ≤ maxLen) :
    Calls Try.prog 9 #[.agg #[.int .i64 q, .int .i64 m, .int .i64 r, .int .i64 v, .int .i64 k, .int .i64 t, .int .i64 d, .int .i64 b], .string s] W fun e W' => e = .returned (.bool true) ∧ Below W.heap.size W W' := by
  by_cases hn : 100 < s.size
  · have t0 : decide (100 < (s.size : Int)) = true := decide_eq_true (by omega)
    go_enter Try.func9, Try.ntmps9
    have A : Below W.heap.size W W := Below.refl _ _
    go_wp2_with (fail)
    refine (law39_awake _).mono ?_
    rintro e w1 ⟨rfl, hb⟩
    replace A : Below W.heap.size W w1 := by (refine below_call ?_ hb; (repeat (first | (with_reducible exact Below.refl _ _) | (with_reducible assumption) | (with_reducible refine Near.up _ ?_) | (with_reducible refine Below.drew ?_) | (with_reducible refine below_alloc_on ?_ _) | (with_reducible refine below_set_on ?_ (by first | (simp; done) | (simp; omega) | omega) _))))
    clear hb
    have z_w1 : W.heap.size ≤ w1.heap.size := A.size
    go_wp2
    all_goals go_ret
    all_goals exact ⟨rfl, A⟩
  · have hz : enB 0 0 0 0 0 0 0 0 = false := by decide +kernel
    have e0 : gtB ⟨#[]⟩ = false := by unfold gtB; rw [show openB ⟨#[]⟩ = false by decide +kernel]; rfl
    have hT : (ptS q m r v k t d b).size ≤ 1000000 := by
      cases he : enB q m r v k t d b
      · rw [pt_none he]; decide
      · rw [pt_size he]; omega
    refine way q m r v k t d b s (ptS q m r v k t d b) (ptS (gtV s 0) (gtV s 1) (gtV s 2) (gtV s 3) (gtV s 4) (gtV s 5) (gtV s 6) (gtV s 7)) (enB q m r v k t d b) (gtB s) (gtV (ptS q m r v k t d b) 0) (gtV (ptS q m r v k t d b) 1) (gtV (ptS q m r v k t d b) 2) (gtV (ptS q m r v k t d b) 3) (gtV (ptS q m r v k t d b) 4) (gtV (ptS q m r v k t d b) 5) (gtV (ptS q m r v k t d b) 6) (gtV (ptS q m r v k t d b) 7) (gtV s 0) (gtV s 1) (gtV s 2) (gtV s 3) (gtV s 4) (gtV s 5) (gtV s 6) (gtV s 7) W (by omega) (Lib.hid fun w => j_put q m r v k t d b w) (Lib.hid fun w => ?_) (Lib.hid fun w => j_get s w (by omega)) (Lib.hid fun w => ?_) (Lib.hid fun w => j_right q m r v k t d b w) ?_ ?_ ?_
    · have h := j_get (ptS q m r v k t d b) w hT
      have e : gtB (ptS q m r v k t d b) = enB q m r v k t d b := by
        cases he : enB q m r v k t d b
        · rw [pt_none he]; exact e0
        · exact gt_put he
      rwa [e] at h
    · have h := j_put (gtV s 0) (gtV s 1) (gtV s 2) (gtV s 3) (gtV s 4) (gtV s 5) (gtV s 6) (gtV s 7) w
      have e : enB (gtV s 0) (gtV s 1) (gtV s 2) (gtV s 3) (gtV s 4) (gtV s 5) (gtV s 6) (gtV s 7) = gtB s := by
        cases hg : gtB s
        · simp only [gt_none hg]; exact hz
        · exact (gt_parts hg).2.2
      rwa [e] at h
    · intro he
      refine ⟨pt_size he, ?_⟩
      simp only [gtV_put he, List.getD_cons_zero, List.getD_cons_succ]
      exact ⟨trivial, trivial, trivial, trivial, trivial, trivial, trivial, trivial⟩
    · exact gt_back
    · intro hg
      simp only [gt_none hg]
      exact ⟨trivial, trivial, trivial, trivial, trivial, trivial, trivial, trivial⟩

set_option maxRecDepth 100000 in
theorem lifted (os : Os) (started : os.Started) (H : Type) (enc : TypeId × Value → H) :
    ReturnsInHanded {} Try.checked os 9 .any (Rows.journalBackSpec.pre6 enc Try.prog Try.f9 Rows.journalBackRow.domain false) (Rows.journalBackSpec.post enc Try.prog Try.f9 false true false false) := by
  refine law_lift started (by kernel_rfl) Try.func9 rfl rfl ?_ (by kernel_rfl)
    (ChangeSpec.witness6 (enc := enc) (C := Try.checked) false ⟨#[], #[.agg #[.int .i64 0, .int .i64 0, .int .i64 0, .int .i64 0, .int .i64 0, .int .i64 0, .int .i64 0, .int .i64 0], .string ⟨#[]⟩], []⟩ 8 (by kernel_rfl) (by kernel_rfl) (by kernel_rfl) (by kernel_rfl)) ?_
  · intro ds hl
    match ds, hl with
    | [_, _], _ => exact ⟨rfl, rfl, rfl⟩
  · intro W base args ds p hval hA hlt hwt
    rw [Try.params9] at hA hval hwt
    obtain ⟨v0, vs0, d0, ds0, p0, q0, hargs, rfl, rfl, h0, r0⟩ := trodAll_cons hA
    obtain ⟨v1, vs1, d1, ds1, p1, q1, rfl, rfl, rfl, h1, r1⟩ := trodAll_cons r0
    obtain ⟨rfl, rfl, rfl⟩ := trodAll_nil r1
    obtain rfl : args = #[v0, v1] := by cases args; simp_all
    obtain ⟨cs0, rfl, l0, k0⟩ := open_leaves 5 [.int .i64, .int .i64, .int .i64, .int .i64, .int .i64, .int .i64, .int .i64, .int .i64] (by kernel_rfl) (by kernel_rfl) (hval 0 50 v0 rfl rfl) h0
    match cs0, l0, k0 with
    | [y0_0, y0_1, y0_2, y0_3, y0_4, y0_5, y0_6, y0_7], _, k0 =>
    obtain ⟨x0_0, e0_0, w0_0⟩ : leafIs (.int .i64) y0_0 := k0 0 _ rfl
    subst e0_0
    obtain ⟨x0_1, e0_1, w0_1⟩ : leafIs (.int .i64) y0_1 := k0 1 _ rfl
    subst e0_1
    obtain ⟨x0_2, e0_2, w0_2⟩ : leafIs (.int .i64) y0_2 := k0 2 _ rfl
    subst e0_2
    obtain ⟨x0_3, e0_3, w0_3⟩ : leafIs (.int .i64) y0_3 := k0 3 _ rfl
    subst e0_3
    obtain ⟨x0_4, e0_4, w0_4⟩ : leafIs (.int .i64) y0_4 := k0 4 _ rfl
    subst e0_4
    obtain ⟨x0_5, e0_5, w0_5⟩ : leafIs (.int .i64) y0_5 := k0 5 _ rfl
    subst e0_5
    obtain ⟨x0_6, e0_6, w0_6⟩ : leafIs (.int .i64) y0_6 := k0 6 _ rfl
    subst e0_6
    obtain ⟨x0_7, e0_7, w0_7⟩ : leafIs (.int .i64) y0_7 := k0 7 _ rfl
    subst e0_7
    obtain ⟨a1, rfl, rfl, rfl, w1⟩ := Go.ChangeMaps.open_string Try.underlying9 (hval 1 9 v1 rfl rfl) h1
    exact walk W x0_0 w0_0 x0_1 w0_1 x0_2 w0_2 x0_3 w0_3 x0_4 w0_4 x0_5 w0_5 x0_6 w0_6 x0_7 w0_7 a1 w1

theorem over : Rows.journalBackRow.holds Try.pinned (OpenSpec.ofChange Rows.journalBackSpec) :=
  OpenClaim.holds_of_wide 9 Try.f9 rfl rfl rfl rfl rfl rfl rfl ⟨rfl, rfl, rfl, rfl, rfl⟩ rfl rfl rfl rfl rfl (by kernel_rfl) Try.func9 (by kernel_rfl)
    (of_decide_eq_true (by kernel_rfl)) (by unfold Func.isWrapper; first | (rw [if_pos (by decide +kernel)]; kernel_rfl) | (rw [if_neg (by decide +kernel)]; exact ⟨rfl, rfl⟩))
    (fun os started H enc _ => lifted os started H enc)

theorem proved : Rows.JournalBackSaid := over
#print axioms proved
end Go.Proofs.Ytidmoacjgbjlnaa.journalBack
