/- Contracts of package journal: the newest of two slots; the law package's own. -/
import Derived.Test.YthibaehiponfnaaJour2
import Derived.Deep.CutBlock
namespace Go.Proofs.Ythibaehiponfnaa
open Go.RowKit
set_option linter.unusedVariables false
set_option linter.unusedSimpArgs false
set_option maxRecDepth 100000
attribute [local go_sem] cell_set_ite Near.cell Near.frozen

/-- Is it the first one of two? -/
def nwF (a b : ByteArray) : Bool := gtB a && (!gtB b || decide (gtV b 0 ≤ gtV a 0))
def nwT (a b : ByteArray) : ByteArray := if nwF a b = true then a else b
def nwS (a b : ByteArray) : Int := if nwF a b = true then 0 else if gtB b = true then 1 else 0


set_option maxHeartbeats 4000000 in
theorem nw_1 (a b : ByteArray) (x0 y0 x1 y1 x2 y2 x3 y3 x4 y4 x5 y5 x6 y6 x7 y7 : Int) (w : World)
    (HA : Hid (∀ w, Calls Try.prog 9 #[.string a] w fun e w' => e = .returned (.tuple #[.agg #[.int .i64 x0, .int .i64 x1, .int .i64 x2, .int .i64 x3, .int .i64 x4, .int .i64 x5, .int .i64 x6, .int .i64 x7], .bool true]) ∧ Below w.heap.size w w'))
    (HB : Hid (∀ w, Calls Try.prog 9 #[.string b] w fun e w' => e = .returned (.tuple #[.agg #[.int .i64 y0, .int .i64 y1, .int .i64 y2, .int .i64 y3, .int .i64 y4, .int .i64 y5, .int .i64 y6, .int .i64 y7], .bool true]) ∧ Below w.heap.size w w')) (hle : y0 ≤ x0) :
    Calls Try.prog 17 #[.agg #[.string a, .string b]] w fun e w' => e = .returned (.tuple #[.agg #[.int .i64 x0, .int .i64 x1, .int .i64 x2, .int .i64 x3, .int .i64 x4, .int .i64 x5, .int .i64 x6, .int .i64 x7], .int .i64 0, .bool true]) ∧ Below w.heap.size w w' := by
  have A : Below w.heap.size w w := Below.refl _ _
  have dl := decide_eq_true hle
  go_enter Try.func17, Try.ntmps17
  go_wp2_with (fail)
  refine (HA.out _).mono ?_
  rintro e w1 ⟨rfl, hb⟩
  replace A : Below w.heap.size w w1 := by (refine below_call ?_ hb; (repeat (first | (with_reducible exact Below.refl _ _) | (with_reducible assumption) | (with_reducible refine Near.up _ ?_) | (with_reducible refine Below.drew ?_) | (with_reducible refine below_alloc_on ?_ _) | (with_reducible refine below_set_on ?_ (by first | (simp; done) | (simp; omega) | omega) _))))
  replace P := Box.below (g := w.heap.size) (by (repeat (first | (with_reducible assumption) | (with_reducible exact box_new _ _ _) | ((with_reducible apply box_at); (first | (with_reducible rfl) | (simp <;> omega))) | (with_reducible apply Box.drew) | (with_reducible apply Box.drewN) | (with_reducible apply Box.near) | (with_reducible apply Box.alloc) | ((with_reducible apply box_far); (first | assumption | omega | (simp <;> omega))) | ((with_reducible apply Box.one_set); (with_reducible assumption)) | ((with_reducible apply Box.two_set); (with_reducible assumption)) | ((with_reducible apply Box.three_set); (with_reducible assumption)) | (with_reducible apply Box.set) | (simp only [List.size_toArray, List.length_cons, List.length_nil, Array.size_setIfInBounds] <;> omega)))) hb
  (try simp only [List.setIfInBounds_toArray, List.set_cons_zero, List.set_cons_succ] at P)
  (try clear cP fP)
  replace R := Box.below (g := w.heap.size + 1) (by (repeat (first | (with_reducible assumption) | (with_reducible exact box_new _ _ _) | ((with_reducible apply box_at); (first | (with_reducible rfl) | (simp <;> omega))) | (with_reducible apply Box.drew) | (with_reducible apply Box.drewN) | (with_reducible apply Box.near) | (with_reducible apply Box.alloc) | ((with_reducible apply box_far); (first | assumption | omega | (simp <;> omega))) | ((with_reducible apply Box.one_set); (with_reducible assumption)) | ((with_reducible apply Box.two_set); (with_reducible assumption)) | ((with_reducible apply Box.three_set); (with_reducible assumption)) | (with_reducible apply Box.set) | (simp only [List.size_toArray, List.length_cons, List.length_nil, Array.size_setIfInBounds] <;> omega)))) hb
  (try simp only [List.setIfInBounds_toArray, List.set_cons_zero, List.set_cons_succ] at R)
  (try clear cR fR)
  clear hb
  have z_w1 : w.heap.size ≤ w1.heap.size := A.size
  obtain ⟨lP_w1, cP, fP⟩ := id P
  obtain ⟨lR_w1, cR, fR⟩ := id R
  go_wp2_with (fail)
  refine (HB.out _).mono ?_
  rintro e w2 ⟨rfl, hb⟩
  replace A : Below w.heap.size w w2 := by (refine below_call ?_ hb; (repeat (first | (with_reducible exact Below.refl _ _) | (with_reducible assumption) | (with_reducible refine Near.up _ ?_) | (with_reducible refine Below.drew ?_) | (with_reducible refine below_alloc_on ?_ _) | (with_reducible refine below_set_on ?_ (by first | (simp; done) | (simp; omega) | omega) _))))
  replace P := Box.below (g := w.heap.size) (by (repeat (first | (with_reducible assumption) | (with_reducible exact box_new _ _ _) | ((with_reducible apply box_at); (first | (with_reducible rfl) | (simp <;> omega))) | (with_reducible apply Box.drew) | (with_reducible apply Box.drewN) | (with_reducible apply Box.near) | (with_reducible apply Box.alloc) | ((with_reducible apply box_far); (first | assumption | omega | (simp <;> omega))) | ((with_reducible apply Box.one_set); (with_reducible assumption)) | ((with_reducible apply Box.two_set); (with_reducible assumption)) | ((with_reducible apply Box.three_set); (with_reducible assumption)) | (with_reducible apply Box.set) | (simp only [List.size_toArray, List.length_cons, List.length_nil, Array.size_setIfInBounds] <;> omega)))) hb
  (try simp only [List.setIfInBounds_toArray, List.set_cons_zero, List.set_cons_succ] at P)
  (try clear cP fP)
  replace R := Box.below (g := w.heap.size + 1) (by (repeat (first | (with_reducible assumption) | (with_reducible exact box_new _ _ _) | ((with_reducible apply box_at); (first | (with_reducible rfl) | (simp <;> omega))) | (with_reducible apply Box.drew) | (with_reducible apply Box.drewN) | (with_reducible apply Box.near) | (with_reducible apply Box.alloc) | ((with_reducible apply box_far); (first | assumption | omega | (simp <;> omega))) | ((with_reducible apply Box.one_set); (with_reducible assumption)) | ((with_reducible apply Box.two_set); (with_reducible assumption)) | ((with_reducible apply Box.three_set); (with_reducible assumption)) | (with_reducible apply Box.set) | (simp only [List.size_toArray, List.length_cons, List.length_nil, Array.size_setIfInBounds] <;> omega)))) hb
  (try simp only [List.setIfInBounds_toArray, List.set_cons_zero, List.set_cons_succ] at R)
  (try clear cR fR)
  replace F := Box.below (g := w1.heap.size) (by (repeat (first | (with_reducible assumption) | (with_reducible exact box_new _ _ _) | ((with_reducible apply box_at); (first | (with_reducible rfl) | (simp <;> omega))) | (with_reducible apply Box.drew) | (with_reducible apply Box.drewN) | (with_reducible apply Box.near) | (with_reducible apply Box.alloc) | ((with_reducible apply box_far); (first | assumption | omega | (simp <;> omega))) | ((with_reducible apply Box.one_set); (with_reducible assumption)) | ((with_reducible apply Box.two_set); (with_reducible assumption)) | ((with_reducible apply Box.three_set); (with_reducible assumption)) | (with_reducible apply Box.set) | (simp only [List.size_toArray, List.length_cons, List.length_nil, Array.size_setIfInBounds] <;> omega)))) hb
  (try simp only [List.setIfInBounds_toArray, List.set_cons_zero, List.set_cons_succ] at F)
  (try clear cF fF)
  clear hb
  have z_w2 : w.heap.size ≤ w2.heap.size := A.size
  obtain ⟨lP_w2, cP, fP⟩ := id P
  obtain ⟨lR_w2, cR, fR⟩ := id R
  obtain ⟨lF_w2, cF, fF⟩ := id F
  go_upto_region 3 with (fail)
  refine at_world (fun W => Below w.heap.size w W ∧ Box W (w.heap.size + 1) #[.int .i64 0, .int .i64 0, .int .i64 0, .int .i64 0, .int .i64 0, .int .i64 0, .int .i64 0, .int .i64 0] ∧ Box W w1.heap.size #[.int .i64 x0, .int .i64 x1, .int .i64 x2, .int .i64 x3, .int .i64 x4, .int .i64 x5, .int .i64 x6, .int .i64 x7] ∧ Box W w2.heap.size #[.int .i64 y0, .int .i64 y1, .int .i64 y2, .int .i64 y3, .int .i64 y4, .int .i64 y5, .int .i64 y6, .int .i64 y7]) ⟨by (repeat (first | (with_reducible exact Below.refl _ _) | (with_reducible assumption) | (with_reducible refine Near.up _ ?_) | (with_reducible refine Below.drew ?_) | (with_reducible refine below_alloc_on ?_ _) | (with_reducible refine below_set_on ?_ (by first | (simp; done) | (simp; omega) | omega) _))), by (repeat (first | (with_reducible assumption) | (with_reducible exact box_new _ _ _) | ((with_reducible apply box_at); (first | (with_reducible rfl) | (simp <;> omega))) | (with_reducible apply Box.drew) | (with_reducible apply Box.drewN) | (with_reducible apply Box.near) | (with_reducible apply Box.alloc) | ((with_reducible apply box_far); (first | assumption | omega | (simp <;> omega))) | ((with_reducible apply Box.one_set); (with_reducible assumption)) | ((with_reducible apply Box.two_set); (with_reducible assumption)) | ((with_reducible apply Box.three_set); (with_reducible assumption)) | (with_reducible apply Box.set) | (simp only [List.size_toArray, List.length_cons, List.length_nil, Array.size_setIfInBounds] <;> omega))), by (repeat (first | (with_reducible assumption) | (with_reducible exact box_new _ _ _) | ((with_reducible apply box_at); (first | (with_reducible rfl) | (simp <;> omega))) | (with_reducible apply Box.drew) | (with_reducible apply Box.drewN) | (with_reducible apply Box.near) | (with_reducible apply Box.alloc) | ((with_reducible apply box_far); (first | assumption | omega | (simp <;> omega))) | ((with_reducible apply Box.one_set); (with_reducible assumption)) | ((with_reducible apply Box.two_set); (with_reducible assumption)) | ((with_reducible apply Box.three_set); (with_reducible assumption)) | (with_reducible apply Box.set) | (simp only [List.size_toArray, List.length_cons, List.length_nil, Array.size_setIfInBounds] <;> omega))), by (repeat (first | (with_reducible assumption) | (with_reducible exact box_new _ _ _) | ((with_reducible apply box_at); (first | (with_reducible rfl) | (simp <;> omega))) | (with_reducible apply Box.drew) | (with_reducible apply Box.drewN) | (with_reducible apply Box.near) | (with_reducible apply Box.alloc) | ((with_reducible apply box_far); (first | assumption | omega | (simp <;> omega))) | ((with_reducible apply Box.one_set); (with_reducible assumption)) | ((with_reducible apply Box.two_set); (with_reducible assumption)) | ((with_reducible apply Box.three_set); (with_reducible assumption)) | (with_reducible apply Box.set) | (simp only [List.size_toArray, List.length_cons, List.length_nil, Array.size_setIfInBounds] <;> omega)))⟩ ?_
  rintro w3 ⟨A3, R3, F3, G3⟩
  have n1 : ¬ w.heap.size + 1 = w1.heap.size := by omega
  have n2 : ¬ w.heap.size + 1 = w2.heap.size := by omega
  have n0 : w.heap.size ≤ w.heap.size + 1 := by omega
  clear A R F P cP fP cR fR cF fF
  generalize w2.heap.size = g at *
  generalize w1.heap.size = f at *
  generalize w.heap.size + 1 = r at *
  have n1' : ¬ f = r := fun h => n1 h.symm
  have n2' : ¬ g = r := fun h => n2 h.symm
  obtain ⟨lR, cR, fR⟩ := id R3
  obtain ⟨lF, cF, fF⟩ := id F3
  obtain ⟨lG, cG, fG⟩ := id G3
  clear HA HB R3 F3 G3
  go_wp2
  refine bodyPost_ret (v := .tuple #[.agg #[.int .i64 x0, .int .i64 x1, .int .i64 x2, .int .i64 x3, .int .i64 x4, .int .i64 x5, .int .i64 x6, .int .i64 x7], .int .i64 0, .bool true]) (by simp [results, Try.results17, go_sem, cR]) rfl ⟨rfl, by (repeat (first | (with_reducible exact Below.refl _ _) | (with_reducible assumption) | (with_reducible refine Near.up _ ?_) | (with_reducible refine Below.drew ?_) | (with_reducible refine below_alloc_on ?_ _) | (with_reducible refine below_set_on ?_ (by first | (simp; done) | (simp; omega) | omega) _)))⟩

set_option maxHeartbeats 4000000 in
theorem nw_2 (a b : ByteArray) (x0 y0 x1 y1 x2 y2 x3 y3 x4 y4 x5 y5 x6 y6 x7 y7 : Int) (w : World)
    (HA : Hid (∀ w, Calls Try.prog 9 #[.string a] w fun e w' => e = .returned (.tuple #[.agg #[.int .i64 x0, .int .i64 x1, .int .i64 x2, .int .i64 x3, .int .i64 x4, .int .i64 x5, .int .i64 x6, .int .i64 x7], .bool true]) ∧ Below w.heap.size w w'))
    (HB : Hid (∀ w, Calls Try.prog 9 #[.string b] w fun e w' => e = .returned (.tuple #[.agg #[.int .i64 y0, .int .i64 y1, .int .i64 y2, .int .i64 y3, .int .i64 y4, .int .i64 y5, .int .i64 y6, .int .i64 y7], .bool true]) ∧ Below w.heap.size w w')) (hle : ¬ y0 ≤ x0) :
    Calls Try.prog 17 #[.agg #[.string a, .string b]] w fun e w' => e = .returned (.tuple #[.agg #[.int .i64 y0, .int .i64 y1, .int .i64 y2, .int .i64 y3, .int .i64 y4, .int .i64 y5, .int .i64 y6, .int .i64 y7], .int .i64 1, .bool true]) ∧ Below w.heap.size w w' := by
  have A : Below w.heap.size w w := Below.refl _ _
  have dl := decide_eq_false hle
  go_enter Try.func17, Try.ntmps17
  go_wp2_with (fail)
  refine (HA.out _).mono ?_
  rintro e w1 ⟨rfl, hb⟩
  replace A : Below w.heap.size w w1 := by (refine below_call ?_ hb; (repeat (first | (with_reducible exact Below.refl _ _) | (with_reducible assumption) | (with_reducible refine Near.up _ ?_) | (with_reducible refine Below.drew ?_) | (with_reducible refine below_alloc_on ?_ _) | (with_reducible refine below_set_on ?_ (by first | (simp; done) | (simp; omega) | omega) _))))
  replace P := Box.below (g := w.heap.size) (by (repeat (first | (with_reducible assumption) | (with_reducible exact box_new _ _ _) | ((with_reducible apply box_at); (first | (with_reducible rfl) | (simp <;> omega))) | (with_reducible apply Box.drew) | (with_reducible apply Box.drewN) | (with_reducible apply Box.near) | (with_reducible apply Box.alloc) | ((with_reducible apply box_far); (first | assumption | omega | (simp <;> omega))) | ((with_reducible apply Box.one_set); (with_reducible assumption)) | ((with_reducible apply Box.two_set); (with_reducible assumption)) | ((with_reducible apply Box.three_set); (with_reducible assumption)) | (with_reducible apply Box.set) | (simp only [List.size_toArray, List.length_cons, List.length_nil, Array.size_setIfInBounds] <;> omega)))) hb
  (try simp only [List.setIfInBounds_toArray, List.set_cons_zero, List.set_cons_succ] at P)
  (try clear cP fP)
  replace R := Box.below (g := w.heap.size + 1) (by (repeat (first | (with_reducible assumption) | (with_reducible exact box_new _ _ _) | ((with_reducible apply box_at); (first | (with_reducible rfl) | (simp <;> omega))) | (with_reducible apply Box.drew) | (with_reducible apply Box.drewN) | (with_reducible apply Box.near) | (with_reducible apply Box.alloc) | ((with_reducible apply box_far); (first | assumption | omega | (simp <;> omega))) | ((with_reducible apply Box.one_set); (with_reducible assumption)) | ((with_reducible apply Box.two_set); (with_reducible assumption)) | ((with_reducible apply Box.three_set); (with_reducible assumption)) | (with_reducible apply Box.set) | (simp only [List.size_toArray, List.length_cons, List.length_nil, Array.size_setIfInBounds] <;> omega)))) hb
  (try simp only [List.setIfInBounds_toArray, List.set_cons_zero, List.set_cons_succ] at R)
  (try clear cR fR)
  clear hb
  have z_w1 : w.heap.size ≤ w1.heap.size := A.size
  obtain ⟨lP_w1, cP, fP⟩ := id P
  obtain ⟨lR_w1, cR, fR⟩ := id R
  go_wp2_with (fail)
  refine (HB.out _).mono ?_
  rintro e w2 ⟨rfl, hb⟩
  replace A : Below w.heap.size w w2 := by (refine below_call ?_ hb; (repeat (first | (with_reducible exact Below.refl _ _) | (with_reducible assumption) | (with_reducible refine Near.up _ ?_) | (with_reducible refine Below.drew ?_) | (with_reducible refine below_alloc_on ?_ _) | (with_reducible refine below_set_on ?_ (by first | (simp; done) | (simp; omega) | omega) _))))
  replace P := Box.below (g := w.heap.size) (by (repeat (first | (with_reducible assumption) | (with_reducible exact box_new _ _ _) | ((with_reducible apply box_at); (first | (with_reducible rfl) | (simp <;> omega))) | (with_reducible apply Box.drew) | (with_reducible apply Box.drewN) | (with_reducible apply Box.near) | (with_reducible apply Box.alloc) | ((with_reducible apply box_far); (first | assumption | omega | (simp <;> omega))) | ((with_reducible apply Box.one_set); (with_reducible assumption)) | ((with_reducible apply Box.two_set); (with_reducible assumption)) | ((with_reducible apply Box.three_set); (with_reducible assumption)) | (with_reducible apply Box.set) | (simp only [List.size_toArray, List.length_cons, List.length_nil, Array.size_setIfInBounds] <;> omega)))) hb
  (try simp only [List.setIfInBounds_toArray, List.set_cons_zero, List.set_cons_succ] at P)
  (try clear cP fP)
  replace R := Box.below (g := w.heap.size + 1) (by (repeat (first | (with_reducible assumption) | (with_reducible exact box_new _ _ _) | ((with_reducible apply box_at); (first | (with_reducible rfl) | (simp <;> omega))) | (with_reducible apply Box.drew) | (with_reducible apply Box.drewN) | (with_reducible apply Box.near) | (with_reducible apply Box.alloc) | ((with_reducible apply box_far); (first | assumption | omega | (simp <;> omega))) | ((with_reducible apply Box.one_set); (with_reducible assumption)) | ((with_reducible apply Box.two_set); (with_reducible assumption)) | ((with_reducible apply Box.three_set); (with_reducible assumption)) | (with_reducible apply Box.set) | (simp only [List.size_toArray, List.length_cons, List.length_nil, Array.size_setIfInBounds] <;> omega)))) hb
  (try simp only [List.setIfInBounds_toArray, List.set_cons_zero, List.set_cons_succ] at R)
  (try clear cR fR)
  replace F := Box.below (g := w1.heap.size) (by (repeat (first | (with_reducible assumption) | (with_reducible exact box_new _ _ _) | ((with_reducible apply box_at); (first | (with_reducible rfl) | (simp <;> omega))) | (with_reducible apply Box.drew) | (with_reducible apply Box.drewN) | (with_reducible apply Box.near) | (with_reducible apply Box.alloc) | ((with_reducible apply box_far); (first | assumption | omega | (simp <;> omega))) | ((with_reducible apply Box.one_set); (with_reducible assumption)) | ((with_reducible apply Box.two_set); (with_reducible assumption)) | ((with_reducible apply Box.three_set); (with_reducible assumption)) | (with_reducible apply Box.set) | (simp only [List.size_toArray, List.length_cons, List.length_nil, Array.size_setIfInBounds] <;> omega)))) hb
  (try simp only [List.setIfInBounds_toArray, List.set_cons_zero, List.set_cons_succ] at F)
  (try clear cF fF)
  clear hb
  have z_w2 : w.heap.size ≤ w2.heap.size := A.size
  obtain ⟨lP_w2, cP, fP⟩ := id P
  obtain ⟨lR_w2, cR, fR⟩ := id R
  obtain ⟨lF_w2, cF, fF⟩ := id F
  go_upto_region 3 with (fail)
  refine at_world (fun W => Below w.heap.size w W ∧ Box W (w.heap.size + 1) #[.int .i64 0, .int .i64 0, .int .i64 0, .int .i64 0, .int .i64 0, .int .i64 0, .int .i64 0, .int .i64 0] ∧ Box W w1.heap.size #[.int .i64 x0, .int .i64 x1, .int .i64 x2, .int .i64 x3, .int .i64 x4, .int .i64 x5, .int .i64 x6, .int .i64 x7] ∧ Box W w2.heap.size #[.int .i64 y0, .int .i64 y1, .int .i64 y2, .int .i64 y3, .int .i64 y4, .int .i64 y5, .int .i64 y6, .int .i64 y7]) ⟨by (repeat (first | (with_reducible exact Below.refl _ _) | (with_reducible assumption) | (with_reducible refine Near.up _ ?_) | (with_reducible refine Below.drew ?_) | (with_reducible refine below_alloc_on ?_ _) | (with_reducible refine below_set_on ?_ (by first | (simp; done) | (simp; omega) | omega) _))), by (repeat (first | (with_reducible assumption) | (with_reducible exact box_new _ _ _) | ((with_reducible apply box_at); (first | (with_reducible rfl) | (simp <;> omega))) | (with_reducible apply Box.drew) | (with_reducible apply Box.drewN) | (with_reducible apply Box.near) | (with_reducible apply Box.alloc) | ((with_reducible apply box_far); (first | assumption | omega | (simp <;> omega))) | ((with_reducible apply Box.one_set); (with_reducible assumption)) | ((with_reducible apply Box.two_set); (with_reducible assumption)) | ((with_reducible apply Box.three_set); (with_reducible assumption)) | (with_reducible apply Box.set) | (simp only [List.size_toArray, List.length_cons, List.length_nil, Array.size_setIfInBounds] <;> omega))), by (repeat (first | (with_reducible assumption) | (with_reducible exact box_new _ _ _) | ((with_reducible apply box_at); (first | (with_reducible rfl) | (simp <;> omega))) | (with_reducible apply Box.drew) | (with_reducible apply Box.drewN) | (with_reducible apply Box.near) | (with_reducible apply Box.alloc) | ((with_reducible apply box_far); (first | assumption | omega | (simp <;> omega))) | ((with_reducible apply Box.one_set); (with_reducible assumption)) | ((with_reducible apply Box.two_set); (with_reducible assumption)) | ((with_reducible apply Box.three_set); (with_reducible assumption)) | (with_reducible apply Box.set) | (simp only [List.size_toArray, List.length_cons, List.length_nil, Array.size_setIfInBounds] <;> omega))), by (repeat (first | (with_reducible assumption) | (with_reducible exact box_new _ _ _) | ((with_reducible apply box_at); (first | (with_reducible rfl) | (simp <;> omega))) | (with_reducible apply Box.drew) | (with_reducible apply Box.drewN) | (with_reducible apply Box.near) | (with_reducible apply Box.alloc) | ((with_reducible apply box_far); (first | assumption | omega | (simp <;> omega))) | ((with_reducible apply Box.one_set); (with_reducible assumption)) | ((with_reducible apply Box.two_set); (with_reducible assumption)) | ((with_reducible apply Box.three_set); (with_reducible assumption)) | (with_reducible apply Box.set) | (simp only [List.size_toArray, List.length_cons, List.length_nil, Array.size_setIfInBounds] <;> omega)))⟩ ?_
  rintro w3 ⟨A3, R3, F3, G3⟩
  have n1 : ¬ w.heap.size + 1 = w1.heap.size := by omega
  have n2 : ¬ w.heap.size + 1 = w2.heap.size := by omega
  have n0 : w.heap.size ≤ w.heap.size + 1 := by omega
  clear A R F P cP fP cR fR cF fF
  generalize w2.heap.size = g at *
  generalize w1.heap.size = f at *
  generalize w.heap.size + 1 = r at *
  have n1' : ¬ f = r := fun h => n1 h.symm
  have n2' : ¬ g = r := fun h => n2 h.symm
  obtain ⟨lR, cR, fR⟩ := id R3
  obtain ⟨lF, cF, fF⟩ := id F3
  obtain ⟨lG, cG, fG⟩ := id G3
  clear HA HB R3 F3 G3
  go_wp2
  refine bodyPost_ret (v := .tuple #[.agg #[.int .i64 y0, .int .i64 y1, .int .i64 y2, .int .i64 y3, .int .i64 y4, .int .i64 y5, .int .i64 y6, .int .i64 y7], .int .i64 1, .bool true]) (by simp [results, Try.results17, go_sem, cR]) rfl ⟨rfl, by (repeat (first | (with_reducible exact Below.refl _ _) | (with_reducible assumption) | (with_reducible refine Near.up _ ?_) | (with_reducible refine Below.drew ?_) | (with_reducible refine below_alloc_on ?_ _) | (with_reducible refine below_set_on ?_ (by first | (simp; done) | (simp; omega) | omega) _)))⟩

set_option maxHeartbeats 4000000 in
theorem nw_3 (a b : ByteArray) (x0 y0 x1 y1 x2 y2 x3 y3 x4 y4 x5 y5 x6 y6 x7 y7 : Int) (w : World)
    (HA : Hid (∀ w, Calls Try.prog 9 #[.string a] w fun e w' => e = .returned (.tuple #[.agg #[.int .i64 x0, .int .i64 x1, .int .i64 x2, .int .i64 x3, .int .i64 x4, .int .i64 x5, .int .i64 x6, .int .i64 x7], .bool true]) ∧ Below w.heap.size w w'))
    (HB : Hid (∀ w, Calls Try.prog 9 #[.string b] w fun e w' => e = .returned (.tuple #[.agg #[.int .i64 y0, .int .i64 y1, .int .i64 y2, .int .i64 y3, .int .i64 y4, .int .i64 y5, .int .i64 y6, .int .i64 y7], .bool false]) ∧ Below w.heap.size w w'))  :
    Calls Try.prog 17 #[.agg #[.string a, .string b]] w fun e w' => e = .returned (.tuple #[.agg #[.int .i64 x0, .int .i64 x1, .int .i64 x2, .int .i64 x3, .int .i64 x4, .int .i64 x5, .int .i64 x6, .int .i64 x7], .int .i64 0, .bool true]) ∧ Below w.heap.size w w' := by
  have A : Below w.heap.size w w := Below.refl _ _
  skip
  go_enter Try.func17, Try.ntmps17
  go_wp2_with (fail)
  refine (HA.out _).mono ?_
  rintro e w1 ⟨rfl, hb⟩
  replace A : Below w.heap.size w w1 := by (refine below_call ?_ hb; (repeat (first | (with_reducible exact Below.refl _ _) | (with_reducible assumption) | (with_reducible refine Near.up _ ?_) | (with_reducible refine Below.drew ?_) | (with_reducible refine below_alloc_on ?_ _) | (with_reducible refine below_set_on ?_ (by first | (simp; done) | (simp; omega) | omega) _))))
  replace P := Box.below (g := w.heap.size) (by (repeat (first | (with_reducible assumption) | (with_reducible exact box_new _ _ _) | ((with_reducible apply box_at); (first | (with_reducible rfl) | (simp <;> omega))) | (with_reducible apply Box.drew) | (with_reducible apply Box.drewN) | (with_reducible apply Box.near) | (with_reducible apply Box.alloc) | ((with_reducible apply box_far); (first | assumption | omega | (simp <;> omega))) | ((with_reducible apply Box.one_set); (with_reducible assumption)) | ((with_reducible apply Box.two_set); (with_reducible assumption)) | ((with_reducible apply Box.three_set); (with_reducible assumption)) | (with_reducible apply Box.set) | (simp only [List.size_toArray, List.length_cons, List.length_nil, Array.size_setIfInBounds] <;> omega)))) hb
  (try simp only [List.setIfInBounds_toArray, List.set_cons_zero, List.set_cons_succ] at P)
  (try clear cP fP)
  replace R := Box.below (g := w.heap.size + 1) (by (repeat (first | (with_reducible assumption) | (with_reducible exact box_new _ _ _) | ((with_reducible apply box_at); (first | (with_reducible rfl) | (simp <;> omega))) | (with_reducible apply Box.drew) | (with_reducible apply Box.drewN) | (with_reducible apply Box.near) | (with_reducible apply Box.alloc) | ((with_reducible apply box_far); (first | assumption | omega | (simp <;> omega))) | ((with_reducible apply Box.one_set); (with_reducible assumption)) | ((with_reducible apply Box.two_set); (with_reducible assumption)) | ((with_reducible apply Box.three_set); (with_reducible assumption)) | (with_reducible apply Box.set) | (simp only [List.size_toArray, List.length_cons, List.length_nil, Array.size_setIfInBounds] <;> omega)))) hb
  (try simp only [List.setIfInBounds_toArray, List.set_cons_zero, List.set_cons_succ] at R)
  (try clear cR fR)
  clear hb
  have z_w1 : w.heap.size ≤ w1.heap.size := A.size
  obtain ⟨lP_w1, cP, fP⟩ := id P
  obtain ⟨lR_w1, cR, fR⟩ := id R
  go_wp2_with (fail)
  refine (HB.out _).mono ?_
  rintro e w2 ⟨rfl, hb⟩
  replace A : Below w.heap.size w w2 := by (refine below_call ?_ hb; (repeat (first | (with_reducible exact Below.refl _ _) | (with_reducible assumption) | (with_reducible refine Near.up _ ?_) | (with_reducible refine Below.drew ?_) | (with_reducible refine below_alloc_on ?_ _) | (with_reducible refine below_set_on ?_ (by first | (simp; done) | (simp; omega) | omega) _))))
  replace P := Box.below (g := w.heap.size) (by (repeat (first | (with_reducible assumption) | (with_reducible exact box_new _ _ _) | ((with_reducible apply box_at); (first | (with_reducible rfl) | (simp <;> omega))) | (with_reducible apply Box.drew) | (with_reducible apply Box.drewN) | (with_reducible apply Box.near) | (with_reducible apply Box.alloc) | ((with_reducible apply box_far); (first | assumption | omega | (simp <;> omega))) | ((with_reducible apply Box.one_set); (with_reducible assumption)) | ((with_reducible apply Box.two_set); (with_reducible assumption)) | ((with_reducible apply Box.three_set); (with_reducible assumption)) | (with_reducible apply Box.set) | (simp only [List.size_toArray, List.length_cons, List.length_nil, Array.size_setIfInBounds] <;> omega)))) hb
  (try simp only [List.setIfInBounds_toArray, List.set_cons_zero, List.set_cons_succ] at P)
  (try clear cP fP)
  replace R := Box.below (g := w.heap.size + 1) (by (repeat (first | (with_reducible assumption) | (with_reducible exact box_new _ _ _) | ((with_reducible apply box_at); (first | (with_reducible rfl) | (simp <;> omega))) | (with_reducible apply Box.drew) | (with_reducible apply Box.drewN) | (with_reducible apply Box.near) | (with_reducible apply Box.alloc) | ((with_reducible apply box_far); (first | assumption | omega | (simp <;> omega))) | ((with_reducible apply Box.one_set); (with_reducible assumption)) | ((with_reducible apply Box.two_set); (with_reducible assumption)) | ((with_reducible apply Box.three_set); (with_reducible assumption)) | (with_reducible apply Box.set) | (simp only [List.size_toArray, List.length_cons, List.length_nil, Array.size_setIfInBounds] <;> omega)))) hb
  (try simp only [List.setIfInBounds_toArray, List.set_cons_zero, List.set_cons_succ] at R)
  (try clear cR fR)
  replace F := Box.below (g := w1.heap.size) (by (repeat (first | (with_reducible assumption) | (with_reducible exact box_new _ _ _) | ((with_reducible apply box_at); (first | (with_reducible rfl) | (simp <;> omega))) | (with_reducible apply Box.drew) | (with_reducible apply Box.drewN) | (with_reducible apply Box.near) | (with_reducible apply Box.alloc) | ((with_reducible apply box_far); (first | assumption | omega | (simp <;> omega))) | ((with_reducible apply Box.one_set); (with_reducible assumption)) | ((with_reducible apply Box.two_set); (with_reducible assumption)) | ((with_reducible apply Box.three_set); (with_reducible assumption)) | (with_reducible apply Box.set) | (simp only [List.size_toArray, List.length_cons, List.length_nil, Array.size_setIfInBounds] <;> omega)))) hb
  (try simp only [List.setIfInBounds_toArray, List.set_cons_zero, List.set_cons_succ] at F)
  (try clear cF fF)
  clear hb
  have z_w2 : w.heap.size ≤ w2.heap.size := A.size
  obtain ⟨lP_w2, cP, fP⟩ := id P
  obtain ⟨lR_w2, cR, fR⟩ := id R
  obtain ⟨lF_w2, cF, fF⟩ := id F
  go_upto_region 3 with (fail)
  refine at_world (fun W => Below w.heap.size w W ∧ Box W (w.heap.size + 1) #[.int .i64 0, .int .i64 0, .int .i64 0, .int .i64 0, .int .i64 0, .int .i64 0, .int .i64 0, .int .i64 0] ∧ Box W w1.heap.size #[.int .i64 x0, .int .i64 x1, .int .i64 x2, .int .i64 x3, .int .i64 x4, .int .i64 x5, .int .i64 x6, .int .i64 x7] ∧ Box W w2.heap.size #[.int .i64 y0, .int .i64 y1, .int .i64 y2, .int .i64 y3, .int .i64 y4, .int .i64 y5, .int .i64 y6, .int .i64 y7]) ⟨by (repeat (first | (with_reducible exact Below.refl _ _) | (with_reducible assumption) | (with_reducible refine Near.up _ ?_) | (with_reducible refine Below.drew ?_) | (with_reducible refine below_alloc_on ?_ _) | (with_reducible refine below_set_on ?_ (by first | (simp; done) | (simp; omega) | omega) _))), by (repeat (first | (with_reducible assumption) | (with_reducible exact box_new _ _ _) | ((with_reducible apply box_at); (first | (with_reducible rfl) | (simp <;> omega))) | (with_reducible apply Box.drew) | (with_reducible apply Box.drewN) | (with_reducible apply Box.near) | (with_reducible apply Box.alloc) | ((with_reducible apply box_far); (first | assumption | omega | (simp <;> omega))) | ((with_reducible apply Box.one_set); (with_reducible assumption)) | ((with_reducible apply Box.two_set); (with_reducible assumption)) | ((with_reducible apply Box.three_set); (with_reducible assumption)) | (with_reducible apply Box.set) | (simp only [List.size_toArray, List.length_cons, List.length_nil, Array.size_setIfInBounds] <;> omega))), by (repeat (first | (with_reducible assumption) | (with_reducible exact box_new _ _ _) | ((with_reducible apply box_at); (first | (with_reducible rfl) | (simp <;> omega))) | (with_reducible apply Box.drew) | (with_reducible apply Box.drewN) | (with_reducible apply Box.near) | (with_reducible apply Box.alloc) | ((with_reducible apply box_far); (first | assumption | omega | (simp <;> omega))) | ((with_reducible apply Box.one_set); (with_reducible assumption)) | ((with_reducible apply Box.two_set); (with_reducible assumption)) | ((with_reducible apply Box.three_set); (with_reducible assumption)) | (with_reducible apply Box.set) | (simp only [List.size_toArray, List.length_cons, List.length_nil, Array.size_setIfInBounds] <;> omega))), by (repeat (first | (with_reducible assumption) | (with_reducible exact box_new _ _ _) | ((with_reducible apply box_at); (first | (with_reducible rfl) | (simp <;> omega))) | (with_reducible apply Box.drew) | (with_reducible apply Box.drewN) | (with_reducible apply Box.near) | (with_reducible apply Box.alloc) | ((with_reducible apply box_far); (first | assumption | omega | (simp <;> omega))) | ((with_reducible apply Box.one_set); (with_reducible assumption)) | ((with_reducible apply Box.two_set); (with_reducible assumption)) | ((with_reducible apply Box.three_set); (with_reducible assumption)) | (with_reducible apply Box.set) | (simp only [List.size_toArray, List.length_cons, List.length_nil, Array.size_setIfInBounds] <;> omega)))⟩ ?_
  rintro w3 ⟨A3, R3, F3, G3⟩
  have n1 : ¬ w.heap.size + 1 = w1.heap.size := by omega
  have n2 : ¬ w.heap.size + 1 = w2.heap.size := by omega
  have n0 : w.heap.size ≤ w.heap.size + 1 := by omega
  clear A R F P cP fP cR fR cF fF
  generalize w2.heap.size = g at *
  generalize w1.heap.size = f at *
  generalize w.heap.size + 1 = r at *
  have n1' : ¬ f = r := fun h => n1 h.symm
  have n2' : ¬ g = r := fun h => n2 h.symm
  obtain ⟨lR, cR, fR⟩ := id R3
  obtain ⟨lF, cF, fF⟩ := id F3
  obtain ⟨lG, cG, fG⟩ := id G3
  clear HA HB R3 F3 G3
  go_wp2
  refine bodyPost_ret (v := .tuple #[.agg #[.int .i64 x0, .int .i64 x1, .int .i64 x2, .int .i64 x3, .int .i64 x4, .int .i64 x5, .int .i64 x6, .int .i64 x7], .int .i64 0, .bool true]) (by simp [results, Try.results17, go_sem, cR]) rfl ⟨rfl, by (repeat (first | (with_reducible exact Below.refl _ _) | (with_reducible assumption) | (with_reducible refine Near.up _ ?_) | (with_reducible refine Below.drew ?_) | (with_reducible refine below_alloc_on ?_ _) | (with_reducible refine below_set_on ?_ (by first | (simp; done) | (simp; omega) | omega) _)))⟩

set_option maxHeartbeats 4000000 in
theorem nw_4 (a b : ByteArray) (x0 y0 x1 y1 x2 y2 x3 y3 x4 y4 x5 y5 x6 y6 x7 y7 : Int) (w : World)
    (HA : Hid (∀ w, Calls Try.prog 9 #[.string a] w fun e w' => e = .returned (.tuple #[.agg #[.int .i64 x0, .int .i64 x1, .int .i64 x2, .int .i64 x3, .int .i64 x4, .int .i64 x5, .int .i64 x6, .int .i64 x7], .bool false]) ∧ Below w.heap.size w w'))
    (HB : Hid (∀ w, Calls Try.prog 9 #[.string b] w fun e w' => e = .returned (.tuple #[.agg #[.int .i64 y0, .int .i64 y1, .int .i64 y2, .int .i64 y3, .int .i64 y4, .int .i64 y5, .int .i64 y6, .int .i64 y7], .bool true]) ∧ Below w.heap.size w w'))  :
    Calls Try.prog 17 #[.agg #[.string a, .string b]] w fun e w' => e = .returned (.tuple #[.agg #[.int .i64 y0, .int .i64 y1, .int .i64 y2, .int .i64 y3, .int .i64 y4, .int .i64 y5, .int .i64 y6, .int .i64 y7], .int .i64 1, .bool true]) ∧ Below w.heap.size w w' := by
  have A : Below w.heap.size w w := Below.refl _ _
  skip
  go_enter Try.func17, Try.ntmps17
  go_wp2_with (fail)
  refine (HA.out _).mono ?_
  rintro e w1 ⟨rfl, hb⟩
  replace A : Below w.heap.size w w1 := by (refine below_call ?_ hb; (repeat (first | (with_reducible exact Below.refl _ _) | (with_reducible assumption) | (with_reducible refine Near.up _ ?_) | (with_reducible refine Below.drew ?_) | (with_reducible refine below_alloc_on ?_ _) | (with_reducible refine below_set_on ?_ (by first | (simp; done) | (simp; omega) | omega) _))))
  replace P := Box.below (g := w.heap.size) (by (repeat (first | (with_reducible assumption) | (with_reducible exact box_new _ _ _) | ((with_reducible apply box_at); (first | (with_reducible rfl) | (simp <;> omega))) | (with_reducible apply Box.drew) | (with_reducible apply Box.drewN) | (with_reducible apply Box.near) | (with_reducible apply Box.alloc) | ((with_reducible apply box_far); (first | assumption | omega | (simp <;> omega))) | ((with_reducible apply Box.one_set); (with_reducible assumption)) | ((with_reducible apply Box.two_set); (with_reducible assumption)) | ((with_reducible apply Box.three_set); (with_reducible assumption)) | (with_reducible apply Box.set) | (simp only [List.size_toArray, List.length_cons, List.length_nil, Array.size_setIfInBounds] <;> omega)))) hb
  (try simp only [List.setIfInBounds_toArray, List.set_cons_zero, List.set_cons_succ] at P)
  (try clear cP fP)
  replace R := Box.below (g := w.heap.size + 1) (by (repeat (first | (with_reducible assumption) | (with_reducible exact box_new _ _ _) | ((with_reducible apply box_at); (first | (with_reducible rfl) | (simp <;> omega))) | (with_reducible apply Box.drew) | (with_reducible apply Box.drewN) | (with_reducible apply Box.near) | (with_reducible apply Box.alloc) | ((with_reducible apply box_far); (first | assumption | omega | (simp <;> omega))) | ((with_reducible apply Box.one_set); (with_reducible assumption)) | ((with_reducible apply Box.two_set); (with_reducible assumption)) | ((with_reducible apply Box.three_set); (with_reducible assumption)) | (with_reducible apply Box.set) | (simp only [List.size_toArray, List.length_cons, List.length_nil, Array.size_setIfInBounds] <;> omega)))) hb
  (try simp only [List.setIfInBounds_toArray, List.set_cons_zero, List.set_cons_succ] at R)
  (try clear cR fR)
  clear hb
  have z_w1 : w.heap.size ≤ w1.heap.size := A.size
  obtain ⟨lP_w1, cP, fP⟩ := id P
  obtain ⟨lR_w1, cR, fR⟩ := id R
  go_wp2_with (fail)
  refine (HB.out _).mono ?_
  rintro e w2 ⟨rfl, hb⟩
  replace A : Below w.heap.size w w2 := by (refine below_call ?_ hb; (repeat (first | (with_reducible exact Below.refl _ _) | (with_reducible assumption) | (with_reducible refine Near.up _ ?_) | (with_reducible refine Below.drew ?_) | (with_reducible refine below_alloc_on ?_ _) | (with_reducible refine below_set_on ?_ (by first | (simp; done) | (simp; omega) | omega) _))))
  replace P := Box.below (g := w.heap.size) (by (repeat (first | (with_reducible assumption) | (with_reducible exact box_new _ _ _) | ((with_reducible apply box_at); (first | (with_reducible rfl) | (simp <;> omega))) | (with_reducible apply Box.drew) | (with_reducible apply Box.drewN) | (with_reducible apply Box.near) | (with_reducible apply Box.alloc) | ((with_reducible apply box_far); (first | assumption | omega | (simp <;> omega))) | ((with_reducible apply Box.one_set); (with_reducible assumption)) | ((with_reducible apply Box.two_set); (with_reducible assumption)) | ((with_reducible apply Box.three_set); (with_reducible assumption)) | (with_reducible apply Box.set) | (simp only [List.size_toArray, List.length_cons, List.length_nil, Array.size_setIfInBounds] <;> omega)))) hb
  (try simp only [List.setIfInBounds_toArray, List.set_cons_zero, List.set_cons_succ] at P)
  (try clear cP fP)
  replace R := Box.below (g := w.heap.size + 1) (by (repeat (first | (with_reducible assumption) | (with_reducible exact box_new _ _ _) | ((with_reducible apply box_at); (first | (with_reducible rfl) | (simp <;> omega))) | (with_reducible apply Box.drew) | (with_reducible apply Box.drewN) | (with_reducible apply Box.near) | (with_reducible apply Box.alloc) | ((with_reducible apply box_far); (first | assumption | omega | (simp <;> omega))) | ((with_reducible apply Box.one_set); (with_reducible assumption)) | ((with_reducible apply Box.two_set); (with_reducible assumption)) | ((with_reducible apply Box.three_set); (with_reducible assumption)) | (with_reducible apply Box.set) | (simp only [List.size_toArray, List.length_cons, List.length_nil, Array.size_setIfInBounds] <;> omega)))) hb
  (try simp only [List.setIfInBounds_toArray, List.set_cons_zero, List.set_cons_succ] at R)
  (try clear cR fR)
  replace F := Box.below (g := w1.heap.size) (by (repeat (first | (with_reducible assumption) | (with_reducible exact box_new _ _ _) | ((with_reducible apply box_at); (first | (with_reducible rfl) | (simp <;> omega))) | (with_reducible apply Box.drew) | (with_reducible apply Box.drewN) | (with_reducible apply Box.near) | (with_reducible apply Box.alloc) | ((with_reducible apply box_far); (first | assumption | omega | (simp <;> omega))) | ((with_reducible apply Box.one_set); (with_reducible assumption)) | ((with_reducible apply Box.two_set); (with_reducible assumption)) | ((with_reducible apply Box.three_set); (with_reducible assumption)) | (with_reducible apply Box.set) | (simp only [List.size_toArray, List.length_cons, List.length_nil, Array.size_setIfInBounds] <;> omega)))) hb
  (try simp only [List.setIfInBounds_toArray, List.set_cons_zero, List.set_cons_succ] at F)
  (try clear cF fF)
  clear hb
  have z_w2 : w.heap.size ≤ w2.heap.size := A.size
  obtain ⟨lP_w2, cP, fP⟩ := id P
  obtain ⟨lR_w2, cR, fR⟩ := id R
  obtain ⟨lF_w2, cF, fF⟩ := id F
  go_upto_region 3 with (fail)
  refine at_world (fun W => Below w.heap.size w W ∧ Box W (w.heap.size + 1) #[.int .i64 0, .int .i64 0, .int .i64 0, .int .i64 0, .int .i64 0, .int .i64 0, .int .i64 0, .int .i64 0] ∧ Box W w1.heap.size #[.int .i64 x0, .int .i64 x1, .int .i64 x2, .int .i64 x3, .int .i64 x4, .int .i64 x5, .int .i64 x6, .int .i64 x7] ∧ Box W w2.heap.size #[.int .i64 y0, .int .i64 y1, .int .i64 y2, .int .i64 y3, .int .i64 y4, .int .i64 y5, .int .i64 y6, .int .i64 y7]) ⟨by (repeat (first | (with_reducible exact Below.refl _ _) | (with_reducible assumption) | (with_reducible refine Near.up _ ?_) | (with_reducible refine Below.drew ?_) | (with_reducible refine below_alloc_on ?_ _) | (with_reducible refine below_set_on ?_ (by first | (simp; done) | (simp; omega) | omega) _))), by (repeat (first | (with_reducible assumption) | (with_reducible exact box_new _ _ _) | ((with_reducible apply box_at); (first | (with_reducible rfl) | (simp <;> omega))) | (with_reducible apply Box.drew) | (with_reducible apply Box.drewN) | (with_reducible apply Box.near) | (with_reducible apply Box.alloc) | ((with_reducible apply box_far); (first | assumption | omega | (simp <;> omega))) | ((with_reducible apply Box.one_set); (with_reducible assumption)) | ((with_reducible apply Box.two_set); (with_reducible assumption)) | ((with_reducible apply Box.three_set); (with_reducible assumption)) | (with_reducible apply Box.set) | (simp only [List.size_toArray, List.length_cons, List.length_nil, Array.size_setIfInBounds] <;> omega))), by (repeat (first | (with_reducible assumption) | (with_reducible exact box_new _ _ _) | ((with_reducible apply box_at); (first | (with_reducible rfl) | (simp <;> omega))) | (with_reducible apply Box.drew) | (with_reducible apply Box.drewN) | (with_reducible apply Box.near) | (with_reducible apply Box.alloc) | ((with_reducible apply box_far); (first | assumption | omega | (simp <;> omega))) | ((with_reducible apply Box.one_set); (with_reducible assumption)) | ((with_reducible apply Box.two_set); (with_reducible assumption)) | ((with_reducible apply Box.three_set); (with_reducible assumption)) | (with_reducible apply Box.set) | (simp only [List.size_toArray, List.length_cons, List.length_nil, Array.size_setIfInBounds] <;> omega))), by (repeat (first | (with_reducible assumption) | (with_reducible exact box_new _ _ _) | ((with_reducible apply box_at); (first | (with_reducible rfl) | (simp <;> omega))) | (with_reducible apply Box.drew) | (with_reducible apply Box.drewN) | (with_reducible apply Box.near) | (with_reducible apply Box.alloc) | ((with_reducible apply box_far); (first | assumption | omega | (simp <;> omega))) | ((with_reducible apply Box.one_set); (with_reducible assumption)) | ((with_reducible apply Box.two_set); (with_reducible assumption)) | ((with_reducible apply Box.three_set); (with_reducible assumption)) | (with_reducible apply Box.set) | (simp only [List.size_toArray, List.length_cons, List.length_nil, Array.size_setIfInBounds] <;> omega)))⟩ ?_
  rintro w3 ⟨A3, R3, F3, G3⟩
  have n1 : ¬ w.heap.size + 1 = w1.heap.size := by omega
  have n2 : ¬ w.heap.size + 1 = w2.heap.size := by omega
  have n0 : w.heap.size ≤ w.heap.size + 1 := by omega
  clear A R F P cP fP cR fR cF fF
  generalize w2.heap.size = g at *
  generalize w1.heap.size = f at *
  generalize w.heap.size + 1 = r at *
  have n1' : ¬ f = r := fun h => n1 h.symm
  have n2' : ¬ g = r := fun h => n2 h.symm
  obtain ⟨lR, cR, fR⟩ := id R3
  obtain ⟨lF, cF, fF⟩ := id F3
  obtain ⟨lG, cG, fG⟩ := id G3
  clear HA HB R3 F3 G3
  go_wp2
  refine bodyPost_ret (v := .tuple #[.agg #[.int .i64 y0, .int .i64 y1, .int .i64 y2, .int .i64 y3, .int .i64 y4, .int .i64 y5, .int .i64 y6, .int .i64 y7], .int .i64 1, .bool true]) (by simp [results, Try.results17, go_sem, cR]) rfl ⟨rfl, by (repeat (first | (with_reducible exact Below.refl _ _) | (with_reducible assumption) | (with_reducible refine Near.up _ ?_) | (with_reducible refine Below.drew ?_) | (with_reducible refine below_alloc_on ?_ _) | (with_reducible refine below_set_on ?_ (by first | (simp; done) | (simp; omega) | omega) _)))⟩

set_option maxHeartbeats 4000000 in
theorem nw_5 (a b : ByteArray) (x0 y0 x1 y1 x2 y2 x3 y3 x4 y4 x5 y5 x6 y6 x7 y7 : Int) (w : World)
    (HA : Hid (∀ w, Calls Try.prog 9 #[.string a] w fun e w' => e = .returned (.tuple #[.agg #[.int .i64 x0, .int .i64 x1, .int .i64 x2, .int .i64 x3, .int .i64 x4, .int .i64 x5, .int .i64 x6, .int .i64 x7], .bool false]) ∧ Below w.heap.size w w'))
    (HB : Hid (∀ w, Calls Try.prog 9 #[.string b] w fun e w' => e = .returned (.tuple #[.agg #[.int .i64 y0, .int .i64 y1, .int .i64 y2, .int .i64 y3, .int .i64 y4, .int .i64 y5, .int .i64 y6, .int .i64 y7], .bool false]) ∧ Below w.heap.size w w'))  :
    Calls Try.prog 17 #[.agg #[.string a, .string b]] w fun e w' => e = .returned (.tuple #[.agg #[.int .i64 0, .int .i64 0, .int .i64 0, .int .i64 0, .int .i64 0, .int .i64 0, .int .i64 0, .int .i64 0], .int .i64 0, .bool false]) ∧ Below w.heap.size w w' := by
  have A : Below w.heap.size w w := Below.refl _ _
  skip
  go_enter Try.func17, Try.ntmps17
  go_wp2_with (fail)
  refine (HA.out _).mono ?_
  rintro e w1 ⟨rfl, hb⟩
  replace A : Below w.heap.size w w1 := by (refine below_call ?_ hb; (repeat (first | (with_reducible exact Below.refl _ _) | (with_reducible assumption) | (with_reducible refine Near.up _ ?_) | (with_reducible refine Below.drew ?_) | (with_reducible refine below_alloc_on ?_ _) | (with_reducible refine below_set_on ?_ (by first | (simp; done) | (simp; omega) | omega) _))))
  replace P := Box.below (g := w.heap.size) (by (repeat (first | (with_reducible assumption) | (with_reducible exact box_new _ _ _) | ((with_reducible apply box_at); (first | (with_reducible rfl) | (simp <;> omega))) | (with_reducible apply Box.drew) | (with_reducible apply Box.drewN) | (with_reducible apply Box.near) | (with_reducible apply Box.alloc) | ((with_reducible apply box_far); (first | assumption | omega | (simp <;> omega))) | ((with_reducible apply Box.one_set); (with_reducible assumption)) | ((with_reducible apply Box.two_set); (with_reducible assumption)) | ((with_reducible apply Box.three_set); (with_reducible assumption)) | (with_reducible apply Box.set) | (simp only [List.size_toArray, List.length_cons, List.length_nil, Array.size_setIfInBounds] <;> omega)))) hb
  (try simp only [List.setIfInBounds_toArray, List.set_cons_zero, List.set_cons_succ] at P)
  (try clear cP fP)
  replace R := Box.below (g := w.heap.size + 1) (by (repeat (first | (with_reducible assumption) | (with_reducible exact box_new _ _ _) | ((with_reducible apply box_at); (first | (with_reducible rfl) | (simp <;> omega))) | (with_reducible apply Box.drew) | (with_reducible apply Box.drewN) | (with_reducible apply Box.near) | (with_reducible apply Box.alloc) | ((with_reducible apply box_far); (first | assumption | omega | (simp <;> omega))) | ((with_reducible apply Box.one_set); (with_reducible assumption)) | ((with_reducible apply Box.two_set); (with_reducible assumption)) | ((with_reducible apply Box.three_set); (with_reducible assumption)) | (with_reducible apply Box.set) | (simp only [List.size_toArray, List.length_cons, List.length_nil, Array.size_setIfInBounds] <;> omega)))) hb
  (try simp only [List.setIfInBounds_toArray, List.set_cons_zero, List.set_cons_succ] at R)
  (try clear cR fR)
  clear hb
  have z_w1 : w.heap.size ≤ w1.heap.size := A.size
  obtain ⟨lP_w1, cP, fP⟩ := id P
  obtain ⟨lR_w1, cR, fR⟩ := id R
  go_wp2_with (fail)
  refine (HB.out _).mono ?_
  rintro e w2 ⟨rfl, hb⟩
  replace A : Below w.heap.size w w2 := by (refine below_call ?_ hb; (repeat (first | (with_reducible exact Below.refl _ _) | (with_reducible assumption) | (with_reducible refine Near.up _ ?_) | (with_reducible refine Below.drew ?_) | (with_reducible refine below_alloc_on ?_ _) | (with_reducible refine below_set_on ?_ (by first | (simp; done) | (simp; omega) | omega) _))))
  replace P := Box.below (g := w.heap.size) (by (repeat (first | (with_reducible assumption) | (with_reducible exact box_new _ _ _) | ((with_reducible apply box_at); (first | (with_reducible rfl) | (simp <;> omega))) | (with_reducible apply Box.drew) | (with_reducible apply Box.drewN) | (with_reducible apply Box.near) | (with_reducible apply Box.alloc) | ((with_reducible apply box_far); (first | assumption | omega | (simp <;> omega))) | ((with_reducible apply Box.one_set); (with_reducible assumption)) | ((with_reducible apply Box.two_set); (with_reducible assumption)) | ((with_reducible apply Box.three_set); (with_reducible assumption)) | (with_reducible apply Box.set) | (simp only [List.size_toArray, List.length_cons, List.length_nil, Array.size_setIfInBounds] <;> omega)))) hb
  (try simp only [List.setIfInBounds_toArray, List.set_cons_zero, List.set_cons_succ] at P)
  (try clear cP fP)
  replace R := Box.below (g := w.heap.size + 1) (by (repeat (first | (with_reducible assumption) | (with_reducible exact box_new _ _ _) | ((with_reducible apply box_at); (first | (with_reducible rfl) | (simp <;> omega))) | (with_reducible apply Box.drew) | (with_reducible apply Box.drewN) | (with_reducible apply Box.near) | (with_reducible apply Box.alloc) | ((with_reducible apply box_far); (first | assumption | omega | (simp <;> omega))) | ((with_reducible apply Box.one_set); (with_reducible assumption)) | ((with_reducible apply Box.two_set); (with_reducible assumption)) | ((with_reducible apply Box.three_set); (with_reducible assumption)) | (with_reducible apply Box.set) | (simp only [List.size_toArray, List.length_cons, List.length_nil, Array.size_setIfInBounds] <;> omega)))) hb
  (try simp only [List.setIfInBounds_toArray, List.set_cons_zero, List.set_cons_succ] at R)
  (try clear cR fR)
  replace F := Box.below (g := w1.heap.size) (by (repeat (first | (with_reducible assumption) | (with_reducible exact box_new _ _ _) | ((with_reducible apply box_at); (first | (with_reducible rfl) | (simp <;> omega))) | (with_reducible apply Box.drew) | (with_reducible apply Box.drewN) | (with_reducible apply Box.near) | (with_reducible apply Box.alloc) | ((with_reducible apply box_far); (first | assumption | omega | (simp <;> omega))) | ((with_reducible apply Box.one_set); (with_reducible assumption)) | ((with_reducible apply Box.two_set); (with_reducible assumption)) | ((with_reducible apply Box.three_set); (with_reducible assumption)) | (with_reducible apply Box.set) | (simp only [List.size_toArray, List.length_cons, List.length_nil, Array.size_setIfInBounds] <;> omega)))) hb
  (try simp only [List.setIfInBounds_toArray, List.set_cons_zero, List.set_cons_succ] at F)
  (try clear cF fF)
  clear hb
  have z_w2 : w.heap.size ≤ w2.heap.size := A.size
  obtain ⟨lP_w2, cP, fP⟩ := id P
  obtain ⟨lR_w2, cR, fR⟩ := id R
  obtain ⟨lF_w2, cF, fF⟩ := id F
  go_upto_region 3 with (fail)
  refine at_world (fun W => Below w.heap.size w W ∧ Box W (w.heap.size + 1) #[.int .i64 0, .int .i64 0, .int .i64 0, .int .i64 0, .int .i64 0, .int .i64 0, .int .i64 0, .int .i64 0] ∧ Box W w1.heap.size #[.int .i64 x0, .int .i64 x1, .int .i64 x2, .int .i64 x3, .int .i64 x4, .int .i64 x5, .int .i64 x6, .int .i64 x7] ∧ Box W w2.heap.size #[.int .i64 y0, .int .i64 y1, .int .i64 y2, .int .i64 y3, .int .i64 y4, .int .i64 y5, .int .i64 y6, .int .i64 y7]) ⟨by (repeat (first | (with_reducible exact Below.refl _ _) | (with_reducible assumption) | (with_reducible refine Near.up _ ?_) | (with_reducible refine Below.drew ?_) | (with_reducible refine below_alloc_on ?_ _) | (with_reducible refine below_set_on ?_ (by first | (simp; done) | (simp; omega) | omega) _))), by (repeat (first | (with_reducible assumption) | (with_reducible exact box_new _ _ _) | ((with_reducible apply box_at); (first | (with_reducible rfl) | (simp <;> omega))) | (with_reducible apply Box.drew) | (with_reducible apply Box.drewN) | (with_reducible apply Box.near) | (with_reducible apply Box.alloc) | ((with_reducible apply box_far); (first | assumption | omega | (simp <;> omega))) | ((with_reducible apply Box.one_set); (with_reducible assumption)) | ((with_reducible apply Box.two_set); (with_reducible assumption)) | ((with_reducible apply Box.three_set); (with_reducible assumption)) | (with_reducible apply Box.set) | (simp only [List.size_toArray, List.length_cons, List.length_nil, Array.size_setIfInBounds] <;> omega))), by (repeat (first | (with_reducible assumption) | (with_reducible exact box_new _ _ _) | ((with_reducible apply box_at); (first | (with_reducible rfl) | (simp <;> omega))) | (with_reducible apply Box.drew) | (with_reducible apply Box.drewN) | (with_reducible apply Box.near) | (with_reducible apply Box.alloc) | ((with_reducible apply box_far); (first | assumption | omega | (simp <;> omega))) | ((with_reducible apply Box.one_set); (with_reducible assumption)) | ((with_reducible apply Box.two_set); (with_reducible assumption)) | ((with_reducible apply Box.three_set); (with_reducible assumption)) | (with_reducible apply Box.set) | (simp only [List.size_toArray, List.length_cons, List.length_nil, Array.size_setIfInBounds] <;> omega))), by (repeat (first | (with_reducible assumption) | (with_reducible exact box_new _ _ _) | ((with_reducible apply box_at); (first | (with_reducible rfl) | (simp <;> omega))) | (with_reducible apply Box.drew) | (with_reducible apply Box.drewN) | (with_reducible apply Box.near) | (with_reducible apply Box.alloc) | ((with_reducible apply box_far); (first | assumption | omega | (simp <;> omega))) | ((with_reducible apply Box.one_set); (with_reducible assumption)) | ((with_reducible apply Box.two_set); (with_reducible assumption)) | ((with_reducible apply Box.three_set); (with_reducible assumption)) | (with_reducible apply Box.set) | (simp only [List.size_toArray, List.length_cons, List.length_nil, Array.size_setIfInBounds] <;> omega)))⟩ ?_
  rintro w3 ⟨A3, R3, F3, G3⟩
  have n1 : ¬ w.heap.size + 1 = w1.heap.size := by omega
  have n2 : ¬ w.heap.size + 1 = w2.heap.size := by omega
  have n0 : w.heap.size ≤ w.heap.size + 1 := by omega
  clear A R F P cP fP cR fR cF fF
  generalize w2.heap.size = g at *
  generalize w1.heap.size = f at *
  generalize w.heap.size + 1 = r at *
  have n1' : ¬ f = r := fun h => n1 h.symm
  have n2' : ¬ g = r := fun h => n2 h.symm
  obtain ⟨lR, cR, fR⟩ := id R3
  obtain ⟨lF, cF, fF⟩ := id F3
  obtain ⟨lG, cG, fG⟩ := id G3
  clear HA HB R3 F3 G3
  go_wp2
  refine bodyPost_ret (v := .tuple #[.agg #[.int .i64 0, .int .i64 0, .int .i64 0, .int .i64 0, .int .i64 0, .int .i64 0, .int .i64 0, .int .i64 0], .int .i64 0, .bool false]) (by simp [results, Try.results17, go_sem, cR]) rfl ⟨rfl, by (repeat (first | (with_reducible exact Below.refl _ _) | (with_reducible assumption) | (with_reducible refine Near.up _ ?_) | (with_reducible refine Below.drew ?_) | (with_reducible refine below_alloc_on ?_ _) | (with_reducible refine below_set_on ?_ (by first | (simp; done) | (simp; omega) | omega) _)))⟩

theorem j_newest (a b : ByteArray) (w : World) (ha : a.size ≤ 1000000) (hb : b.size ≤ 1000000) :
    Calls Try.prog 17 #[.agg #[.string a, .string b]] w fun e w' => e = .returned (.tuple #[.agg #[.int .i64 (gtV (nwT a b) 0), .int .i64 (gtV (nwT a b) 1), .int .i64 (gtV (nwT a b) 2), .int .i64 (gtV (nwT a b) 3), .int .i64 (gtV (nwT a b) 4), .int .i64 (gtV (nwT a b) 5), .int .i64 (gtV (nwT a b) 6), .int .i64 (gtV (nwT a b) 7)], .int .i64 (nwS a b), .bool (gtB (nwT a b))]) ∧ Below w.heap.size w w' := by
  have HA := Lib.hid fun w => j_get a w ha
  have HB := Lib.hid fun w => j_get b w hb
  cases hA : gtB a <;> cases hB : gtB b
  · rw [hA] at HA
    rw [hB] at HB
    have e1 : nwT a b = b := by unfold nwT nwF; rw [hA]; rfl
    have e2 : nwS a b = 0 := by unfold nwS nwF; rw [hA, hB]; rfl
    rw [e1, e2, hB]
    simp only [gt_none hB]
    exact nw_5 a b _ _ _ _ _ _ _ _ _ _ _ _ _ _ _ _ w HA HB
  · rw [hA] at HA
    rw [hB] at HB
    have e1 : nwT a b = b := by unfold nwT nwF; rw [hA]; rfl
    have e2 : nwS a b = 1 := by unfold nwS nwF; rw [hA, hB]; rfl
    rw [e1, e2, hB]
    exact nw_4 a b _ _ _ _ _ _ _ _ _ _ _ _ _ _ _ _ w HA HB
  · rw [hA] at HA
    rw [hB] at HB
    have e1 : nwT a b = a := by unfold nwT nwF; rw [hA, hB]; rfl
    have e2 : nwS a b = 0 := by unfold nwS nwF; rw [hA, hB]; rfl
    rw [e1, e2, hA]
    exact nw_3 a b _ _ _ _ _ _ _ _ _ _ _ _ _ _ _ _ w HA HB
  · rw [hA] at HA
    rw [hB] at HB
    by_cases h : gtV b 0 ≤ gtV a 0
    · have e1 : nwT a b = a := by unfold nwT nwF; rw [hA, hB, decide_eq_true h]; rfl
      have e2 : nwS a b = 0 := by unfold nwS nwF; rw [hA, hB, decide_eq_true h]; rfl
      rw [e1, e2, hA]
      exact nw_1 a b _ _ _ _ _ _ _ _ _ _ _ _ _ _ _ _ w HA HB h
    · have e1 : nwT a b = b := by unfold nwT nwF; rw [hA, hB, decide_eq_false h]; rfl
      have e2 : nwS a b = 1 := by unfold nwS nwF; rw [hA, hB, decide_eq_false h]; rfl
      rw [e1, e2, hB]
      exact nw_2 a b _ _ _ _ _ _ _ _ _ _ _ _ _ _ _ _ w HA HB h

end Go.Proofs.Ythibaehiponfnaa
