/- JournalSays holds of every entry and every two texts: whether it is right, its bytes, what is got, and the newest one, are the document's. No condition. -/
import Derived.Test.YtagedifalinklaaRef39d
import Derived.Test.YtagedifalinklaaLeaf
import Derived.BigQuiet
namespace Go.Proofs.Ytagedifalinklaa.journalSays
open Go.ChangeShapes Go.WideShapes Go.ChangeAt Go.RowKit
set_option linter.unusedVariables false
set_option linter.unusedSimpArgs false
set_option maxRecDepth 100000
attribute [local go_sem] cell_set_ite Near.cell Near.frozen
attribute [local go_sem ↓] Go.wp_at_zero Go.wp_at_succ

set_option maxHeartbeats 8000000 in
theorem way (q m r v k t d b : Int) (sa sb T : ByteArray) (en ga gn : Bool) (y0 y1 y2 y3 y4 y5 y6 y7 z0 z1 z2 z3 z4 z5 z6 z7 sl : Int) (W : World) (ha : sa.size ≤ 100) (hb : sb.size ≤ 100)
    (HP : Hid (∀ w, Calls Try.prog 7 #[.agg #[.int .i64 q, .int .i64 m, .int .i64 r, .int .i64 v, .int .i64 k, .int .i64 t, .int .i64 d, .int .i64 b]] w fun e w' => e = .returned (.tuple #[.string T, .bool en]) ∧ Below w.heap.size w w'))
    (HQ : Hid (∀ w, Calls Try.prog 8 #[.agg #[.int .i64 q, .int .i64 m, .int .i64 r, .int .i64 v, .int .i64 k, .int .i64 t, .int .i64 d, .int .i64 b]] w fun e w' => e = .returned (.tuple #[.string T, .bool en]) ∧ Below w.heap.size w w'))
    (HG : Hid (∀ w, Calls Try.prog 9 #[.string sa] w fun e w' => e = .returned (.tuple #[.agg #[.int .i64 y0, .int .i64 y1, .int .i64 y2, .int .i64 y3, .int .i64 y4, .int .i64 y5, .int .i64 y6, .int .i64 y7], .bool ga]) ∧ Below w.heap.size w w'))
    (HH : Hid (∀ w, Calls Try.prog 10 #[.string sa] w fun e w' => e = .returned (.tuple #[.agg #[.int .i64 y0, .int .i64 y1, .int .i64 y2, .int .i64 y3, .int .i64 y4, .int .i64 y5, .int .i64 y6, .int .i64 y7], .bool ga]) ∧ Below w.heap.size w w'))
    (HN : Hid (∀ w, Calls Try.prog 11 #[.agg #[.string sa, .string sb]] w fun e w' => e = .returned (.tuple #[.agg #[.int .i64 z0, .int .i64 z1, .int .i64 z2, .int .i64 z3, .int .i64 z4, .int .i64 z5, .int .i64 z6, .int .i64 z7], .int .i64 sl, .bool gn]) ∧ Below w.heap.size w w'))
    (HM : Hid (∀ w, Calls Try.prog 12 #[.agg #[.string sa, .string sb]] w fun e w' => e = .returned (.tuple #[.agg #[.int .i64 z0, .int .i64 z1, .int .i64 z2, .int .i64 z3, .int .i64 z4, .int .i64 z5, .int .i64 z6, .int .i64 z7], .int .i64 sl, .bool gn]) ∧ Below w.heap.size w w'))
    (HR : Hid (∀ w, Calls Try.prog 13 #[.agg #[.int .i64 q, .int .i64 m, .int .i64 r, .int .i64 v, .int .i64 k, .int .i64 t, .int .i64 d, .int .i64 b]] w fun e w' => e = .returned (.bool en) ∧ Below w.heap.size w w'))
    (HS : Hid (∀ w, Calls Try.prog 14 #[.agg #[.int .i64 q, .int .i64 m, .int .i64 r, .int .i64 v, .int .i64 k, .int .i64 t, .int .i64 d, .int .i64 b]] w fun e w' => e = .returned (.bool en) ∧ Below w.heap.size w w')) :
    Calls Try.prog 3 #[.agg #[.int .i64 q, .int .i64 m, .int .i64 r, .int .i64 v, .int .i64 k, .int .i64 t, .int .i64 d, .int .i64 b], .agg #[.string sa, .string sb]] W fun e W' => e = .returned (.bool true) ∧ Below W.heap.size W W' := by
  have A : Below W.heap.size W W := Below.refl _ _
  have t0 : decide (100 < (sa.size : Int)) = false := decide_eq_false (by omega)
  have t1 : decide (100 < (sb.size : Int)) = false := decide_eq_false (by omega)
  clear ha hb
  go_enter Try.func3, Try.ntmps3
  go_upto_region 3 with (fail)
  have z_pe : W.heap.size ≤ W.heap.size := by (have h9 := A.size; omega)
  have z_ps : W.heap.size ≤ W.heap.size + 1 := by (have h9 := A.size; omega)
  refine at_world (fun V => Below W.heap.size W V ∧ Box V (W.heap.size) #[.int .i64 q, .int .i64 m, .int .i64 r, .int .i64 v, .int .i64 k, .int .i64 t, .int .i64 d, .int .i64 b] ∧ Box V (W.heap.size + 1) #[.string sa, .string sb]) ⟨by (repeat (first | (with_reducible exact Below.refl _ _) | (with_reducible assumption) | (with_reducible refine Near.up _ ?_) | (with_reducible refine Below.drew ?_) | (with_reducible refine below_alloc_on ?_ _) | (with_reducible refine below_set_on ?_ (by first | (simp; done) | (simp; omega) | omega) _))), by (repeat (first | (with_reducible assumption) | (with_reducible exact box_new _ _ _) | ((with_reducible apply box_at); (first | (with_reducible rfl) | (simp <;> omega))) | (with_reducible apply Box.drew) | (with_reducible apply Box.drewN) | (with_reducible apply Box.near) | (with_reducible apply Box.alloc) | ((with_reducible apply box_far); (first | assumption | omega | (simp <;> omega))) | ((with_reducible apply Box.one_set); (with_reducible assumption)) | ((with_reducible apply Box.two_set); (with_reducible assumption)) | ((with_reducible apply Box.three_set); (with_reducible assumption)) | (with_reducible apply Box.set) | (simp only [List.size_toArray, List.length_cons, List.length_nil, Array.size_setIfInBounds] <;> omega))), by (repeat (first | (with_reducible assumption) | (with_reducible exact box_new _ _ _) | ((with_reducible apply box_at); (first | (with_reducible rfl) | (simp <;> omega))) | (with_reducible apply Box.drew) | (with_reducible apply Box.drewN) | (with_reducible apply Box.near) | (with_reducible apply Box.alloc) | ((with_reducible apply box_far); (first | assumption | omega | (simp <;> omega))) | ((with_reducible apply Box.one_set); (with_reducible assumption)) | ((with_reducible apply Box.two_set); (with_reducible assumption)) | ((with_reducible apply Box.three_set); (with_reducible assumption)) | (with_reducible apply Box.set) | (simp only [List.size_toArray, List.length_cons, List.length_nil, Array.size_setIfInBounds] <;> omega)))⟩ ?_
  clear A
  rintro w1 ⟨A, X_pe, X_ps⟩
  obtain ⟨pe, h_pe⟩ : ∃ pe, W.heap.size = pe := ⟨_, rfl⟩
  have o_pe : W.heap.size ≤ pe := by omega
  obtain ⟨ps, h_ps⟩ : ∃ ps, W.heap.size + 1 = ps := ⟨_, rfl⟩
  have o_ps : W.heap.size ≤ ps := by omega
  rw [h_ps] at X_ps
  simp only [h_ps]
  clear h_ps z_ps
  rw [h_pe] at X_pe
  simp only [h_pe]
  clear h_pe z_pe
  obtain ⟨l_ps, c_ps, f_ps⟩ := id X_ps
  obtain ⟨l_pe, c_pe, f_pe⟩ := id X_pe
  go_wp2_with (fail)
  refine (HP.out _).mono ?_
  rintro e w2 ⟨rfl, hb⟩
  replace A := below_call A hb
  clear l_ps c_ps f_ps
  replace X_ps := X_ps.below hb
  clear l_pe c_pe f_pe
  replace X_pe := X_pe.below hb
  clear hb
  obtain ⟨l_ps, c_ps, f_ps⟩ := id X_ps
  obtain ⟨l_pe, c_pe, f_pe⟩ := id X_pe
  go_wp2_with (fail)
  refine (HQ.out _).mono ?_
  rintro e w3 ⟨rfl, hb⟩
  replace A := below_call A hb
  clear l_ps c_ps f_ps
  replace X_ps := X_ps.below hb
  clear l_pe c_pe f_pe
  replace X_pe := X_pe.below hb
  clear hb
  obtain ⟨l_ps, c_ps, f_ps⟩ := id X_ps
  obtain ⟨l_pe, c_pe, f_pe⟩ := id X_pe
  go_upto_region 5 with (fail)
  refine at_world (fun V => Below W.heap.size W V ∧ Box V (ps) #[.string sa, .string sb] ∧ Box V (pe) #[.int .i64 q, .int .i64 m, .int .i64 r, .int .i64 v, .int .i64 k, .int .i64 t, .int .i64 d, .int .i64 b]) ⟨by (repeat (first | (with_reducible exact Below.refl _ _) | (with_reducible assumption) | (with_reducible refine Near.up _ ?_) | (with_reducible refine Below.drew ?_) | (with_reducible refine below_alloc_on ?_ _) | (with_reducible refine below_set_on ?_ (by first | (simp; done) | (simp; omega) | omega) _))), by (repeat (first | (with_reducible assumption) | (with_reducible exact box_new _ _ _) | ((with_reducible apply box_at); (first | (with_reducible rfl) | (simp <;> omega))) | (with_reducible apply Box.drew) | (with_reducible apply Box.drewN) | (with_reducible apply Box.near) | (with_reducible apply Box.alloc) | ((with_reducible apply box_far); (first | assumption | omega | (simp <;> omega))) | ((with_reducible apply Box.one_set); (with_reducible assumption)) | ((with_reducible apply Box.two_set); (with_reducible assumption)) | ((with_reducible apply Box.three_set); (with_reducible assumption)) | (with_reducible apply Box.set) | (simp only [List.size_toArray, List.length_cons, List.length_nil, Array.size_setIfInBounds] <;> omega))), by (repeat (first | (with_reducible assumption) | (with_reducible exact box_new _ _ _) | ((with_reducible apply box_at); (first | (with_reducible rfl) | (simp <;> omega))) | (with_reducible apply Box.drew) | (with_reducible apply Box.drewN) | (with_reducible apply Box.near) | (with_reducible apply Box.alloc) | ((with_reducible apply box_far); (first | assumption | omega | (simp <;> omega))) | ((with_reducible apply Box.one_set); (with_reducible assumption)) | ((with_reducible apply Box.two_set); (with_reducible assumption)) | ((with_reducible apply Box.three_set); (with_reducible assumption)) | (with_reducible apply Box.set) | (simp only [List.size_toArray, List.length_cons, List.length_nil, Array.size_setIfInBounds] <;> omega)))⟩ ?_
  clear A X_ps l_ps c_ps f_ps X_pe l_pe c_pe f_pe
  rintro w4 ⟨A, X_ps, X_pe⟩
  obtain ⟨l_ps, c_ps, f_ps⟩ := id X_ps
  obtain ⟨l_pe, c_pe, f_pe⟩ := id X_pe
  go_wp2_with (fail)
  refine (HG.out _).mono ?_
  rintro e w5 ⟨rfl, hb⟩
  replace A := below_call A hb
  clear l_ps c_ps f_ps
  replace X_ps := X_ps.below hb
  clear l_pe c_pe f_pe
  replace X_pe := X_pe.below hb
  clear hb
  obtain ⟨l_ps, c_ps, f_ps⟩ := id X_ps
  obtain ⟨l_pe, c_pe, f_pe⟩ := id X_pe
  go_upto_region 6 with (fail)
  have z_pa : W.heap.size ≤ w5.heap.size := by (have h9 := A.size; omega)
  refine at_world (fun V => Below W.heap.size W V ∧ Box V (ps) #[.string sa, .string sb] ∧ Box V (pe) #[.int .i64 q, .int .i64 m, .int .i64 r, .int .i64 v, .int .i64 k, .int .i64 t, .int .i64 d, .int .i64 b] ∧ Box V (w5.heap.size) #[.int .i64 y0, .int .i64 y1, .int .i64 y2, .int .i64 y3, .int .i64 y4, .int .i64 y5, .int .i64 y6, .int .i64 y7]) ⟨by (repeat (first | (with_reducible exact Below.refl _ _) | (with_reducible assumption) | (with_reducible refine Near.up _ ?_) | (with_reducible refine Below.drew ?_) | (with_reducible refine below_alloc_on ?_ _) | (with_reducible refine below_set_on ?_ (by first | (simp; done) | (simp; omega) | omega) _))), by (repeat (first | (with_reducible assumption) | (with_reducible exact box_new _ _ _) | ((with_reducible apply box_at); (first | (with_reducible rfl) | (simp <;> omega))) | (with_reducible apply Box.drew) | (with_reducible apply Box.drewN) | (with_reducible apply Box.near) | (with_reducible apply Box.alloc) | ((with_reducible apply box_far); (first | assumption | omega | (simp <;> omega))) | ((with_reducible apply Box.one_set); (with_reducible assumption)) | ((with_reducible apply Box.two_set); (with_reducible assumption)) | ((with_reducible apply Box.three_set); (with_reducible assumption)) | (with_reducible apply Box.set) | (simp only [List.size_toArray, List.length_cons, List.length_nil, Array.size_setIfInBounds] <;> omega))), by (repeat (first | (with_reducible assumption) | (with_reducible exact box_new _ _ _) | ((with_reducible apply box_at); (first | (with_reducible rfl) | (simp <;> omega))) | (with_reducible apply Box.drew) | (with_reducible apply Box.drewN) | (with_reducible apply Box.near) | (with_reducible apply Box.alloc) | ((with_reducible apply box_far); (first | assumption | omega | (simp <;> omega))) | ((with_reducible apply Box.one_set); (with_reducible assumption)) | ((with_reducible apply Box.two_set); (with_reducible assumption)) | ((with_reducible apply Box.three_set); (with_reducible assumption)) | (with_reducible apply Box.set) | (simp only [List.size_toArray, List.length_cons, List.length_nil, Array.size_setIfInBounds] <;> omega))), by (repeat (first | (with_reducible assumption) | (with_reducible exact box_new _ _ _) | ((with_reducible apply box_at); (first | (with_reducible rfl) | (simp <;> omega))) | (with_reducible apply Box.drew) | (with_reducible apply Box.drewN) | (with_reducible apply Box.near) | (with_reducible apply Box.alloc) | ((with_reducible apply box_far); (first | assumption | omega | (simp <;> omega))) | ((with_reducible apply Box.one_set); (with_reducible assumption)) | ((with_reducible apply Box.two_set); (with_reducible assumption)) | ((with_reducible apply Box.three_set); (with_reducible assumption)) | (with_reducible apply Box.set) | (simp only [List.size_toArray, List.length_cons, List.length_nil, Array.size_setIfInBounds] <;> omega)))⟩ ?_
  clear A X_ps l_ps c_ps f_ps X_pe l_pe c_pe f_pe
  rintro w6 ⟨A, X_ps, X_pe, X_pa⟩
  obtain ⟨pa, h_pa⟩ : ∃ pa, w5.heap.size = pa := ⟨_, rfl⟩
  have o_pa : W.heap.size ≤ pa := by omega
  rw [h_pa] at X_pa
  simp only [h_pa]
  clear h_pa z_pa
  obtain ⟨l_ps, c_ps, f_ps⟩ := id X_ps
  obtain ⟨l_pe, c_pe, f_pe⟩ := id X_pe
  obtain ⟨l_pa, c_pa, f_pa⟩ := id X_pa
  go_wp2_with (fail)
  refine (HH.out _).mono ?_
  rintro e w7 ⟨rfl, hb⟩
  replace A := below_call A hb
  clear l_ps c_ps f_ps
  replace X_ps := X_ps.below hb
  clear l_pe c_pe f_pe
  replace X_pe := X_pe.below hb
  clear l_pa c_pa f_pa
  replace X_pa := X_pa.below hb
  clear hb
  obtain ⟨l_ps, c_ps, f_ps⟩ := id X_ps
  obtain ⟨l_pe, c_pe, f_pe⟩ := id X_pe
  obtain ⟨l_pa, c_pa, f_pa⟩ := id X_pa
  go_upto_region 7 with (fail)
  have z_pb : W.heap.size ≤ w7.heap.size := by (have h9 := A.size; omega)
  refine at_world (fun V => Below W.heap.size W V ∧ Box V (ps) #[.string sa, .string sb] ∧ Box V (pe) #[.int .i64 q, .int .i64 m, .int .i64 r, .int .i64 v, .int .i64 k, .int .i64 t, .int .i64 d, .int .i64 b] ∧ Box V (pa) #[.int .i64 y0, .int .i64 y1, .int .i64 y2, .int .i64 y3, .int .i64 y4, .int .i64 y5, .int .i64 y6, .int .i64 y7] ∧ Box V (w7.heap.size) #[.int .i64 y0, .int .i64 y1, .int .i64 y2, .int .i64 y3, .int .i64 y4, .int .i64 y5, .int .i64 y6, .int .i64 y7]) ⟨by (repeat (first | (with_reducible exact Below.refl _ _) | (with_reducible assumption) | (with_reducible refine Near.up _ ?_) | (with_reducible refine Below.drew ?_) | (with_reducible refine below_alloc_on ?_ _) | (with_reducible refine below_set_on ?_ (by first | (simp; done) | (simp; omega) | omega) _))), by (repeat (first | (with_reducible assumption) | (with_reducible exact box_new _ _ _) | ((with_reducible apply box_at); (first | (with_reducible rfl) | (simp <;> omega))) | (with_reducible apply Box.drew) | (with_reducible apply Box.drewN) | (with_reducible apply Box.near) | (with_reducible apply Box.alloc) | ((with_reducible apply box_far); (first | assumption | omega | (simp <;> omega))) | ((with_reducible apply Box.one_set); (with_reducible assumption)) | ((with_reducible apply Box.two_set); (with_reducible assumption)) | ((with_reducible apply Box.three_set); (with_reducible assumption)) | (with_reducible apply Box.set) | (simp only [List.size_toArray, List.length_cons, List.length_nil, Array.size_setIfInBounds] <;> omega))), by (repeat (first | (with_reducible assumption) | (with_reducible exact box_new _ _ _) | ((with_reducible apply box_at); (first | (with_reducible rfl) | (simp <;> omega))) | (with_reducible apply Box.drew) | (with_reducible apply Box.drewN) | (with_reducible apply Box.near) | (with_reducible apply Box.alloc) | ((with_reducible apply box_far); (first | assumption | omega | (simp <;> omega))) | ((with_reducible apply Box.one_set); (with_reducible assumption)) | ((with_reducible apply Box.two_set); (with_reducible assumption)) | ((with_reducible apply Box.three_set); (with_reducible assumption)) | (with_reducible apply Box.set) | (simp only [List.size_toArray, List.length_cons, List.length_nil, Array.size_setIfInBounds] <;> omega))), by (repeat (first | (with_reducible assumption) | (with_reducible exact box_new _ _ _) | ((with_reducible apply box_at); (first | (with_reducible rfl) | (simp <;> omega))) | (with_reducible apply Box.drew) | (with_reducible apply Box.drewN) | (with_reducible apply Box.near) | (with_reducible apply Box.alloc) | ((with_reducible apply box_far); (first | assumption | omega | (simp <;> omega))) | ((with_reducible apply Box.one_set); (with_reducible assumption)) | ((with_reducible apply Box.two_set); (with_reducible assumption)) | ((with_reducible apply Box.three_set); (with_reducible assumption)) | (with_reducible apply Box.set) | (simp only [List.size_toArray, List.length_cons, List.length_nil, Array.size_setIfInBounds] <;> omega))), by (repeat (first | (with_reducible assumption) | (with_reducible exact box_new _ _ _) | ((with_reducible apply box_at); (first | (with_reducible rfl) | (simp <;> omega))) | (with_reducible apply Box.drew) | (with_reducible apply Box.drewN) | (with_reducible apply Box.near) | (with_reducible apply Box.alloc) | ((with_reducible apply box_far); (first | assumption | omega | (simp <;> omega))) | ((with_reducible apply Box.one_set); (with_reducible assumption)) | ((with_reducible apply Box.two_set); (with_reducible assumption)) | ((with_reducible apply Box.three_set); (with_reducible assumption)) | (with_reducible apply Box.set) | (simp only [List.size_toArray, List.length_cons, List.length_nil, Array.size_setIfInBounds] <;> omega)))⟩ ?_
  clear A X_ps l_ps c_ps f_ps X_pe l_pe c_pe f_pe X_pa l_pa c_pa f_pa
  rintro w8 ⟨A, X_ps, X_pe, X_pa, X_pb⟩
  obtain ⟨pb, h_pb⟩ : ∃ pb, w7.heap.size = pb := ⟨_, rfl⟩
  have o_pb : W.heap.size ≤ pb := by omega
  rw [h_pb] at X_pb
  simp only [h_pb]
  clear h_pb z_pb
  obtain ⟨l_ps, c_ps, f_ps⟩ := id X_ps
  obtain ⟨l_pe, c_pe, f_pe⟩ := id X_pe
  obtain ⟨l_pa, c_pa, f_pa⟩ := id X_pa
  obtain ⟨l_pb, c_pb, f_pb⟩ := id X_pb
  go_wp2_with (fail)
  refine (HN.out _).mono ?_
  rintro e w9 ⟨rfl, hb⟩
  replace A := below_call A hb
  clear l_ps c_ps f_ps
  replace X_ps := X_ps.below hb
  clear l_pe c_pe f_pe
  replace X_pe := X_pe.below hb
  clear l_pa c_pa f_pa
  replace X_pa := X_pa.below hb
  clear l_pb c_pb f_pb
  replace X_pb := X_pb.below hb
  clear hb
  obtain ⟨l_ps, c_ps, f_ps⟩ := id X_ps
  obtain ⟨l_pe, c_pe, f_pe⟩ := id X_pe
  obtain ⟨l_pa, c_pa, f_pa⟩ := id X_pa
  obtain ⟨l_pb, c_pb, f_pb⟩ := id X_pb
  go_upto_region 8 with (fail)
  have z_px : W.heap.size ≤ w9.heap.size := by (have h9 := A.size; omega)
  refine at_world (fun V => Below W.heap.size W V ∧ Box V (ps) #[.string sa, .string sb] ∧ Box V (pe) #[.int .i64 q, .int .i64 m, .int .i64 r, .int .i64 v, .int .i64 k, .int .i64 t, .int .i64 d, .int .i64 b] ∧ Box V (pa) #[.int .i64 y0, .int .i64 y1, .int .i64 y2, .int .i64 y3, .int .i64 y4, .int .i64 y5, .int .i64 y6, .int .i64 y7] ∧ Box V (pb) #[.int .i64 y0, .int .i64 y1, .int .i64 y2, .int .i64 y3, .int .i64 y4, .int .i64 y5, .int .i64 y6, .int .i64 y7] ∧ Box V (w9.heap.size) #[.int .i64 z0, .int .i64 z1, .int .i64 z2, .int .i64 z3, .int .i64 z4, .int .i64 z5, .int .i64 z6, .int .i64 z7]) ⟨by (repeat (first | (with_reducible exact Below.refl _ _) | (with_reducible assumption) | (with_reducible refine Near.up _ ?_) | (with_reducible refine Below.drew ?_) | (with_reducible refine below_alloc_on ?_ _) | (with_reducible refine below_set_on ?_ (by first | (simp; done) | (simp; omega) | omega) _))), by (repeat (first | (with_reducible assumption) | (with_reducible exact box_new _ _ _) | ((with_reducible apply box_at); (first | (with_reducible rfl) | (simp <;> omega))) | (with_reducible apply Box.drew) | (with_reducible apply Box.drewN) | (with_reducible apply Box.near) | (with_reducible apply Box.alloc) | ((with_reducible apply box_far); (first | assumption | omega | (simp <;> omega))) | ((with_reducible apply Box.one_set); (with_reducible assumption)) | ((with_reducible apply Box.two_set); (with_reducible assumption)) | ((with_reducible apply Box.three_set); (with_reducible assumption)) | (with_reducible apply Box.set) | (simp only [List.size_toArray, List.length_cons, List.length_nil, Array.size_setIfInBounds] <;> omega))), by (repeat (first | (with_reducible assumption) | (with_reducible exact box_new _ _ _) | ((with_reducible apply box_at); (first | (with_reducible rfl) | (simp <;> omega))) | (with_reducible apply Box.drew) | (with_reducible apply Box.drewN) | (with_reducible apply Box.near) | (with_reducible apply Box.alloc) | ((with_reducible apply box_far); (first | assumption | omega | (simp <;> omega))) | ((with_reducible apply Box.one_set); (with_reducible assumption)) | ((with_reducible apply Box.two_set); (with_reducible assumption)) | ((with_reducible apply Box.three_set); (with_reducible assumption)) | (with_reducible apply Box.set) | (simp only [List.size_toArray, List.length_cons, List.length_nil, Array.size_setIfInBounds] <;> omega))), by (repeat (first | (with_reducible assumption) | (with_reducible exact box_new _ _ _) | ((with_reducible apply box_at); (first | (with_reducible rfl) | (simp <;> omega))) | (with_reducible apply Box.drew) | (with_reducible apply Box.drewN) | (with_reducible apply Box.near) | (with_reducible apply Box.alloc) | ((with_reducible apply box_far); (first | assumption | omega | (simp <;> omega))) | ((with_reducible apply Box.one_set); (with_reducible assumption)) | ((with_reducible apply Box.two_set); (with_reducible assumption)) | ((with_reducible apply Box.three_set); (with_reducible assumption)) | (with_reducible apply Box.set) | (simp only [List.size_toArray, List.length_cons, List.length_nil, Array.size_setIfInBounds] <;> omega))), by (repeat (first | (with_reducible assumption) | (with_reducible exact box_new _ _ _) | ((with_reducible apply box_at); (first | (with_reducible rfl) | (simp <;> omega))) | (with_reducible apply Box.drew) | (with_reducible apply Box.drewN) | (with_reducible apply Box.near) | (with_reducible apply Box.alloc) | ((with_reducible apply box_far); (first | assumption | omega | (simp <;> omega))) | ((with_reducible apply Box.one_set); (with_reducible assumption)) | ((with_reducible apply Box.two_set); (with_reducible assumption)) | ((with_reducible apply Box.three_set); (with_reducible assumption)) | (with_reducible apply Box.set) | (simp only [List.size_toArray, List.length_cons, List.length_nil, Array.size_setIfInBounds] <;> omega))), by (repeat (first | (with_reducible assumption) | (with_reducible exact box_new _ _ _) | ((with_reducible apply box_at); (first | (with_reducible rfl) | (simp <;> omega))) | (with_reducible apply Box.drew) | (with_reducible apply Box.drewN) | (with_reducible apply Box.near) | (with_reducible apply Box.alloc) | ((with_reducible apply box_far); (first | assumption | omega | (simp <;> omega))) | ((with_reducible apply Box.one_set); (with_reducible assumption)) | ((with_reducible apply Box.two_set); (with_reducible assumption)) | ((with_reducible apply Box.three_set); (with_reducible assumption)) | (with_reducible apply Box.set) | (simp only [List.size_toArray, List.length_cons, List.length_nil, Array.size_setIfInBounds] <;> omega)))⟩ ?_
  clear A X_ps l_ps c_ps f_ps X_pe l_pe c_pe f_pe X_pa l_pa c_pa f_pa X_pb l_pb c_pb f_pb
  rintro w10 ⟨A, X_ps, X_pe, X_pa, X_pb, X_px⟩
  obtain ⟨px, h_px⟩ : ∃ px, w9.heap.size = px := ⟨_, rfl⟩
  have o_px : W.heap.size ≤ px := by omega
  rw [h_px] at X_px
  simp only [h_px]
  clear h_px z_px
  obtain ⟨l_ps, c_ps, f_ps⟩ := id X_ps
  obtain ⟨l_pe, c_pe, f_pe⟩ := id X_pe
  obtain ⟨l_pa, c_pa, f_pa⟩ := id X_pa
  obtain ⟨l_pb, c_pb, f_pb⟩ := id X_pb
  obtain ⟨l_px, c_px, f_px⟩ := id X_px
  go_wp2_with (fail)
  refine (HM.out _).mono ?_
  rintro e w11 ⟨rfl, hb⟩
  replace A := below_call A hb
  clear l_ps c_ps f_ps
  replace X_ps := X_ps.below hb
  clear l_pe c_pe f_pe
  replace X_pe := X_pe.below hb
  clear l_pa c_pa f_pa
  replace X_pa := X_pa.below hb
  clear l_pb c_pb f_pb
  replace X_pb := X_pb.below hb
  clear l_px c_px f_px
  replace X_px := X_px.below hb
  clear hb
  obtain ⟨l_ps, c_ps, f_ps⟩ := id X_ps
  obtain ⟨l_pe, c_pe, f_pe⟩ := id X_pe
  obtain ⟨l_pa, c_pa, f_pa⟩ := id X_pa
  obtain ⟨l_pb, c_pb, f_pb⟩ := id X_pb
  obtain ⟨l_px, c_px, f_px⟩ := id X_px
  go_upto_region 9 with (fail)
  have z_py : W.heap.size ≤ w11.heap.size := by (have h9 := A.size; omega)
  refine at_world (fun V => Below W.heap.size W V ∧ Box V (ps) #[.string sa, .string sb] ∧ Box V (pe) #[.int .i64 q, .int .i64 m, .int .i64 r, .int .i64 v, .int .i64 k, .int .i64 t, .int .i64 d, .int .i64 b] ∧ Box V (pa) #[.int .i64 y0, .int .i64 y1, .int .i64 y2, .int .i64 y3, .int .i64 y4, .int .i64 y5, .int .i64 y6, .int .i64 y7] ∧ Box V (pb) #[.int .i64 y0, .int .i64 y1, .int .i64 y2, .int .i64 y3, .int .i64 y4, .int .i64 y5, .int .i64 y6, .int .i64 y7] ∧ Box V (px) #[.int .i64 z0, .int .i64 z1, .int .i64 z2, .int .i64 z3, .int .i64 z4, .int .i64 z5, .int .i64 z6, .int .i64 z7] ∧ Box V (w11.heap.size) #[.int .i64 z0, .int .i64 z1, .int .i64 z2, .int .i64 z3, .int .i64 z4, .int .i64 z5, .int .i64 z6, .int .i64 z7]) ⟨by (repeat (first | (with_reducible exact Below.refl _ _) | (with_reducible assumption) | (with_reducible refine Near.up _ ?_) | (with_reducible refine Below.drew ?_) | (with_reducible refine below_alloc_on ?_ _) | (with_reducible refine below_set_on ?_ (by first | (simp; done) | (simp; omega) | omega) _))), by (repeat (first | (with_reducible assumption) | (with_reducible exact box_new _ _ _) | ((with_reducible apply box_at); (first | (with_reducible rfl) | (simp <;> omega))) | (with_reducible apply Box.drew) | (with_reducible apply Box.drewN) | (with_reducible apply Box.near) | (with_reducible apply Box.alloc) | ((with_reducible apply box_far); (first | assumption | omega | (simp <;> omega))) | ((with_reducible apply Box.one_set); (with_reducible assumption)) | ((with_reducible apply Box.two_set); (with_reducible assumption)) | ((with_reducible apply Box.three_set); (with_reducible assumption)) | (with_reducible apply Box.set) | (simp only [List.size_toArray, List.length_cons, List.length_nil, Array.size_setIfInBounds] <;> omega))), by (repeat (first | (with_reducible assumption) | (with_reducible exact box_new _ _ _) | ((with_reducible apply box_at); (first | (with_reducible rfl) | (simp <;> omega))) | (with_reducible apply Box.drew) | (with_reducible apply Box.drewN) | (with_reducible apply Box.near) | (with_reducible apply Box.alloc) | ((with_reducible apply box_far); (first | assumption | omega | (simp <;> omega))) | ((with_reducible apply Box.one_set); (with_reducible assumption)) | ((with_reducible apply Box.two_set); (with_reducible assumption)) | ((with_reducible apply Box.three_set); (with_reducible assumption)) | (with_reducible apply Box.set) | (simp only [List.size_toArray, List.length_cons, List.length_nil, Array.size_setIfInBounds] <;> omega))), by (repeat (first | (with_reducible assumption) | (with_reducible exact box_new _ _ _) | ((with_reducible apply box_at); (first | (with_reducible rfl) | (simp <;> omega))) | (with_reducible apply Box.drew) | (with_reducible apply Box.drewN) | (with_reducible apply Box.near) | (with_reducible apply Box.alloc) | ((with_reducible apply box_far); (first | assumption | omega | (simp <;> omega))) | ((with_reducible apply Box.one_set); (with_reducible assumption)) | ((with_reducible apply Box.two_set); (with_reducible assumption)) | ((with_reducible apply Box.three_set); (with_reducible assumption)) | (with_reducible apply Box.set) | (simp only [List.size_toArray, List.length_cons, List.length_nil, Array.size_setIfInBounds] <;> omega))), by (repeat (first | (with_reducible assumption) | (with_reducible exact box_new _ _ _) | ((with_reducible apply box_at); (first | (with_reducible rfl) | (simp <;> omega))) | (with_reducible apply Box.drew) | (with_reducible apply Box.drewN) | (with_reducible apply Box.near) | (with_reducible apply Box.alloc) | ((with_reducible apply box_far); (first | assumption | omega | (simp <;> omega))) | ((with_reducible apply Box.one_set); (with_reducible assumption)) | ((with_reducible apply Box.two_set); (with_reducible assumption)) | ((with_reducible apply Box.three_set); (with_reducible assumption)) | (with_reducible apply Box.set) | (simp only [List.size_toArray, List.length_cons, List.length_nil, Array.size_setIfInBounds] <;> omega))), by (repeat (first | (with_reducible assumption) | (with_reducible exact box_new _ _ _) | ((with_reducible apply box_at); (first | (with_reducible rfl) | (simp <;> omega))) | (with_reducible apply Box.drew) | (with_reducible apply Box.drewN) | (with_reducible apply Box.near) | (with_reducible apply Box.alloc) | ((with_reducible apply box_far); (first | assumption | omega | (simp <;> omega))) | ((with_reducible apply Box.one_set); (with_reducible assumption)) | ((with_reducible apply Box.two_set); (with_reducible assumption)) | ((with_reducible apply Box.three_set); (with_reducible assumption)) | (with_reducible apply Box.set) | (simp only [List.size_toArray, List.length_cons, List.length_nil, Array.size_setIfInBounds] <;> omega))), by (repeat (first | (with_reducible assumption) | (with_reducible exact box_new _ _ _) | ((with_reducible apply box_at); (first | (with_reducible rfl) | (simp <;> omega))) | (with_reducible apply Box.drew) | (with_reducible apply Box.drewN) | (with_reducible apply Box.near) | (with_reducible apply Box.alloc) | ((with_reducible apply box_far); (first | assumption | omega | (simp <;> omega))) | ((with_reducible apply Box.one_set); (with_reducible assumption)) | ((with_reducible apply Box.two_set); (with_reducible assumption)) | ((with_reducible apply Box.three_set); (with_reducible assumption)) | (with_reducible apply Box.set) | (simp only [List.size_toArray, List.length_cons, List.length_nil, Array.size_setIfInBounds] <;> omega)))⟩ ?_
  clear A X_ps l_ps c_ps f_ps X_pe l_pe c_pe f_pe X_pa l_pa c_pa f_pa X_pb l_pb c_pb f_pb X_px l_px c_px f_px
  rintro w12 ⟨A, X_ps, X_pe, X_pa, X_pb, X_px, X_py⟩
  obtain ⟨py, h_py⟩ : ∃ py, w11.heap.size = py := ⟨_, rfl⟩
  have o_py : W.heap.size ≤ py := by omega
  rw [h_py] at X_py
  simp only [h_py]
  clear h_py z_py
  obtain ⟨l_ps, c_ps, f_ps⟩ := id X_ps
  obtain ⟨l_pe, c_pe, f_pe⟩ := id X_pe
  obtain ⟨l_pa, c_pa, f_pa⟩ := id X_pa
  obtain ⟨l_pb, c_pb, f_pb⟩ := id X_pb
  obtain ⟨l_px, c_px, f_px⟩ := id X_px
  obtain ⟨l_py, c_py, f_py⟩ := id X_py
  clear X_ps X_pe X_pa X_pb X_px X_py HP HQ HG HH HN HM
  refine wp_region_calm (by kernel_rfl) (by kernel_rfl) ?_
  repeat (go_big_quiet_step ((first | ((go_at_call 13; exact calm_of _ (HR.out _))) | ((go_at_call 14; exact calm_of _ (HS.out _))) | ((go_at_call 6; exact calm_of _ (law39_awake _))))))
  refine wpQuiet_nil ?_
  intro _ hw'
  obtain ⟨u, rfl⟩ := hw'
  have A9 := u.up A
  go_wp2
  all_goals go_ret
  all_goals exact ⟨rfl, A9⟩

theorem walk (q : Int) (wq : (Lit.int .i64 q).wf = true) (m : Int) (wm : (Lit.int .i64 m).wf = true) (r : Int) (wr : (Lit.int .i64 r).wf = true) (v : Int) (wv : (Lit.int .i64 v).wf = true) (k : Int) (wk : (Lit.int .i64 k).wf = true) (t : Int) (wt : (Lit.int .i64 t).wf = true) (d : Int) (wd : (Lit.int .i64 d).wf = true) (b : Int) (wb : (Lit.int .i64 b).wf = true) (sa : ByteArray) (ha : sa.size ≤ maxLen) (sb : ByteArray) (hb : sb.size ≤ maxLen) (W : World) :
    Calls Try.prog 3 #[.agg #[.int .i64 q, .int .i64 m, .int .i64 r, .int .i64 v, .int .i64 k, .int .i64 t, .int .i64 d, .int .i64 b], .agg #[.string sa, .string sb]] W fun e W' => e = .returned (.bool true) ∧ Below W.heap.size W W' := by
  have A : Below W.heap.size W W := Below.refl _ _
  by_cases h1 : 100 < sa.size
  · have t0 : decide (100 < (sa.size : Int)) = true := decide_eq_true (by omega)
    go_enter Try.func3, Try.ntmps3
    go_wp2_with (fail)
    refine (law39_awake _).mono ?_
    rintro e w5 ⟨rfl, hb⟩
    replace A : Below W.heap.size W w5 := by (refine below_call ?_ hb; (repeat (first | (with_reducible exact Below.refl _ _) | (with_reducible assumption) | (with_reducible refine Near.up _ ?_) | (with_reducible refine Below.drew ?_) | (with_reducible refine below_alloc_on ?_ _) | (with_reducible refine below_set_on ?_ (by first | (simp; done) | (simp; omega) | omega) _))))
    clear hb
    have z_w5 : W.heap.size ≤ w5.heap.size := A.size
    go_wp2
    all_goals go_ret
    all_goals exact ⟨rfl, A⟩
  · have t0 : decide (100 < (sa.size : Int)) = false := decide_eq_false (by omega)
    by_cases h2 : 100 < sb.size
    · have t1 : decide (100 < (sb.size : Int)) = true := decide_eq_true (by omega)
      go_enter Try.func3, Try.ntmps3
      go_wp2_with (fail)
      refine (law39_awake _).mono ?_
      rintro e w5 ⟨rfl, hb⟩
      replace A : Below W.heap.size W w5 := by (refine below_call ?_ hb; (repeat (first | (with_reducible exact Below.refl _ _) | (with_reducible assumption) | (with_reducible refine Near.up _ ?_) | (with_reducible refine Below.drew ?_) | (with_reducible refine below_alloc_on ?_ _) | (with_reducible refine below_set_on ?_ (by first | (simp; done) | (simp; omega) | omega) _))))
      clear hb
      have z_w5 : W.heap.size ≤ w5.heap.size := A.size
      go_wp2
      all_goals go_ret
      all_goals exact ⟨rfl, A⟩
    · exact way q m r v k t d b sa sb _ _ _ _ _ _ _ _ _ _ _ _ _ _ _ _ _ _ _ _ _ W (by omega) (by omega) (Lib.hid fun w => j_put q m r v k t d b w) (Lib.hid fun w => rj_put q m r v k t d b w) (Lib.hid fun w => j_get sa w (by omega)) (Lib.hid fun w => rj_get sa w (by omega))
        (Lib.hid fun w => j_newest sa sb w (by omega) (by omega)) (Lib.hid fun w => rj_newest sa sb w (by omega) (by omega)) (Lib.hid fun w => j_right q m r v k t d b w) (Lib.hid fun w => rj_right q m r v k t d b w)

set_option maxRecDepth 100000 in
theorem lifted (os : Os) (started : os.Started) (H : Type) (enc : TypeId × Value → H) :
    ReturnsInHanded {} Try.checked os 3 .any (Rows.journalSaysSpec.pre6 enc Try.prog Try.f3 Rows.journalSaysRow.domain false) (Rows.journalSaysSpec.post enc Try.prog Try.f3 false true false false) := by
  refine law_lift started (by kernel_rfl) Try.func3 rfl rfl ?_ (by kernel_rfl)
    (ChangeSpec.witness6 (enc := enc) (C := Try.checked) false ⟨#[], #[.agg #[.int .i64 0, .int .i64 0, .int .i64 0, .int .i64 0, .int .i64 0, .int .i64 0, .int .i64 0, .int .i64 0], .agg #[.string ⟨#[]⟩, .string ⟨#[]⟩]], []⟩ 8 (by kernel_rfl) (by kernel_rfl) (by kernel_rfl) (by kernel_rfl)) ?_
  · intro ds hl
    match ds, hl with
    | [_, _], _ => exact ⟨rfl, rfl, rfl⟩
  · intro W base args ds p hval hA hlt hwt
    rw [Try.params3] at hA hval hwt
    obtain ⟨v0, vs0, d0, ds0, p0, q0, hargs, rfl, rfl, h0, r0⟩ := trodAll_cons hA
    obtain ⟨v1, vs1, d1, ds1, p1, q1, rfl, rfl, rfl, h1, r1⟩ := trodAll_cons r0
    obtain ⟨rfl, rfl, rfl⟩ := trodAll_nil r1
    obtain rfl : args = #[v0, v1] := by cases args; simp_all
    obtain ⟨cs0, rfl, l0, k0⟩ := open_leaves 5 [.int .i64, .int .i64, .int .i64, .int .i64, .int .i64, .int .i64, .int .i64, .int .i64] (by kernel_rfl) (by kernel_rfl) (hval 0 27 v0 rfl rfl) h0
    match cs0, l0, k0 with
    | [y0_0, y0_1, y0_2, y0_3, y0_4, y0_5, y0_6, y0_7], _, k0 =>
    obtain ⟨x0_0, e0_0, w0_0⟩ : leafIs (.int .i64) y0_0 := k0 0 _ rfl
    subst e0_0
    obtain ⟨x0_1, e0_1, w0_1⟩ : leafIs (.int .i64) y0_1 := k0 1 _ rfl
    subst e0_1
    obtain ⟨x0_2, e0_2, w0_2⟩ : leafIs (.int .i64) y0_2 := k0 2 _ rfl
    subst e0_2
    obtain ⟨x0_3, e0_3, w0_3⟩ : leafIs (.int .i64) y0_3 := k0 3 _ rfl
    subst e0_3
    obtain ⟨x0_4, e0_4, w0_4⟩ : leafIs (.int .i64) y0_4 := k0 4 _ rfl
    subst e0_4
    obtain ⟨x0_5, e0_5, w0_5⟩ : leafIs (.int .i64) y0_5 := k0 5 _ rfl
    subst e0_5
    obtain ⟨x0_6, e0_6, w0_6⟩ : leafIs (.int .i64) y0_6 := k0 6 _ rfl
    subst e0_6
    obtain ⟨x0_7, e0_7, w0_7⟩ : leafIs (.int .i64) y0_7 := k0 7 _ rfl
    subst e0_7
    obtain ⟨cs1, rfl, l1, k1⟩ := open_leaves 5 [.string, .string] (by kernel_rfl) (by kernel_rfl) (hval 1 28 v1 rfl rfl) h1
    match cs1, l1, k1 with
    | [y1_0, y1_1], _, k1 =>
    obtain ⟨x1_0, e1_0, w1_0⟩ : leafIs (.string) y1_0 := k1 0 _ rfl
    subst e1_0
    obtain ⟨x1_1, e1_1, w1_1⟩ : leafIs (.string) y1_1 := k1 1 _ rfl
    subst e1_1
    exact walk x0_0 w0_0 x0_1 w0_1 x0_2 w0_2 x0_3 w0_3 x0_4 w0_4 x0_5 w0_5 x0_6 w0_6 x0_7 w0_7 x1_0 w1_0 x1_1 w1_1 W

theorem over : Rows.journalSaysRow.holds Try.pinned (OpenSpec.ofChange Rows.journalSaysSpec) :=
  OpenClaim.holds_of_wide 3 Try.f3 rfl rfl rfl rfl rfl rfl rfl ⟨rfl, rfl, rfl, rfl, rfl⟩ rfl rfl rfl rfl rfl (by kernel_rfl) Try.func3 (by kernel_rfl)
    (of_decide_eq_true (by kernel_rfl)) (by unfold Func.isWrapper; first | (rw [if_pos (by decide +kernel)]; kernel_rfl) | (rw [if_neg (by decide +kernel)]; exact ⟨rfl, rfl⟩))
    (fun os started H enc _ => lifted os started H enc)

theorem proved : Rows.JournalSaysSaid := over
#print axioms proved
end Go.Proofs.Ytagedifalinklaa.journalSays
