/- ReviveSays holds of every flash, every slot and every entry: what is found, and what is begun with, are the document's. No condition. -/
import Derived.Test.YtagedifalinklaaRef40
import Derived.Test.YtagedifalinklaaLeaf
import Derived.BigQuiet
namespace Go.Proofs.Ytagedifalinklaa.reviveSays
open Go.ChangeShapes Go.WideShapes Go.ChangeAt Go.RowKit
set_option linter.unusedVariables false
set_option linter.unusedSimpArgs false
set_option maxRecDepth 100000
theorem eq_slots (w : World) (d : Nat) (x0 x1 y0 y1 : ByteArray) : (Op.equalIn (d + 2) 28 (.agg #[.string x0, .string x1]) (.agg #[.string y0, .string y1])).run Try.prog w = .ok (x0.toList == y0.toList && x1.toList == y1.toList) w := by
  obtain ⟨i, hi⟩ : ∃ i, Try.prog.info? 9 = some i := ⟨_, rfl⟩
  rw [run_equalIn_array (P := Try.prog) w (d + 1) _ _ (n := 2) (e := 9) (by kernel_rfl) hi, show List.range 2 = [0, 1] from rfl, show Try.prog.cellsOf 9 = 1 from by kernel_rfl]
  simp [Op.eqItems, go_sem]
  by_cases h : x0.toList = y0.toList <;> by_cases g : x1.toList = y1.toList <;> simp [h, g]
attribute [local go_sem] cell_set_ite Near.cell Near.frozen eq_slots
attribute [local go_sem ↓] Go.wp_at_zero Go.wp_at_succ

set_option maxHeartbeats 8000000 in
theorem way (a b c A0 A1 A4 : ByteArray) (q A2 x9 : Bool) (i n sl A3 A5 E e0 e1 e2 e3 e4 e5 e6 e7 x0 x1 x2 x3 x4 x5 x6 x7 x8 : Int) (W : World) (ha : a.size ≤ 100) (hb : b.size ≤ 100) (hc : c.size ≤ 100)
    (HN : Hid (∀ w, Calls Try.prog 16 #[.agg #[.string a, .string b, .bool q, .int .i64 i, .string c, .int .i64 n], .int .i64 sl, .agg #[.int .i64 e0, .int .i64 e1, .int .i64 e2, .int .i64 e3, .int .i64 e4, .int .i64 e5, .int .i64 e6, .int .i64 e7]] w fun e w' => e = .returned (.tuple #[.agg #[.string A0, .string A1, .bool A2, .int .i64 A3, .string A4, .int .i64 A5], .int .i64 E]) ∧ Below w.heap.size w w'))
    (HM : Hid (∀ w, Calls Try.prog 17 #[.agg #[.string a, .string b, .bool q, .int .i64 i, .string c, .int .i64 n], .int .i64 sl, .agg #[.int .i64 e0, .int .i64 e1, .int .i64 e2, .int .i64 e3, .int .i64 e4, .int .i64 e5, .int .i64 e6, .int .i64 e7]] w fun e w' => e = .returned (.tuple #[.agg #[.string A0, .string A1, .bool A2, .int .i64 A3, .string A4, .int .i64 A5], .int .i64 E]) ∧ Below w.heap.size w w'))
    (HB : Hid (∀ w, Calls Try.prog 18 #[.agg #[.string a, .string b, .bool q, .int .i64 i, .string c, .int .i64 n]] w fun e w' => e = .returned (.agg #[.int .i64 x0, .int .i64 x1, .int .i64 x2, .int .i64 x3, .int .i64 x4, .int .i64 x5, .int .i64 x6, .int .i64 x7, .int .i64 x8, .bool x9]) ∧ Below w.heap.size w w'))
    (HC : Hid (∀ w, Calls Try.prog 19 #[.agg #[.string a, .string b, .bool q, .int .i64 i, .string c, .int .i64 n]] w fun e w' => e = .returned (.agg #[.int .i64 x0, .int .i64 x1, .int .i64 x2, .int .i64 x3, .int .i64 x4, .int .i64 x5, .int .i64 x6, .int .i64 x7, .int .i64 x8, .bool x9]) ∧ Below w.heap.size w w')) :
    Calls Try.prog 4 #[.agg #[.string a, .string b, .bool q, .int .i64 i, .string c, .int .i64 n], .int .i64 sl, .agg #[.int .i64 e0, .int .i64 e1, .int .i64 e2, .int .i64 e3, .int .i64 e4, .int .i64 e5, .int .i64 e6, .int .i64 e7]] W fun e W' => e = .returned (.bool true) ∧ Below W.heap.size W W' := by
  have A : Below W.heap.size W W := Below.refl _ _
  have t0 : decide (100 < (a.size : Int)) = false := decide_eq_false (by omega)
  have t1 : decide (100 < (b.size : Int)) = false := decide_eq_false (by omega)
  have t2 : decide (100 < (c.size : Int)) = false := decide_eq_false (by omega)
  clear ha hb hc
  go_enter Try.func4, Try.ntmps4
  go_upto_region 3 with (fail)
  have z_pf : W.heap.size ≤ W.heap.size := by (have h9 := A.size; omega)
  have z_pe : W.heap.size ≤ W.heap.size + 1 := by (have h9 := A.size; omega)
  have n_pf_pe : ¬ W.heap.size = W.heap.size + 1 := by omega
  have n_pe_pf : ¬ W.heap.size + 1 = W.heap.size := by omega
  refine at_world (fun V => Below W.heap.size W V ∧ Box V (W.heap.size) #[.string a, .string b, .bool q, .int .i64 i, .string c, .int .i64 n] ∧ Box V (W.heap.size + 1) #[.int .i64 e0, .int .i64 e1, .int .i64 e2, .int .i64 e3, .int .i64 e4, .int .i64 e5, .int .i64 e6, .int .i64 e7]) ⟨by (repeat (first | (with_reducible exact Below.refl _ _) | (with_reducible assumption) | (with_reducible refine Near.up _ ?_) | (with_reducible refine Below.drew ?_) | (with_reducible refine below_alloc_on ?_ _) | (with_reducible refine below_set_on ?_ (by first | (simp; done) | (simp; omega) | omega) _))), by (repeat (first | (with_reducible assumption) | (with_reducible exact box_new _ _ _) | ((with_reducible apply box_at); (first | (with_reducible rfl) | (simp <;> omega))) | (with_reducible apply Box.drew) | (with_reducible apply Box.drewN) | (with_reducible apply Box.near) | (with_reducible apply Box.alloc) | ((with_reducible apply box_far); (first | assumption | omega | (simp <;> omega))) | ((with_reducible apply Box.one_set); (with_reducible assumption)) | ((with_reducible apply Box.two_set); (with_reducible assumption)) | ((with_reducible apply Box.three_set); (with_reducible assumption)) | (with_reducible apply Box.set) | (simp only [List.size_toArray, List.length_cons, List.length_nil, Array.size_setIfInBounds] <;> omega))), by (repeat (first | (with_reducible assumption) | (with_reducible exact box_new _ _ _) | ((with_reducible apply box_at); (first | (with_reducible rfl) | (simp <;> omega))) | (with_reducible apply Box.drew) | (with_reducible apply Box.drewN) | (with_reducible apply Box.near) | (with_reducible apply Box.alloc) | ((with_reducible apply box_far); (first | assumption | omega | (simp <;> omega))) | ((with_reducible apply Box.one_set); (with_reducible assumption)) | ((with_reducible apply Box.two_set); (with_reducible assumption)) | ((with_reducible apply Box.three_set); (with_reducible assumption)) | (with_reducible apply Box.set) | (simp only [List.size_toArray, List.length_cons, List.length_nil, Array.size_setIfInBounds] <;> omega)))⟩ ?_
  clear A
  rintro w1 ⟨A, X_pf, X_pe⟩
  obtain ⟨pf, h_pf⟩ : ∃ pf, W.heap.size = pf := ⟨_, rfl⟩
  have o_pf : W.heap.size ≤ pf := by omega
  obtain ⟨pe, h_pe⟩ : ∃ pe, W.heap.size + 1 = pe := ⟨_, rfl⟩
  have o_pe : W.heap.size ≤ pe := by omega
  rw [h_pe] at X_pe n_pf_pe n_pe_pf
  simp only [h_pe]
  clear h_pe z_pe
  rw [h_pf] at X_pf n_pf_pe n_pe_pf
  simp only [h_pf]
  clear h_pf z_pf
  obtain ⟨l_pe, c_pe, f_pe⟩ := id X_pe
  obtain ⟨l_pf, c_pf, f_pf⟩ := id X_pf
  go_wp2_with (fail)
  refine (HN.out _).mono ?_
  rintro e w2 ⟨rfl, hb⟩
  replace A := below_call A hb
  clear l_pe c_pe f_pe
  replace X_pe := X_pe.below hb
  clear l_pf c_pf f_pf
  replace X_pf := X_pf.below hb
  clear hb
  obtain ⟨l_pe, c_pe, f_pe⟩ := id X_pe
  obtain ⟨l_pf, c_pf, f_pf⟩ := id X_pf
  go_upto_region 4 with (fail)
  have z_pg : W.heap.size ≤ w2.heap.size := by (have h9 := A.size; omega)
  have n_pe_pg : ¬ pe = w2.heap.size := by omega
  have n_pg_pe : ¬ w2.heap.size = pe := by omega
  have n_pf_pg : ¬ pf = w2.heap.size := by omega
  have n_pg_pf : ¬ w2.heap.size = pf := by omega
  refine at_world (fun V => Below W.heap.size W V ∧ Box V (pe) #[.int .i64 e0, .int .i64 e1, .int .i64 e2, .int .i64 e3, .int .i64 e4, .int .i64 e5, .int .i64 e6, .int .i64 e7] ∧ Box V (pf) #[.string a, .string b, .bool q, .int .i64 i, .string c, .int .i64 n] ∧ Box V (w2.heap.size) #[.string A0, .string A1, .bool A2, .int .i64 A3, .string A4, .int .i64 A5]) ⟨by (repeat (first | (with_reducible exact Below.refl _ _) | (with_reducible assumption) | (with_reducible refine Near.up _ ?_) | (with_reducible refine Below.drew ?_) | (with_reducible refine below_alloc_on ?_ _) | (with_reducible refine below_set_on ?_ (by first | (simp; done) | (simp; omega) | omega) _))), by (repeat (first | (with_reducible assumption) | (with_reducible exact box_new _ _ _) | ((with_reducible apply box_at); (first | (with_reducible rfl) | (simp <;> omega))) | (with_reducible apply Box.drew) | (with_reducible apply Box.drewN) | (with_reducible apply Box.near) | (with_reducible apply Box.alloc) | ((with_reducible apply box_far); (first | assumption | omega | (simp <;> omega))) | ((with_reducible apply Box.one_set); (with_reducible assumption)) | ((with_reducible apply Box.two_set); (with_reducible assumption)) | ((with_reducible apply Box.three_set); (with_reducible assumption)) | (with_reducible apply Box.set) | (simp only [List.size_toArray, List.length_cons, List.length_nil, Array.size_setIfInBounds] <;> omega))), by (repeat (first | (with_reducible assumption) | (with_reducible exact box_new _ _ _) | ((with_reducible apply box_at); (first | (with_reducible rfl) | (simp <;> omega))) | (with_reducible apply Box.drew) | (with_reducible apply Box.drewN) | (with_reducible apply Box.near) | (with_reducible apply Box.alloc) | ((with_reducible apply box_far); (first | assumption | omega | (simp <;> omega))) | ((with_reducible apply Box.one_set); (with_reducible assumption)) | ((with_reducible apply Box.two_set); (with_reducible assumption)) | ((with_reducible apply Box.three_set); (with_reducible assumption)) | (with_reducible apply Box.set) | (simp only [List.size_toArray, List.length_cons, List.length_nil, Array.size_setIfInBounds] <;> omega))), by (repeat (first | (with_reducible assumption) | (with_reducible exact box_new _ _ _) | ((with_reducible apply box_at); (first | (with_reducible rfl) | (simp <;> omega))) | (with_reducible apply Box.drew) | (with_reducible apply Box.drewN) | (with_reducible apply Box.near) | (with_reducible apply Box.alloc) | ((with_reducible apply box_far); (first | assumption | omega | (simp <;> omega))) | ((with_reducible apply Box.one_set); (with_reducible assumption)) | ((with_reducible apply Box.two_set); (with_reducible assumption)) | ((with_reducible apply Box.three_set); (with_reducible assumption)) | (with_reducible apply Box.set) | (simp only [List.size_toArray, List.length_cons, List.length_nil, Array.size_setIfInBounds] <;> omega)))⟩ ?_
  clear A X_pe l_pe c_pe f_pe X_pf l_pf c_pf f_pf
  rintro w3 ⟨A, X_pe, X_pf, X_pg⟩
  obtain ⟨pg, h_pg⟩ : ∃ pg, w2.heap.size = pg := ⟨_, rfl⟩
  have o_pg : W.heap.size ≤ pg := by omega
  rw [h_pg] at X_pg n_pe_pg n_pg_pe n_pf_pg n_pg_pf
  simp only [h_pg]
  clear h_pg z_pg
  obtain ⟨l_pe, c_pe, f_pe⟩ := id X_pe
  obtain ⟨l_pf, c_pf, f_pf⟩ := id X_pf
  obtain ⟨l_pg, c_pg, f_pg⟩ := id X_pg
  go_wp2_with (fail)
  refine (HM.out _).mono ?_
  rintro e w4 ⟨rfl, hb⟩
  replace A := below_call A hb
  clear l_pe c_pe f_pe
  replace X_pe := X_pe.below hb
  clear l_pf c_pf f_pf
  replace X_pf := X_pf.below hb
  clear l_pg c_pg f_pg
  replace X_pg := X_pg.below hb
  clear hb
  obtain ⟨l_pe, c_pe, f_pe⟩ := id X_pe
  obtain ⟨l_pf, c_pf, f_pf⟩ := id X_pf
  obtain ⟨l_pg, c_pg, f_pg⟩ := id X_pg
  go_upto_region 5 with (fail)
  have z_ph : W.heap.size ≤ w4.heap.size := by (have h9 := A.size; omega)
  have n_pe_ph : ¬ pe = w4.heap.size := by omega
  have n_ph_pe : ¬ w4.heap.size = pe := by omega
  have n_pf_ph : ¬ pf = w4.heap.size := by omega
  have n_ph_pf : ¬ w4.heap.size = pf := by omega
  have n_pg_ph : ¬ pg = w4.heap.size := by omega
  have n_ph_pg : ¬ w4.heap.size = pg := by omega
  refine at_world (fun V => Below W.heap.size W V ∧ Box V (pe) #[.int .i64 e0, .int .i64 e1, .int .i64 e2, .int .i64 e3, .int .i64 e4, .int .i64 e5, .int .i64 e6, .int .i64 e7] ∧ Box V (pf) #[.string a, .string b, .bool q, .int .i64 i, .string c, .int .i64 n] ∧ Box V (pg) #[.string A0, .string A1, .bool A2, .int .i64 A3, .string A4, .int .i64 A5] ∧ Box V (w4.heap.size) #[.string A0, .string A1, .bool A2, .int .i64 A3, .string A4, .int .i64 A5]) ⟨by (repeat (first | (with_reducible exact Below.refl _ _) | (with_reducible assumption) | (with_reducible refine Near.up _ ?_) | (with_reducible refine Below.drew ?_) | (with_reducible refine below_alloc_on ?_ _) | (with_reducible refine below_set_on ?_ (by first | (simp; done) | (simp; omega) | omega) _))), by (repeat (first | (with_reducible assumption) | (with_reducible exact box_new _ _ _) | ((with_reducible apply box_at); (first | (with_reducible rfl) | (simp <;> omega))) | (with_reducible apply Box.drew) | (with_reducible apply Box.drewN) | (with_reducible apply Box.near) | (with_reducible apply Box.alloc) | ((with_reducible apply box_far); (first | assumption | omega | (simp <;> omega))) | ((with_reducible apply Box.one_set); (with_reducible assumption)) | ((with_reducible apply Box.two_set); (with_reducible assumption)) | ((with_reducible apply Box.three_set); (with_reducible assumption)) | (with_reducible apply Box.set) | (simp only [List.size_toArray, List.length_cons, List.length_nil, Array.size_setIfInBounds] <;> omega))), by (repeat (first | (with_reducible assumption) | (with_reducible exact box_new _ _ _) | ((with_reducible apply box_at); (first | (with_reducible rfl) | (simp <;> omega))) | (with_reducible apply Box.drew) | (with_reducible apply Box.drewN) | (with_reducible apply Box.near) | (with_reducible apply Box.alloc) | ((with_reducible apply box_far); (first | assumption | omega | (simp <;> omega))) | ((with_reducible apply Box.one_set); (with_reducible assumption)) | ((with_reducible apply Box.two_set); (with_reducible assumption)) | ((with_reducible apply Box.three_set); (with_reducible assumption)) | (with_reducible apply Box.set) | (simp only [List.size_toArray, List.length_cons, List.length_nil, Array.size_setIfInBounds] <;> omega))), by (repeat (first | (with_reducible assumption) | (with_reducible exact box_new _ _ _) | ((with_reducible apply box_at); (first | (with_reducible rfl) | (simp <;> omega))) | (with_reducible apply Box.drew) | (with_reducible apply Box.drewN) | (with_reducible apply Box.near) | (with_reducible apply Box.alloc) | ((with_reducible apply box_far); (first | assumption | omega | (simp <;> omega))) | ((with_reducible apply Box.one_set); (with_reducible assumption)) | ((with_reducible apply Box.two_set); (with_reducible assumption)) | ((with_reducible apply Box.three_set); (with_reducible assumption)) | (with_reducible apply Box.set) | (simp only [List.size_toArray, List.length_cons, List.length_nil, Array.size_setIfInBounds] <;> omega))), by (repeat (first | (with_reducible assumption) | (with_reducible exact box_new _ _ _) | ((with_reducible apply box_at); (first | (with_reducible rfl) | (simp <;> omega))) | (with_reducible apply Box.drew) | (with_reducible apply Box.drewN) | (with_reducible apply Box.near) | (with_reducible apply Box.alloc) | ((with_reducible apply box_far); (first | assumption | omega | (simp <;> omega))) | ((with_reducible apply Box.one_set); (with_reducible assumption)) | ((with_reducible apply Box.two_set); (with_reducible assumption)) | ((with_reducible apply Box.three_set); (with_reducible assumption)) | (with_reducible apply Box.set) | (simp only [List.size_toArray, List.length_cons, List.length_nil, Array.size_setIfInBounds] <;> omega)))⟩ ?_
  clear A X_pe l_pe c_pe f_pe X_pf l_pf c_pf f_pf X_pg l_pg c_pg f_pg
  rintro w5 ⟨A, X_pe, X_pf, X_pg, X_ph⟩
  obtain ⟨ph, h_ph⟩ : ∃ ph, w4.heap.size = ph := ⟨_, rfl⟩
  have o_ph : W.heap.size ≤ ph := by omega
  rw [h_ph] at X_ph n_pe_ph n_ph_pe n_pf_ph n_ph_pf n_pg_ph n_ph_pg
  simp only [h_ph]
  clear h_ph z_ph
  obtain ⟨l_pe, c_pe, f_pe⟩ := id X_pe
  obtain ⟨l_pf, c_pf, f_pf⟩ := id X_pf
  obtain ⟨l_pg, c_pg, f_pg⟩ := id X_pg
  obtain ⟨l_ph, c_ph, f_ph⟩ := id X_ph
  clear X_pe X_pf X_pg X_ph HN HM
  refine wp_region_calm (by kernel_rfl) (by kernel_rfl) ?_
  repeat (go_big_quiet_step ((first | ((go_at_call 18; exact calm_of _ (HB.out _))) | ((go_at_call 19; exact calm_of _ (HC.out _))) | ((go_at_call 15; exact calm_of _ (law40_awake _))))))
  refine wpQuiet_nil ?_
  intro _ hw'
  obtain ⟨u, rfl⟩ := hw'
  have A9 := u.up A
  go_wp2
  all_goals go_ret
  all_goals exact ⟨rfl, A9⟩

theorem walk (a : ByteArray) (ha : a.size ≤ maxLen) (b : ByteArray) (hb : b.size ≤ maxLen) (q : Bool) (i : Int) (wi : (Lit.int .i64 i).wf = true) (c : ByteArray) (hc : c.size ≤ maxLen) (n : Int) (wn : (Lit.int .i64 n).wf = true) (sl : Int) (wsl : (Lit.int .i64 sl).wf = true) (e0 : Int) (we0 : (Lit.int .i64 e0).wf = true) (e1 : Int) (we1 : (Lit.int .i64 e1).wf = true) (e2 : Int) (we2 : (Lit.int .i64 e2).wf = true) (e3 : Int) (we3 : (Lit.int .i64 e3).wf = true) (e4 : Int) (we4 : (Lit.int .i64 e4).wf = true) (e5 : Int) (we5 : (Lit.int .i64 e5).wf = true) (e6 : Int) (we6 : (Lit.int .i64 e6).wf = true) (e7 : Int) (we7 : (Lit.int .i64 e7).wf = true) (W : World) :
    Calls Try.prog 4 #[.agg #[.string a, .string b, .bool q, .int .i64 i, .string c, .int .i64 n], .int .i64 sl, .agg #[.int .i64 e0, .int .i64 e1, .int .i64 e2, .int .i64 e3, .int .i64 e4, .int .i64 e5, .int .i64 e6, .int .i64 e7]] W fun e W' => e = .returned (.bool true) ∧ Below W.heap.size W W' := by
  have A : Below W.heap.size W W := Below.refl _ _
  by_cases h1 : 100 < a.size
  · have t0 : decide (100 < (a.size : Int)) = true := decide_eq_true (by omega)
    go_enter Try.func4, Try.ntmps4
    go_wp2_with (fail)
    refine (law40_awake _).mono ?_
    rintro e w5 ⟨rfl, hb⟩
    replace A : Below W.heap.size W w5 := by (refine below_call ?_ hb; (repeat (first | (with_reducible exact Below.refl _ _) | (with_reducible assumption) | (with_reducible refine Near.up _ ?_) | (with_reducible refine Below.drew ?_) | (with_reducible refine below_alloc_on ?_ _) | (with_reducible refine below_set_on ?_ (by first | (simp; done) | (simp; omega) | omega) _))))
    clear hb
    have z_w5 : W.heap.size ≤ w5.heap.size := A.size
    go_wp2
    all_goals go_ret
    all_goals exact ⟨rfl, A⟩
  by_cases h2 : 100 < b.size
  · have t0 : decide (100 < (a.size : Int)) = false := decide_eq_false (by omega)
    have t1 : decide (100 < (b.size : Int)) = true := decide_eq_true (by omega)
    go_enter Try.func4, Try.ntmps4
    go_wp2_with (fail)
    refine (law40_awake _).mono ?_
    rintro e w5 ⟨rfl, hb⟩
    replace A : Below W.heap.size W w5 := by (refine below_call ?_ hb; (repeat (first | (with_reducible exact Below.refl _ _) | (with_reducible assumption) | (with_reducible refine Near.up _ ?_) | (with_reducible refine Below.drew ?_) | (with_reducible refine below_alloc_on ?_ _) | (with_reducible refine below_set_on ?_ (by first | (simp; done) | (simp; omega) | omega) _))))
    clear hb
    have z_w5 : W.heap.size ≤ w5.heap.size := A.size
    go_wp2
    all_goals go_ret
    all_goals exact ⟨rfl, A⟩
  by_cases h3 : 100 < c.size
  · have t0 : decide (100 < (a.size : Int)) = false := decide_eq_false (by omega)
    have t1 : decide (100 < (b.size : Int)) = false := decide_eq_false (by omega)
    have t2 : decide (100 < (c.size : Int)) = true := decide_eq_true (by omega)
    go_enter Try.func4, Try.ntmps4
    go_wp2_with (fail)
    refine (law40_awake _).mono ?_
    rintro e w5 ⟨rfl, hb⟩
    replace A : Below W.heap.size W w5 := by (refine below_call ?_ hb; (repeat (first | (with_reducible exact Below.refl _ _) | (with_reducible assumption) | (with_reducible refine Near.up _ ?_) | (with_reducible refine Below.drew ?_) | (with_reducible refine below_alloc_on ?_ _) | (with_reducible refine below_set_on ?_ (by first | (simp; done) | (simp; omega) | omega) _))))
    clear hb
    have z_w5 : W.heap.size ≤ w5.heap.size := A.size
    go_wp2
    all_goals go_ret
    all_goals exact ⟨rfl, A⟩
  obtain ⟨A0, A1, A2, A3, A4, A5, E, HN, HM⟩ := next_both a b c q i n sl e0 e1 e2 e3 e4 e5 e6 e7
  obtain ⟨x0, x1, x2, x3, x4, x5, x6, x7, x8, x9, HB, HC⟩ := boot_both a b c q i n (by omega) (by omega)
  exact way a b c A0 A1 A4 q A2 x9 i n sl A3 A5 E e0 e1 e2 e3 e4 e5 e6 e7 x0 x1 x2 x3 x4 x5 x6 x7 x8 W (by omega) (by omega) (by omega) (Lib.hid HN) (Lib.hid HM) (Lib.hid HB) (Lib.hid HC)

set_option maxRecDepth 100000 in
theorem lifted (os : Os) (started : os.Started) (H : Type) (enc : TypeId × Value → H) :
    ReturnsInHanded {} Try.checked os 4 .any (Rows.reviveSaysSpec.pre6 enc Try.prog Try.f4 Rows.reviveSaysRow.domain false) (Rows.reviveSaysSpec.post enc Try.prog Try.f4 false true false false) := by
  refine law_lift started (by kernel_rfl) Try.func4 rfl rfl ?_ (by kernel_rfl)
    (ChangeSpec.witness6 (enc := enc) (C := Try.checked) false ⟨#[], #[.agg #[.string ⟨#[]⟩, .string ⟨#[]⟩, .bool false, .int .i64 0, .string ⟨#[]⟩, .int .i64 0], .int .i64 0, .agg #[.int .i64 0, .int .i64 0, .int .i64 0, .int .i64 0, .int .i64 0, .int .i64 0, .int .i64 0, .int .i64 0]], []⟩ 8 (by kernel_rfl) (by kernel_rfl) (by kernel_rfl) (by kernel_rfl)) ?_
  · intro ds hl
    match ds, hl with
    | [_, _, _], _ => exact ⟨rfl, rfl, rfl⟩
  · intro W base args ds p hval hA hlt hwt
    rw [Try.params4] at hA hval hwt
    obtain ⟨v0, vs0, d0, ds0, p0, q0, hargs, rfl, rfl, h0, r0⟩ := trodAll_cons hA
    obtain ⟨v1, vs1, d1, ds1, p1, q1, rfl, rfl, rfl, h1, r1⟩ := trodAll_cons r0
    obtain ⟨v2, vs2, d2, ds2, p2, q2, rfl, rfl, rfl, h2, r2⟩ := trodAll_cons r1
    obtain ⟨rfl, rfl, rfl⟩ := trodAll_nil r2
    obtain rfl : args = #[v0, v1, v2] := by cases args; simp_all
    obtain ⟨cs0, rfl, l0, k0⟩ := open_leaves 5 [.string, .string, .bool, .int .i64, .string, .int .i64] (by kernel_rfl) (by kernel_rfl) (hval 0 39 v0 rfl rfl) h0
    match cs0, l0, k0 with
    | [y0_0, y0_1, y0_2, y0_3, y0_4, y0_5], _, k0 =>
    obtain ⟨x0_0, e0_0, w0_0⟩ : leafIs (.string) y0_0 := k0 0 _ rfl
    subst e0_0
    obtain ⟨x0_1, e0_1, w0_1⟩ : leafIs (.string) y0_1 := k0 1 _ rfl
    subst e0_1
    obtain ⟨x0_2, e0_2⟩ : leafIs (.bool) y0_2 := k0 2 _ rfl
    subst e0_2
    obtain ⟨x0_3, e0_3, w0_3⟩ : leafIs (.int .i64) y0_3 := k0 3 _ rfl
    subst e0_3
    obtain ⟨x0_4, e0_4, w0_4⟩ : leafIs (.string) y0_4 := k0 4 _ rfl
    subst e0_4
    obtain ⟨x0_5, e0_5, w0_5⟩ : leafIs (.int .i64) y0_5 := k0 5 _ rfl
    subst e0_5
    obtain ⟨a1, rfl, rfl, rfl, w1⟩ := open_int Try.underlying3 (hval 1 3 v1 rfl rfl) h1
    obtain ⟨cs2, rfl, l2, k2⟩ := open_leaves 5 [.int .i64, .int .i64, .int .i64, .int .i64, .int .i64, .int .i64, .int .i64, .int .i64] (by kernel_rfl) (by kernel_rfl) (hval 2 27 v2 rfl rfl) h2
    match cs2, l2, k2 with
    | [y2_0, y2_1, y2_2, y2_3, y2_4, y2_5, y2_6, y2_7], _, k2 =>
    obtain ⟨x2_0, e2_0, w2_0⟩ : leafIs (.int .i64) y2_0 := k2 0 _ rfl
    subst e2_0
    obtain ⟨x2_1, e2_1, w2_1⟩ : leafIs (.int .i64) y2_1 := k2 1 _ rfl
    subst e2_1
    obtain ⟨x2_2, e2_2, w2_2⟩ : leafIs (.int .i64) y2_2 := k2 2 _ rfl
    subst e2_2
    obtain ⟨x2_3, e2_3, w2_3⟩ : leafIs (.int .i64) y2_3 := k2 3 _ rfl
    subst e2_3
    obtain ⟨x2_4, e2_4, w2_4⟩ : leafIs (.int .i64) y2_4 := k2 4 _ rfl
    subst e2_4
    obtain ⟨x2_5, e2_5, w2_5⟩ : leafIs (.int .i64) y2_5 := k2 5 _ rfl
    subst e2_5
    obtain ⟨x2_6, e2_6, w2_6⟩ : leafIs (.int .i64) y2_6 := k2 6 _ rfl
    subst e2_6
    obtain ⟨x2_7, e2_7, w2_7⟩ : leafIs (.int .i64) y2_7 := k2 7 _ rfl
    subst e2_7
    exact walk x0_0 w0_0 x0_1 w0_1 x0_2 x0_3 w0_3 x0_4 w0_4 x0_5 w0_5 a1 w1 x2_0 w2_0 x2_1 w2_1 x2_2 w2_2 x2_3 w2_3 x2_4 w2_4 x2_5 w2_5 x2_6 w2_6 x2_7 w2_7 W

theorem over : Rows.reviveSaysRow.holds Try.pinned (OpenSpec.ofChange Rows.reviveSaysSpec) :=
  OpenClaim.holds_of_wide 4 Try.f4 rfl rfl rfl rfl rfl rfl rfl ⟨rfl, rfl, rfl, rfl, rfl⟩ rfl rfl rfl rfl rfl (by kernel_rfl) Try.func4 (by kernel_rfl)
    (of_decide_eq_true (by kernel_rfl)) (by unfold Func.isWrapper; first | (rw [if_pos (by decide +kernel)]; kernel_rfl) | (rw [if_neg (by decide +kernel)]; exact ⟨rfl, rfl⟩))
    (fun os started H enc _ => lifted os started H enc)

theorem proved : Rows.ReviveSaysSaid := over
#print axioms proved
end Go.Proofs.Ytagedifalinklaa.reviveSays
