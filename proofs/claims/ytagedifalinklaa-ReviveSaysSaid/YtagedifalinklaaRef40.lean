/- Contracts of the document's revive: what is found, and what is begun with. -/
import Derived.Test.YtagedifalinklaaRef39All
import Derived.Test.YtagedifalinklaaBootNext
namespace Go.Proofs.Ytagedifalinklaa
open Go.RowKit
set_option linter.unusedVariables false
set_option linter.unusedSimpArgs false
set_option maxRecDepth 100000
attribute [local go_sem] cell_set_ite Near.cell Near.frozen
attribute [local go_sem ↓] Go.wp_at_zero Go.wp_at_succ

set_option maxHeartbeats 4000000 in
theorem rbo_lost (a b c : ByteArray) (q : Bool) (i n : Int) (e0 e1 e2 e3 e4 e5 e6 e7 sl : Int) (w : World)
    (HN : Hid (∀ w, Calls Try.prog 12 #[.agg #[.string a, .string b]] w fun e w' => e = .returned (.tuple #[.agg #[.int .i64 e0, .int .i64 e1, .int .i64 e2, .int .i64 e3, .int .i64 e4, .int .i64 e5, .int .i64 e6, .int .i64 e7], .int .i64 sl, .bool false]) ∧ Below w.heap.size w w')) :
    Calls Try.prog 19 #[.agg #[.string a, .string b, .bool q, .int .i64 i, .string c, .int .i64 n]] w fun e w' => e = .returned (.agg #[.int .i64 1, .int .i64 0, .int .i64 0, .int .i64 0, .int .i64 0, .int .i64 0, .int .i64 0, .int .i64 0, .int .i64 0, .bool true]) ∧ Below w.heap.size w w' := by
  have A : Below w.heap.size w w := Below.refl _ _
  go_enter Try.func19, Try.ntmps19
  go_upto_region 1 with (fail)
  have z_p : w.heap.size ≤ w.heap.size := by (have h9 := A.size; omega)
  have z_r : w.heap.size ≤ w.heap.size + 1 := by (have h9 := A.size; omega)
  have n_p_r : ¬ w.heap.size = w.heap.size + 1 := by omega
  have n_r_p : ¬ w.heap.size + 1 = w.heap.size := by omega
  refine at_world (fun V => Below w.heap.size w V ∧ Box V (w.heap.size) #[.string a, .string b, .bool q, .int .i64 i, .string c, .int .i64 n] ∧ Box V (w.heap.size + 1) #[.int .i64 0, .int .i64 0, .int .i64 0, .int .i64 0, .int .i64 0, .int .i64 0, .int .i64 0, .int .i64 0, .int .i64 0, .bool false]) ⟨by (repeat (first | (with_reducible exact Below.refl _ _) | (with_reducible assumption) | (with_reducible refine Near.up _ ?_) | (with_reducible refine Below.drew ?_) | (with_reducible refine below_alloc_on ?_ _) | (with_reducible refine below_set_on ?_ (by first | (simp; done) | (simp; omega) | omega) _))), by (repeat (first | (with_reducible assumption) | (with_reducible exact box_new _ _ _) | ((with_reducible apply box_at); (first | (with_reducible rfl) | (simp <;> omega))) | (with_reducible apply Box.drew) | (with_reducible apply Box.drewN) | (with_reducible apply Box.near) | (with_reducible apply Box.alloc) | ((with_reducible apply box_far); (first | assumption | omega | (simp <;> omega))) | ((with_reducible apply Box.one_set); (with_reducible assumption)) | ((with_reducible apply Box.two_set); (with_reducible assumption)) | ((with_reducible apply Box.three_set); (with_reducible assumption)) | (with_reducible apply Box.set) | (simp only [List.size_toArray, List.length_cons, List.length_nil, Array.size_setIfInBounds] <;> omega))), by (repeat (first | (with_reducible assumption) | (with_reducible exact box_new _ _ _) | ((with_reducible apply box_at); (first | (with_reducible rfl) | (simp <;> omega))) | (with_reducible apply Box.drew) | (with_reducible apply Box.drewN) | (with_reducible apply Box.near) | (with_reducible apply Box.alloc) | ((with_reducible apply box_far); (first | assumption | omega | (simp <;> omega))) | ((with_reducible apply Box.one_set); (with_reducible assumption)) | ((with_reducible apply Box.two_set); (with_reducible assumption)) | ((with_reducible apply Box.three_set); (with_reducible assumption)) | (with_reducible apply Box.set) | (simp only [List.size_toArray, List.length_cons, List.length_nil, Array.size_setIfInBounds] <;> omega)))⟩ ?_
  clear A
  rintro w1 ⟨A, X_p, X_r⟩
  obtain ⟨p, h_p⟩ : ∃ p, w.heap.size = p := ⟨_, rfl⟩
  have o_p : w.heap.size ≤ p := by omega
  obtain ⟨r, h_r⟩ : ∃ r, w.heap.size + 1 = r := ⟨_, rfl⟩
  have o_r : w.heap.size ≤ r := by omega
  rw [h_r] at X_r n_p_r n_r_p
  simp only [h_r]
  clear h_r z_r
  rw [h_p] at X_p n_p_r n_r_p
  simp only [h_p]
  clear h_p z_p
  obtain ⟨l_r, c_r, f_r⟩ := id X_r
  obtain ⟨l_p, c_p, f_p⟩ := id X_p
  go_wp2_with (fail)
  refine (HN.out _).mono ?_
  rintro e w2 ⟨rfl, hb⟩
  replace A := below_call A hb
  clear l_r c_r f_r
  replace X_r := X_r.below hb
  clear l_p c_p f_p
  replace X_p := X_p.below hb
  clear hb
  obtain ⟨l_r, c_r, f_r⟩ := id X_r
  obtain ⟨l_p, c_p, f_p⟩ := id X_p
  go_upto_region 2 with (fail)
  have z_ep : w.heap.size ≤ w2.heap.size := by (have h9 := A.size; omega)
  have n_r_ep : ¬ r = w2.heap.size := by omega
  have n_ep_r : ¬ w2.heap.size = r := by omega
  have n_p_ep : ¬ p = w2.heap.size := by omega
  have n_ep_p : ¬ w2.heap.size = p := by omega
  refine at_world (fun V => Below w.heap.size w V ∧ Box V (r) #[.int .i64 0, .int .i64 0, .int .i64 0, .int .i64 0, .int .i64 0, .int .i64 0, .int .i64 0, .int .i64 0, .int .i64 0, .bool false] ∧ Box V (p) #[.string a, .string b, .bool q, .int .i64 i, .string c, .int .i64 n] ∧ Box V (w2.heap.size) #[.int .i64 e0, .int .i64 e1, .int .i64 e2, .int .i64 e3, .int .i64 e4, .int .i64 e5, .int .i64 e6, .int .i64 e7]) ⟨by (repeat (first | (with_reducible exact Below.refl _ _) | (with_reducible assumption) | (with_reducible refine Near.up _ ?_) | (with_reducible refine Below.drew ?_) | (with_reducible refine below_alloc_on ?_ _) | (with_reducible refine below_set_on ?_ (by first | (simp; done) | (simp; omega) | omega) _))), by (repeat (first | (with_reducible assumption) | (with_reducible exact box_new _ _ _) | ((with_reducible apply box_at); (first | (with_reducible rfl) | (simp <;> omega))) | (with_reducible apply Box.drew) | (with_reducible apply Box.drewN) | (with_reducible apply Box.near) | (with_reducible apply Box.alloc) | ((with_reducible apply box_far); (first | assumption | omega | (simp <;> omega))) | ((with_reducible apply Box.one_set); (with_reducible assumption)) | ((with_reducible apply Box.two_set); (with_reducible assumption)) | ((with_reducible apply Box.three_set); (with_reducible assumption)) | (with_reducible apply Box.set) | (simp only [List.size_toArray, List.length_cons, List.length_nil, Array.size_setIfInBounds] <;> omega))), by (repeat (first | (with_reducible assumption) | (with_reducible exact box_new _ _ _) | ((with_reducible apply box_at); (first | (with_reducible rfl) | (simp <;> omega))) | (with_reducible apply Box.drew) | (with_reducible apply Box.drewN) | (with_reducible apply Box.near) | (with_reducible apply Box.alloc) | ((with_reducible apply box_far); (first | assumption | omega | (simp <;> omega))) | ((with_reducible apply Box.one_set); (with_reducible assumption)) | ((with_reducible apply Box.two_set); (with_reducible assumption)) | ((with_reducible apply Box.three_set); (with_reducible assumption)) | (with_reducible apply Box.set) | (simp only [List.size_toArray, List.length_cons, List.length_nil, Array.size_setIfInBounds] <;> omega))), by (repeat (first | (with_reducible assumption) | (with_reducible exact box_new _ _ _) | ((with_reducible apply box_at); (first | (with_reducible rfl) | (simp <;> omega))) | (with_reducible apply Box.drew) | (with_reducible apply Box.drewN) | (with_reducible apply Box.near) | (with_reducible apply Box.alloc) | ((with_reducible apply box_far); (first | assumption | omega | (simp <;> omega))) | ((with_reducible apply Box.one_set); (with_reducible assumption)) | ((with_reducible apply Box.two_set); (with_reducible assumption)) | ((with_reducible apply Box.three_set); (with_reducible assumption)) | (with_reducible apply Box.set) | (simp only [List.size_toArray, List.length_cons, List.length_nil, Array.size_setIfInBounds] <;> omega)))⟩ ?_
  clear A X_r l_r c_r f_r X_p l_p c_p f_p
  rintro w3 ⟨A, X_r, X_p, X_ep⟩
  obtain ⟨ep, h_ep⟩ : ∃ ep, w2.heap.size = ep := ⟨_, rfl⟩
  have o_ep : w.heap.size ≤ ep := by omega
  rw [h_ep] at X_ep n_r_ep n_ep_r n_p_ep n_ep_p
  simp only [h_ep]
  clear h_ep z_ep
  obtain ⟨l_r, c_r, f_r⟩ := id X_r
  obtain ⟨l_p, c_p, f_p⟩ := id X_p
  obtain ⟨l_ep, c_ep, f_ep⟩ := id X_ep
  go_wp2
  refine bodyPost_ret (v := .agg #[.int .i64 1, .int .i64 0, .int .i64 0, .int .i64 0, .int .i64 0, .int .i64 0, .int .i64 0, .int .i64 0, .int .i64 0, .bool true]) (by simp [results, Try.results19, go_sem, c_r]) rfl ⟨rfl, by (repeat (first | (with_reducible exact Below.refl _ _) | (with_reducible assumption) | (with_reducible refine Near.up _ ?_) | (with_reducible refine Below.drew ?_) | (with_reducible refine below_alloc_on ?_ _) | (with_reducible refine below_set_on ?_ (by first | (simp; done) | (simp; omega) | omega) _)))⟩

set_option maxHeartbeats 4000000 in
theorem rbo_other (a b c : ByteArray) (q : Bool) (i n : Int) (e0 e1 e2 e3 e4 e5 e6 e7 sl : Int) (w : World)
    (HN : Hid (∀ w, Calls Try.prog 12 #[.agg #[.string a, .string b]] w fun e w' => e = .returned (.tuple #[.agg #[.int .i64 e0, .int .i64 e1, .int .i64 e2, .int .i64 e3, .int .i64 e4, .int .i64 e5, .int .i64 e6, .int .i64 e7], .int .i64 sl, .bool true]) ∧ Below w.heap.size w w')) (q3 : (e1 == 3) = false) (q4 : (e1 == 4) = false) (q5 : (e1 == 5) = false) (q7 : (e1 == 7) = false) :
    Calls Try.prog 19 #[.agg #[.string a, .string b, .bool q, .int .i64 i, .string c, .int .i64 n]] w fun e w' => e = .returned (.agg #[.int .i64 1, .int .i64 0, .int .i64 0, .int .i64 0, .int .i64 e5, .int .i64 e6, .int .i64 e7, .int .i64 e0, .int .i64 sl, .bool false]) ∧ Below w.heap.size w w' := by
  have A : Below w.heap.size w w := Below.refl _ _
  go_enter Try.func19, Try.ntmps19
  go_upto_region 1 with (fail)
  have z_p : w.heap.size ≤ w.heap.size := by (have h9 := A.size; omega)
  have z_r : w.heap.size ≤ w.heap.size + 1 := by (have h9 := A.size; omega)
  have n_p_r : ¬ w.heap.size = w.heap.size + 1 := by omega
  have n_r_p : ¬ w.heap.size + 1 = w.heap.size := by omega
  refine at_world (fun V => Below w.heap.size w V ∧ Box V (w.heap.size) #[.string a, .string b, .bool q, .int .i64 i, .string c, .int .i64 n] ∧ Box V (w.heap.size + 1) #[.int .i64 0, .int .i64 0, .int .i64 0, .int .i64 0, .int .i64 0, .int .i64 0, .int .i64 0, .int .i64 0, .int .i64 0, .bool false]) ⟨by (repeat (first | (with_reducible exact Below.refl _ _) | (with_reducible assumption) | (with_reducible refine Near.up _ ?_) | (with_reducible refine Below.drew ?_) | (with_reducible refine below_alloc_on ?_ _) | (with_reducible refine below_set_on ?_ (by first | (simp; done) | (simp; omega) | omega) _))), by (repeat (first | (with_reducible assumption) | (with_reducible exact box_new _ _ _) | ((with_reducible apply box_at); (first | (with_reducible rfl) | (simp <;> omega))) | (with_reducible apply Box.drew) | (with_reducible apply Box.drewN) | (with_reducible apply Box.near) | (with_reducible apply Box.alloc) | ((with_reducible apply box_far); (first | assumption | omega | (simp <;> omega))) | ((with_reducible apply Box.one_set); (with_reducible assumption)) | ((with_reducible apply Box.two_set); (with_reducible assumption)) | ((with_reducible apply Box.three_set); (with_reducible assumption)) | (with_reducible apply Box.set) | (simp only [List.size_toArray, List.length_cons, List.length_nil, Array.size_setIfInBounds] <;> omega))), by (repeat (first | (with_reducible assumption) | (with_reducible exact box_new _ _ _) | ((with_reducible apply box_at); (first | (with_reducible rfl) | (simp <;> omega))) | (with_reducible apply Box.drew) | (with_reducible apply Box.drewN) | (with_reducible apply Box.near) | (with_reducible apply Box.alloc) | ((with_reducible apply box_far); (first | assumption | omega | (simp <;> omega))) | ((with_reducible apply Box.one_set); (with_reducible assumption)) | ((with_reducible apply Box.two_set); (with_reducible assumption)) | ((with_reducible apply Box.three_set); (with_reducible assumption)) | (with_reducible apply Box.set) | (simp only [List.size_toArray, List.length_cons, List.length_nil, Array.size_setIfInBounds] <;> omega)))⟩ ?_
  clear A
  rintro w1 ⟨A, X_p, X_r⟩
  obtain ⟨p, h_p⟩ : ∃ p, w.heap.size = p := ⟨_, rfl⟩
  have o_p : w.heap.size ≤ p := by omega
  obtain ⟨r, h_r⟩ : ∃ r, w.heap.size + 1 = r := ⟨_, rfl⟩
  have o_r : w.heap.size ≤ r := by omega
  rw [h_r] at X_r n_p_r n_r_p
  simp only [h_r]
  clear h_r z_r
  rw [h_p] at X_p n_p_r n_r_p
  simp only [h_p]
  clear h_p z_p
  obtain ⟨l_r, c_r, f_r⟩ := id X_r
  obtain ⟨l_p, c_p, f_p⟩ := id X_p
  go_wp2_with (fail)
  refine (HN.out _).mono ?_
  rintro e w2 ⟨rfl, hb⟩
  replace A := below_call A hb
  clear l_r c_r f_r
  replace X_r := X_r.below hb
  clear l_p c_p f_p
  replace X_p := X_p.below hb
  clear hb
  obtain ⟨l_r, c_r, f_r⟩ := id X_r
  obtain ⟨l_p, c_p, f_p⟩ := id X_p
  go_upto_region 2 with (fail)
  have z_ep : w.heap.size ≤ w2.heap.size := by (have h9 := A.size; omega)
  have n_r_ep : ¬ r = w2.heap.size := by omega
  have n_ep_r : ¬ w2.heap.size = r := by omega
  have n_p_ep : ¬ p = w2.heap.size := by omega
  have n_ep_p : ¬ w2.heap.size = p := by omega
  refine at_world (fun V => Below w.heap.size w V ∧ Box V (r) #[.int .i64 0, .int .i64 0, .int .i64 0, .int .i64 0, .int .i64 0, .int .i64 0, .int .i64 0, .int .i64 0, .int .i64 0, .bool false] ∧ Box V (p) #[.string a, .string b, .bool q, .int .i64 i, .string c, .int .i64 n] ∧ Box V (w2.heap.size) #[.int .i64 e0, .int .i64 e1, .int .i64 e2, .int .i64 e3, .int .i64 e4, .int .i64 e5, .int .i64 e6, .int .i64 e7]) ⟨by (repeat (first | (with_reducible exact Below.refl _ _) | (with_reducible assumption) | (with_reducible refine Near.up _ ?_) | (with_reducible refine Below.drew ?_) | (with_reducible refine below_alloc_on ?_ _) | (with_reducible refine below_set_on ?_ (by first | (simp; done) | (simp; omega) | omega) _))), by (repeat (first | (with_reducible assumption) | (with_reducible exact box_new _ _ _) | ((with_reducible apply box_at); (first | (with_reducible rfl) | (simp <;> omega))) | (with_reducible apply Box.drew) | (with_reducible apply Box.drewN) | (with_reducible apply Box.near) | (with_reducible apply Box.alloc) | ((with_reducible apply box_far); (first | assumption | omega | (simp <;> omega))) | ((with_reducible apply Box.one_set); (with_reducible assumption)) | ((with_reducible apply Box.two_set); (with_reducible assumption)) | ((with_reducible apply Box.three_set); (with_reducible assumption)) | (with_reducible apply Box.set) | (simp only [List.size_toArray, List.length_cons, List.length_nil, Array.size_setIfInBounds] <;> omega))), by (repeat (first | (with_reducible assumption) | (with_reducible exact box_new _ _ _) | ((with_reducible apply box_at); (first | (with_reducible rfl) | (simp <;> omega))) | (with_reducible apply Box.drew) | (with_reducible apply Box.drewN) | (with_reducible apply Box.near) | (with_reducible apply Box.alloc) | ((with_reducible apply box_far); (first | assumption | omega | (simp <;> omega))) | ((with_reducible apply Box.one_set); (with_reducible assumption)) | ((with_reducible apply Box.two_set); (with_reducible assumption)) | ((with_reducible apply Box.three_set); (with_reducible assumption)) | (with_reducible apply Box.set) | (simp only [List.size_toArray, List.length_cons, List.length_nil, Array.size_setIfInBounds] <;> omega))), by (repeat (first | (with_reducible assumption) | (with_reducible exact box_new _ _ _) | ((with_reducible apply box_at); (first | (with_reducible rfl) | (simp <;> omega))) | (with_reducible apply Box.drew) | (with_reducible apply Box.drewN) | (with_reducible apply Box.near) | (with_reducible apply Box.alloc) | ((with_reducible apply box_far); (first | assumption | omega | (simp <;> omega))) | ((with_reducible apply Box.one_set); (with_reducible assumption)) | ((with_reducible apply Box.two_set); (with_reducible assumption)) | ((with_reducible apply Box.three_set); (with_reducible assumption)) | (with_reducible apply Box.set) | (simp only [List.size_toArray, List.length_cons, List.length_nil, Array.size_setIfInBounds] <;> omega)))⟩ ?_
  clear A X_r l_r c_r f_r X_p l_p c_p f_p
  rintro w3 ⟨A, X_r, X_p, X_ep⟩
  obtain ⟨ep, h_ep⟩ : ∃ ep, w2.heap.size = ep := ⟨_, rfl⟩
  have o_ep : w.heap.size ≤ ep := by omega
  rw [h_ep] at X_ep n_r_ep n_ep_r n_p_ep n_ep_p
  simp only [h_ep]
  clear h_ep z_ep
  obtain ⟨l_r, c_r, f_r⟩ := id X_r
  obtain ⟨l_p, c_p, f_p⟩ := id X_p
  obtain ⟨l_ep, c_ep, f_ep⟩ := id X_ep
  go_upto_region 5 with (fail)
  have z_bt : w.heap.size ≤ w3.heap.size := by (have h9 := A.size; omega)
  have n_r_bt : ¬ r = w3.heap.size := by omega
  have n_bt_r : ¬ w3.heap.size = r := by omega
  have n_p_bt : ¬ p = w3.heap.size := by omega
  have n_bt_p : ¬ w3.heap.size = p := by omega
  have n_ep_bt : ¬ ep = w3.heap.size := by omega
  have n_bt_ep : ¬ w3.heap.size = ep := by omega
  refine at_world (fun V => Below w.heap.size w V ∧ Box V (r) #[.int .i64 0, .int .i64 0, .int .i64 0, .int .i64 0, .int .i64 0, .int .i64 0, .int .i64 0, .int .i64 0, .int .i64 0, .bool false] ∧ Box V (p) #[.string a, .string b, .bool q, .int .i64 i, .string c, .int .i64 n] ∧ Box V (ep) #[.int .i64 e0, .int .i64 e1, .int .i64 e2, .int .i64 e3, .int .i64 e4, .int .i64 e5, .int .i64 e6, .int .i64 e7] ∧ Box V (w3.heap.size) #[.int .i64 1, .int .i64 0, .int .i64 0, .int .i64 0, .int .i64 e5, .int .i64 e6, .int .i64 e7, .int .i64 e0, .int .i64 sl, .bool false]) ⟨by (repeat (first | (with_reducible exact Below.refl _ _) | (with_reducible assumption) | (with_reducible refine Near.up _ ?_) | (with_reducible refine Below.drew ?_) | (with_reducible refine below_alloc_on ?_ _) | (with_reducible refine below_set_on ?_ (by first | (simp; done) | (simp; omega) | omega) _))), by (repeat (first | (with_reducible assumption) | (with_reducible exact box_new _ _ _) | ((with_reducible apply box_at); (first | (with_reducible rfl) | (simp <;> omega))) | (with_reducible apply Box.drew) | (with_reducible apply Box.drewN) | (with_reducible apply Box.near) | (with_reducible apply Box.alloc) | ((with_reducible apply box_far); (first | assumption | omega | (simp <;> omega))) | ((with_reducible apply Box.one_set); (with_reducible assumption)) | ((with_reducible apply Box.two_set); (with_reducible assumption)) | ((with_reducible apply Box.three_set); (with_reducible assumption)) | (with_reducible apply Box.set) | (simp only [List.size_toArray, List.length_cons, List.length_nil, Array.size_setIfInBounds] <;> omega))), by (repeat (first | (with_reducible assumption) | (with_reducible exact box_new _ _ _) | ((with_reducible apply box_at); (first | (with_reducible rfl) | (simp <;> omega))) | (with_reducible apply Box.drew) | (with_reducible apply Box.drewN) | (with_reducible apply Box.near) | (with_reducible apply Box.alloc) | ((with_reducible apply box_far); (first | assumption | omega | (simp <;> omega))) | ((with_reducible apply Box.one_set); (with_reducible assumption)) | ((with_reducible apply Box.two_set); (with_reducible assumption)) | ((with_reducible apply Box.three_set); (with_reducible assumption)) | (with_reducible apply Box.set) | (simp only [List.size_toArray, List.length_cons, List.length_nil, Array.size_setIfInBounds] <;> omega))), by (repeat (first | (with_reducible assumption) | (with_reducible exact box_new _ _ _) | ((with_reducible apply box_at); (first | (with_reducible rfl) | (simp <;> omega))) | (with_reducible apply Box.drew) | (with_reducible apply Box.drewN) | (with_reducible apply Box.near) | (with_reducible apply Box.alloc) | ((with_reducible apply box_far); (first | assumption | omega | (simp <;> omega))) | ((with_reducible apply Box.one_set); (with_reducible assumption)) | ((with_reducible apply Box.two_set); (with_reducible assumption)) | ((with_reducible apply Box.three_set); (with_reducible assumption)) | (with_reducible apply Box.set) | (simp only [List.size_toArray, List.length_cons, List.length_nil, Array.size_setIfInBounds] <;> omega))), by (repeat (first | (with_reducible assumption) | (with_reducible exact box_new _ _ _) | ((with_reducible apply box_at); (first | (with_reducible rfl) | (simp <;> omega))) | (with_reducible apply Box.drew) | (with_reducible apply Box.drewN) | (with_reducible apply Box.near) | (with_reducible apply Box.alloc) | ((with_reducible apply box_far); (first | assumption | omega | (simp <;> omega))) | ((with_reducible apply Box.one_set); (with_reducible assumption)) | ((with_reducible apply Box.two_set); (with_reducible assumption)) | ((with_reducible apply Box.three_set); (with_reducible assumption)) | (with_reducible apply Box.set) | (simp only [List.size_toArray, List.length_cons, List.length_nil, Array.size_setIfInBounds] <;> omega)))⟩ ?_
  clear A X_r l_r c_r f_r X_p l_p c_p f_p X_ep l_ep c_ep f_ep
  rintro w4 ⟨A, X_r, X_p, X_ep, X_bt⟩
  obtain ⟨bt, h_bt⟩ : ∃ bt, w3.heap.size = bt := ⟨_, rfl⟩
  have o_bt : w.heap.size ≤ bt := by omega
  rw [h_bt] at X_bt n_r_bt n_bt_r n_p_bt n_bt_p n_ep_bt n_bt_ep
  simp only [h_bt]
  clear h_bt z_bt
  obtain ⟨l_r, c_r, f_r⟩ := id X_r
  obtain ⟨l_p, c_p, f_p⟩ := id X_p
  obtain ⟨l_ep, c_ep, f_ep⟩ := id X_ep
  obtain ⟨l_bt, c_bt, f_bt⟩ := id X_bt
  go_wp2
  refine bodyPost_ret (v := .agg #[.int .i64 1, .int .i64 0, .int .i64 0, .int .i64 0, .int .i64 e5, .int .i64 e6, .int .i64 e7, .int .i64 e0, .int .i64 sl, .bool false]) (by simp [results, Try.results19, go_sem, c_r]) rfl ⟨rfl, by (repeat (first | (with_reducible exact Below.refl _ _) | (with_reducible assumption) | (with_reducible refine Near.up _ ?_) | (with_reducible refine Below.drew ?_) | (with_reducible refine below_alloc_on ?_ _) | (with_reducible refine below_set_on ?_ (by first | (simp; done) | (simp; omega) | omega) _)))⟩

set_option maxHeartbeats 4000000 in
theorem rbo_idle3 (a b c : ByteArray) (q : Bool) (i n : Int) (e0 e2 e3 e4 e5 e6 e7 sl : Int) (w : World)
    (HN : Hid (∀ w, Calls Try.prog 12 #[.agg #[.string a, .string b]] w fun e w' => e = .returned (.tuple #[.agg #[.int .i64 e0, .int .i64 3, .int .i64 e2, .int .i64 e3, .int .i64 e4, .int .i64 e5, .int .i64 e6, .int .i64 e7], .int .i64 sl, .bool true]) ∧ Below w.heap.size w w')) (ck : Int) (hck : (ck == 0) = false) (HC : Hid (∀ w, Calls Try.prog 38 #[.agg #[.int .i64 e2, .int .i64 e3, .int .i64 e4]] w fun e w' => e = .returned (.int .i64 ck) ∧ Below w.heap.size w w')) :
    Calls Try.prog 19 #[.agg #[.string a, .string b, .bool q, .int .i64 i, .string c, .int .i64 n]] w fun e w' => e = .returned (.agg #[.int .i64 1, .int .i64 0, .int .i64 0, .int .i64 0, .int .i64 e5, .int .i64 e6, .int .i64 e7, .int .i64 e0, .int .i64 sl, .bool false]) ∧ Below w.heap.size w w' := by
  have A : Below w.heap.size w w := Below.refl _ _
  go_enter Try.func19, Try.ntmps19
  go_upto_region 1 with (fail)
  have z_p : w.heap.size ≤ w.heap.size := by (have h9 := A.size; omega)
  have z_r : w.heap.size ≤ w.heap.size + 1 := by (have h9 := A.size; omega)
  have n_p_r : ¬ w.heap.size = w.heap.size + 1 := by omega
  have n_r_p : ¬ w.heap.size + 1 = w.heap.size := by omega
  refine at_world (fun V => Below w.heap.size w V ∧ Box V (w.heap.size) #[.string a, .string b, .bool q, .int .i64 i, .string c, .int .i64 n] ∧ Box V (w.heap.size + 1) #[.int .i64 0, .int .i64 0, .int .i64 0, .int .i64 0, .int .i64 0, .int .i64 0, .int .i64 0, .int .i64 0, .int .i64 0, .bool false]) ⟨by (repeat (first | (with_reducible exact Below.refl _ _) | (with_reducible assumption) | (with_reducible refine Near.up _ ?_) | (with_reducible refine Below.drew ?_) | (with_reducible refine below_alloc_on ?_ _) | (with_reducible refine below_set_on ?_ (by first | (simp; done) | (simp; omega) | omega) _))), by (repeat (first | (with_reducible assumption) | (with_reducible exact box_new _ _ _) | ((with_reducible apply box_at); (first | (with_reducible rfl) | (simp <;> omega))) | (with_reducible apply Box.drew) | (with_reducible apply Box.drewN) | (with_reducible apply Box.near) | (with_reducible apply Box.alloc) | ((with_reducible apply box_far); (first | assumption | omega | (simp <;> omega))) | ((with_reducible apply Box.one_set); (with_reducible assumption)) | ((with_reducible apply Box.two_set); (with_reducible assumption)) | ((with_reducible apply Box.three_set); (with_reducible assumption)) | (with_reducible apply Box.set) | (simp only [List.size_toArray, List.length_cons, List.length_nil, Array.size_setIfInBounds] <;> omega))), by (repeat (first | (with_reducible assumption) | (with_reducible exact box_new _ _ _) | ((with_reducible apply box_at); (first | (with_reducible rfl) | (simp <;> omega))) | (with_reducible apply Box.drew) | (with_reducible apply Box.drewN) | (with_reducible apply Box.near) | (with_reducible apply Box.alloc) | ((with_reducible apply box_far); (first | assumption | omega | (simp <;> omega))) | ((with_reducible apply Box.one_set); (with_reducible assumption)) | ((with_reducible apply Box.two_set); (with_reducible assumption)) | ((with_reducible apply Box.three_set); (with_reducible assumption)) | (with_reducible apply Box.set) | (simp only [List.size_toArray, List.length_cons, List.length_nil, Array.size_setIfInBounds] <;> omega)))⟩ ?_
  clear A
  rintro w1 ⟨A, X_p, X_r⟩
  obtain ⟨p, h_p⟩ : ∃ p, w.heap.size = p := ⟨_, rfl⟩
  have o_p : w.heap.size ≤ p := by omega
  obtain ⟨r, h_r⟩ : ∃ r, w.heap.size + 1 = r := ⟨_, rfl⟩
  have o_r : w.heap.size ≤ r := by omega
  rw [h_r] at X_r n_p_r n_r_p
  simp only [h_r]
  clear h_r z_r
  rw [h_p] at X_p n_p_r n_r_p
  simp only [h_p]
  clear h_p z_p
  obtain ⟨l_r, c_r, f_r⟩ := id X_r
  obtain ⟨l_p, c_p, f_p⟩ := id X_p
  go_wp2_with (fail)
  refine (HN.out _).mono ?_
  rintro e w2 ⟨rfl, hb⟩
  replace A := below_call A hb
  clear l_r c_r f_r
  replace X_r := X_r.below hb
  clear l_p c_p f_p
  replace X_p := X_p.below hb
  clear hb
  obtain ⟨l_r, c_r, f_r⟩ := id X_r
  obtain ⟨l_p, c_p, f_p⟩ := id X_p
  go_upto_region 2 with (fail)
  have z_ep : w.heap.size ≤ w2.heap.size := by (have h9 := A.size; omega)
  have n_r_ep : ¬ r = w2.heap.size := by omega
  have n_ep_r : ¬ w2.heap.size = r := by omega
  have n_p_ep : ¬ p = w2.heap.size := by omega
  have n_ep_p : ¬ w2.heap.size = p := by omega
  refine at_world (fun V => Below w.heap.size w V ∧ Box V (r) #[.int .i64 0, .int .i64 0, .int .i64 0, .int .i64 0, .int .i64 0, .int .i64 0, .int .i64 0, .int .i64 0, .int .i64 0, .bool false] ∧ Box V (p) #[.string a, .string b, .bool q, .int .i64 i, .string c, .int .i64 n] ∧ Box V (w2.heap.size) #[.int .i64 e0, .int .i64 3, .int .i64 e2, .int .i64 e3, .int .i64 e4, .int .i64 e5, .int .i64 e6, .int .i64 e7]) ⟨by (repeat (first | (with_reducible exact Below.refl _ _) | (with_reducible assumption) | (with_reducible refine Near.up _ ?_) | (with_reducible refine Below.drew ?_) | (with_reducible refine below_alloc_on ?_ _) | (with_reducible refine below_set_on ?_ (by first | (simp; done) | (simp; omega) | omega) _))), by (repeat (first | (with_reducible assumption) | (with_reducible exact box_new _ _ _) | ((with_reducible apply box_at); (first | (with_reducible rfl) | (simp <;> omega))) | (with_reducible apply Box.drew) | (with_reducible apply Box.drewN) | (with_reducible apply Box.near) | (with_reducible apply Box.alloc) | ((with_reducible apply box_far); (first | assumption | omega | (simp <;> omega))) | ((with_reducible apply Box.one_set); (with_reducible assumption)) | ((with_reducible apply Box.two_set); (with_reducible assumption)) | ((with_reducible apply Box.three_set); (with_reducible assumption)) | (with_reducible apply Box.set) | (simp only [List.size_toArray, List.length_cons, List.length_nil, Array.size_setIfInBounds] <;> omega))), by (repeat (first | (with_reducible assumption) | (with_reducible exact box_new _ _ _) | ((with_reducible apply box_at); (first | (with_reducible rfl) | (simp <;> omega))) | (with_reducible apply Box.drew) | (with_reducible apply Box.drewN) | (with_reducible apply Box.near) | (with_reducible apply Box.alloc) | ((with_reducible apply box_far); (first | assumption | omega | (simp <;> omega))) | ((with_reducible apply Box.one_set); (with_reducible assumption)) | ((with_reducible apply Box.two_set); (with_reducible assumption)) | ((with_reducible apply Box.three_set); (with_reducible assumption)) | (with_reducible apply Box.set) | (simp only [List.size_toArray, List.length_cons, List.length_nil, Array.size_setIfInBounds] <;> omega))), by (repeat (first | (with_reducible assumption) | (with_reducible exact box_new _ _ _) | ((with_reducible apply box_at); (first | (with_reducible rfl) | (simp <;> omega))) | (with_reducible apply Box.drew) | (with_reducible apply Box.drewN) | (with_reducible apply Box.near) | (with_reducible apply Box.alloc) | ((with_reducible apply box_far); (first | assumption | omega | (simp <;> omega))) | ((with_reducible apply Box.one_set); (with_reducible assumption)) | ((with_reducible apply Box.two_set); (with_reducible assumption)) | ((with_reducible apply Box.three_set); (with_reducible assumption)) | (with_reducible apply Box.set) | (simp only [List.size_toArray, List.length_cons, List.length_nil, Array.size_setIfInBounds] <;> omega)))⟩ ?_
  clear A X_r l_r c_r f_r X_p l_p c_p f_p
  rintro w3 ⟨A, X_r, X_p, X_ep⟩
  obtain ⟨ep, h_ep⟩ : ∃ ep, w2.heap.size = ep := ⟨_, rfl⟩
  have o_ep : w.heap.size ≤ ep := by omega
  rw [h_ep] at X_ep n_r_ep n_ep_r n_p_ep n_ep_p
  simp only [h_ep]
  clear h_ep z_ep
  obtain ⟨l_r, c_r, f_r⟩ := id X_r
  obtain ⟨l_p, c_p, f_p⟩ := id X_p
  obtain ⟨l_ep, c_ep, f_ep⟩ := id X_ep
  go_upto_region 5 with (fail)
  have z_bt : w.heap.size ≤ w3.heap.size := by (have h9 := A.size; omega)
  have n_r_bt : ¬ r = w3.heap.size := by omega
  have n_bt_r : ¬ w3.heap.size = r := by omega
  have n_p_bt : ¬ p = w3.heap.size := by omega
  have n_bt_p : ¬ w3.heap.size = p := by omega
  have n_ep_bt : ¬ ep = w3.heap.size := by omega
  have n_bt_ep : ¬ w3.heap.size = ep := by omega
  refine at_world (fun V => Below w.heap.size w V ∧ Box V (r) #[.int .i64 0, .int .i64 0, .int .i64 0, .int .i64 0, .int .i64 0, .int .i64 0, .int .i64 0, .int .i64 0, .int .i64 0, .bool false] ∧ Box V (p) #[.string a, .string b, .bool q, .int .i64 i, .string c, .int .i64 n] ∧ Box V (ep) #[.int .i64 e0, .int .i64 3, .int .i64 e2, .int .i64 e3, .int .i64 e4, .int .i64 e5, .int .i64 e6, .int .i64 e7] ∧ Box V (w3.heap.size) #[.int .i64 1, .int .i64 0, .int .i64 0, .int .i64 0, .int .i64 e5, .int .i64 e6, .int .i64 e7, .int .i64 e0, .int .i64 sl, .bool false]) ⟨by (repeat (first | (with_reducible exact Below.refl _ _) | (with_reducible assumption) | (with_reducible refine Near.up _ ?_) | (with_reducible refine Below.drew ?_) | (with_reducible refine below_alloc_on ?_ _) | (with_reducible refine below_set_on ?_ (by first | (simp; done) | (simp; omega) | omega) _))), by (repeat (first | (with_reducible assumption) | (with_reducible exact box_new _ _ _) | ((with_reducible apply box_at); (first | (with_reducible rfl) | (simp <;> omega))) | (with_reducible apply Box.drew) | (with_reducible apply Box.drewN) | (with_reducible apply Box.near) | (with_reducible apply Box.alloc) | ((with_reducible apply box_far); (first | assumption | omega | (simp <;> omega))) | ((with_reducible apply Box.one_set); (with_reducible assumption)) | ((with_reducible apply Box.two_set); (with_reducible assumption)) | ((with_reducible apply Box.three_set); (with_reducible assumption)) | (with_reducible apply Box.set) | (simp only [List.size_toArray, List.length_cons, List.length_nil, Array.size_setIfInBounds] <;> omega))), by (repeat (first | (with_reducible assumption) | (with_reducible exact box_new _ _ _) | ((with_reducible apply box_at); (first | (with_reducible rfl) | (simp <;> omega))) | (with_reducible apply Box.drew) | (with_reducible apply Box.drewN) | (with_reducible apply Box.near) | (with_reducible apply Box.alloc) | ((with_reducible apply box_far); (first | assumption | omega | (simp <;> omega))) | ((with_reducible apply Box.one_set); (with_reducible assumption)) | ((with_reducible apply Box.two_set); (with_reducible assumption)) | ((with_reducible apply Box.three_set); (with_reducible assumption)) | (with_reducible apply Box.set) | (simp only [List.size_toArray, List.length_cons, List.length_nil, Array.size_setIfInBounds] <;> omega))), by (repeat (first | (with_reducible assumption) | (with_reducible exact box_new _ _ _) | ((with_reducible apply box_at); (first | (with_reducible rfl) | (simp <;> omega))) | (with_reducible apply Box.drew) | (with_reducible apply Box.drewN) | (with_reducible apply Box.near) | (with_reducible apply Box.alloc) | ((with_reducible apply box_far); (first | assumption | omega | (simp <;> omega))) | ((with_reducible apply Box.one_set); (with_reducible assumption)) | ((with_reducible apply Box.two_set); (with_reducible assumption)) | ((with_reducible apply Box.three_set); (with_reducible assumption)) | (with_reducible apply Box.set) | (simp only [List.size_toArray, List.length_cons, List.length_nil, Array.size_setIfInBounds] <;> omega))), by (repeat (first | (with_reducible assumption) | (with_reducible exact box_new _ _ _) | ((with_reducible apply box_at); (first | (with_reducible rfl) | (simp <;> omega))) | (with_reducible apply Box.drew) | (with_reducible apply Box.drewN) | (with_reducible apply Box.near) | (with_reducible apply Box.alloc) | ((with_reducible apply box_far); (first | assumption | omega | (simp <;> omega))) | ((with_reducible apply Box.one_set); (with_reducible assumption)) | ((with_reducible apply Box.two_set); (with_reducible assumption)) | ((with_reducible apply Box.three_set); (with_reducible assumption)) | (with_reducible apply Box.set) | (simp only [List.size_toArray, List.length_cons, List.length_nil, Array.size_setIfInBounds] <;> omega)))⟩ ?_
  clear A X_r l_r c_r f_r X_p l_p c_p f_p X_ep l_ep c_ep f_ep
  rintro w4 ⟨A, X_r, X_p, X_ep, X_bt⟩
  obtain ⟨bt, h_bt⟩ : ∃ bt, w3.heap.size = bt := ⟨_, rfl⟩
  have o_bt : w.heap.size ≤ bt := by omega
  rw [h_bt] at X_bt n_r_bt n_bt_r n_p_bt n_bt_p n_ep_bt n_bt_ep
  simp only [h_bt]
  clear h_bt z_bt
  obtain ⟨l_r, c_r, f_r⟩ := id X_r
  obtain ⟨l_p, c_p, f_p⟩ := id X_p
  obtain ⟨l_ep, c_ep, f_ep⟩ := id X_ep
  obtain ⟨l_bt, c_bt, f_bt⟩ := id X_bt
  go_wp2_with (fail)
  refine (HC.out _).mono ?_
  rintro e w5 ⟨rfl, hb⟩
  replace A := below_call A hb
  clear l_r c_r f_r
  replace X_r := X_r.below hb
  clear l_p c_p f_p
  replace X_p := X_p.below hb
  clear l_ep c_ep f_ep
  replace X_ep := X_ep.below hb
  clear l_bt c_bt f_bt
  replace X_bt := X_bt.below hb
  clear hb
  obtain ⟨l_r, c_r, f_r⟩ := id X_r
  obtain ⟨l_p, c_p, f_p⟩ := id X_p
  obtain ⟨l_ep, c_ep, f_ep⟩ := id X_ep
  obtain ⟨l_bt, c_bt, f_bt⟩ := id X_bt
  go_wp2
  refine bodyPost_ret (v := .agg #[.int .i64 1, .int .i64 0, .int .i64 0, .int .i64 0, .int .i64 e5, .int .i64 e6, .int .i64 e7, .int .i64 e0, .int .i64 sl, .bool false]) (by simp [results, Try.results19, go_sem, c_r]) rfl ⟨rfl, by (repeat (first | (with_reducible exact Below.refl _ _) | (with_reducible assumption) | (with_reducible refine Near.up _ ?_) | (with_reducible refine Below.drew ?_) | (with_reducible refine below_alloc_on ?_ _) | (with_reducible refine below_set_on ?_ (by first | (simp; done) | (simp; omega) | omega) _)))⟩

set_option maxHeartbeats 4000000 in
theorem rbo_pause3 (a b c : ByteArray) (q : Bool) (i n : Int) (e0 e2 e3 e4 e5 e6 e7 sl : Int) (w : World)
    (HN : Hid (∀ w, Calls Try.prog 12 #[.agg #[.string a, .string b]] w fun e w' => e = .returned (.tuple #[.agg #[.int .i64 e0, .int .i64 3, .int .i64 e2, .int .i64 e3, .int .i64 e4, .int .i64 e5, .int .i64 e6, .int .i64 e7], .int .i64 sl, .bool true]) ∧ Below w.heap.size w w')) (HC : Hid (∀ w, Calls Try.prog 38 #[.agg #[.int .i64 e2, .int .i64 e3, .int .i64 e4]] w fun e w' => e = .returned (.int .i64 0) ∧ Below w.heap.size w w')) :
    Calls Try.prog 19 #[.agg #[.string a, .string b, .bool q, .int .i64 i, .string c, .int .i64 n]] w fun e w' => e = .returned (.agg #[.int .i64 4, .int .i64 e2, .int .i64 e3, .int .i64 e4, .int .i64 e5, .int .i64 e6, .int .i64 e7, .int .i64 e0, .int .i64 sl, .bool false]) ∧ Below w.heap.size w w' := by
  have A : Below w.heap.size w w := Below.refl _ _
  go_enter Try.func19, Try.ntmps19
  go_upto_region 1 with (fail)
  have z_p : w.heap.size ≤ w.heap.size := by (have h9 := A.size; omega)
  have z_r : w.heap.size ≤ w.heap.size + 1 := by (have h9 := A.size; omega)
  have n_p_r : ¬ w.heap.size = w.heap.size + 1 := by omega
  have n_r_p : ¬ w.heap.size + 1 = w.heap.size := by omega
  refine at_world (fun V => Below w.heap.size w V ∧ Box V (w.heap.size) #[.string a, .string b, .bool q, .int .i64 i, .string c, .int .i64 n] ∧ Box V (w.heap.size + 1) #[.int .i64 0, .int .i64 0, .int .i64 0, .int .i64 0, .int .i64 0, .int .i64 0, .int .i64 0, .int .i64 0, .int .i64 0, .bool false]) ⟨by (repeat (first | (with_reducible exact Below.refl _ _) | (with_reducible assumption) | (with_reducible refine Near.up _ ?_) | (with_reducible refine Below.drew ?_) | (with_reducible refine below_alloc_on ?_ _) | (with_reducible refine below_set_on ?_ (by first | (simp; done) | (simp; omega) | omega) _))), by (repeat (first | (with_reducible assumption) | (with_reducible exact box_new _ _ _) | ((with_reducible apply box_at); (first | (with_reducible rfl) | (simp <;> omega))) | (with_reducible apply Box.drew) | (with_reducible apply Box.drewN) | (with_reducible apply Box.near) | (with_reducible apply Box.alloc) | ((with_reducible apply box_far); (first | assumption | omega | (simp <;> omega))) | ((with_reducible apply Box.one_set); (with_reducible assumption)) | ((with_reducible apply Box.two_set); (with_reducible assumption)) | ((with_reducible apply Box.three_set); (with_reducible assumption)) | (with_reducible apply Box.set) | (simp only [List.size_toArray, List.length_cons, List.length_nil, Array.size_setIfInBounds] <;> omega))), by (repeat (first | (with_reducible assumption) | (with_reducible exact box_new _ _ _) | ((with_reducible apply box_at); (first | (with_reducible rfl) | (simp <;> omega))) | (with_reducible apply Box.drew) | (with_reducible apply Box.drewN) | (with_reducible apply Box.near) | (with_reducible apply Box.alloc) | ((with_reducible apply box_far); (first | assumption | omega | (simp <;> omega))) | ((with_reducible apply Box.one_set); (with_reducible assumption)) | ((with_reducible apply Box.two_set); (with_reducible assumption)) | ((with_reducible apply Box.three_set); (with_reducible assumption)) | (with_reducible apply Box.set) | (simp only [List.size_toArray, List.length_cons, List.length_nil, Array.size_setIfInBounds] <;> omega)))⟩ ?_
  clear A
  rintro w1 ⟨A, X_p, X_r⟩
  obtain ⟨p, h_p⟩ : ∃ p, w.heap.size = p := ⟨_, rfl⟩
  have o_p : w.heap.size ≤ p := by omega
  obtain ⟨r, h_r⟩ : ∃ r, w.heap.size + 1 = r := ⟨_, rfl⟩
  have o_r : w.heap.size ≤ r := by omega
  rw [h_r] at X_r n_p_r n_r_p
  simp only [h_r]
  clear h_r z_r
  rw [h_p] at X_p n_p_r n_r_p
  simp only [h_p]
  clear h_p z_p
  obtain ⟨l_r, c_r, f_r⟩ := id X_r
  obtain ⟨l_p, c_p, f_p⟩ := id X_p
  go_wp2_with (fail)
  refine (HN.out _).mono ?_
  rintro e w2 ⟨rfl, hb⟩
  replace A := below_call A hb
  clear l_r c_r f_r
  replace X_r := X_r.below hb
  clear l_p c_p f_p
  replace X_p := X_p.below hb
  clear hb
  obtain ⟨l_r, c_r, f_r⟩ := id X_r
  obtain ⟨l_p, c_p, f_p⟩ := id X_p
  go_upto_region 2 with (fail)
  have z_ep : w.heap.size ≤ w2.heap.size := by (have h9 := A.size; omega)
  have n_r_ep : ¬ r = w2.heap.size := by omega
  have n_ep_r : ¬ w2.heap.size = r := by omega
  have n_p_ep : ¬ p = w2.heap.size := by omega
  have n_ep_p : ¬ w2.heap.size = p := by omega
  refine at_world (fun V => Below w.heap.size w V ∧ Box V (r) #[.int .i64 0, .int .i64 0, .int .i64 0, .int .i64 0, .int .i64 0, .int .i64 0, .int .i64 0, .int .i64 0, .int .i64 0, .bool false] ∧ Box V (p) #[.string a, .string b, .bool q, .int .i64 i, .string c, .int .i64 n] ∧ Box V (w2.heap.size) #[.int .i64 e0, .int .i64 3, .int .i64 e2, .int .i64 e3, .int .i64 e4, .int .i64 e5, .int .i64 e6, .int .i64 e7]) ⟨by (repeat (first | (with_reducible exact Below.refl _ _) | (with_reducible assumption) | (with_reducible refine Near.up _ ?_) | (with_reducible refine Below.drew ?_) | (with_reducible refine below_alloc_on ?_ _) | (with_reducible refine below_set_on ?_ (by first | (simp; done) | (simp; omega) | omega) _))), by (repeat (first | (with_reducible assumption) | (with_reducible exact box_new _ _ _) | ((with_reducible apply box_at); (first | (with_reducible rfl) | (simp <;> omega))) | (with_reducible apply Box.drew) | (with_reducible apply Box.drewN) | (with_reducible apply Box.near) | (with_reducible apply Box.alloc) | ((with_reducible apply box_far); (first | assumption | omega | (simp <;> omega))) | ((with_reducible apply Box.one_set); (with_reducible assumption)) | ((with_reducible apply Box.two_set); (with_reducible assumption)) | ((with_reducible apply Box.three_set); (with_reducible assumption)) | (with_reducible apply Box.set) | (simp only [List.size_toArray, List.length_cons, List.length_nil, Array.size_setIfInBounds] <;> omega))), by (repeat (first | (with_reducible assumption) | (with_reducible exact box_new _ _ _) | ((with_reducible apply box_at); (first | (with_reducible rfl) | (simp <;> omega))) | (with_reducible apply Box.drew) | (with_reducible apply Box.drewN) | (with_reducible apply Box.near) | (with_reducible apply Box.alloc) | ((with_reducible apply box_far); (first | assumption | omega | (simp <;> omega))) | ((with_reducible apply Box.one_set); (with_reducible assumption)) | ((with_reducible apply Box.two_set); (with_reducible assumption)) | ((with_reducible apply Box.three_set); (with_reducible assumption)) | (with_reducible apply Box.set) | (simp only [List.size_toArray, List.length_cons, List.length_nil, Array.size_setIfInBounds] <;> omega))), by (repeat (first | (with_reducible assumption) | (with_reducible exact box_new _ _ _) | ((with_reducible apply box_at); (first | (with_reducible rfl) | (simp <;> omega))) | (with_reducible apply Box.drew) | (with_reducible apply Box.drewN) | (with_reducible apply Box.near) | (with_reducible apply Box.alloc) | ((with_reducible apply box_far); (first | assumption | omega | (simp <;> omega))) | ((with_reducible apply Box.one_set); (with_reducible assumption)) | ((with_reducible apply Box.two_set); (with_reducible assumption)) | ((with_reducible apply Box.three_set); (with_reducible assumption)) | (with_reducible apply Box.set) | (simp only [List.size_toArray, List.length_cons, List.length_nil, Array.size_setIfInBounds] <;> omega)))⟩ ?_
  clear A X_r l_r c_r f_r X_p l_p c_p f_p
  rintro w3 ⟨A, X_r, X_p, X_ep⟩
  obtain ⟨ep, h_ep⟩ : ∃ ep, w2.heap.size = ep := ⟨_, rfl⟩
  have o_ep : w.heap.size ≤ ep := by omega
  rw [h_ep] at X_ep n_r_ep n_ep_r n_p_ep n_ep_p
  simp only [h_ep]
  clear h_ep z_ep
  obtain ⟨l_r, c_r, f_r⟩ := id X_r
  obtain ⟨l_p, c_p, f_p⟩ := id X_p
  obtain ⟨l_ep, c_ep, f_ep⟩ := id X_ep
  go_upto_region 5 with (fail)
  have z_bt : w.heap.size ≤ w3.heap.size := by (have h9 := A.size; omega)
  have n_r_bt : ¬ r = w3.heap.size := by omega
  have n_bt_r : ¬ w3.heap.size = r := by omega
  have n_p_bt : ¬ p = w3.heap.size := by omega
  have n_bt_p : ¬ w3.heap.size = p := by omega
  have n_ep_bt : ¬ ep = w3.heap.size := by omega
  have n_bt_ep : ¬ w3.heap.size = ep := by omega
  refine at_world (fun V => Below w.heap.size w V ∧ Box V (r) #[.int .i64 0, .int .i64 0, .int .i64 0, .int .i64 0, .int .i64 0, .int .i64 0, .int .i64 0, .int .i64 0, .int .i64 0, .bool false] ∧ Box V (p) #[.string a, .string b, .bool q, .int .i64 i, .string c, .int .i64 n] ∧ Box V (ep) #[.int .i64 e0, .int .i64 3, .int .i64 e2, .int .i64 e3, .int .i64 e4, .int .i64 e5, .int .i64 e6, .int .i64 e7] ∧ Box V (w3.heap.size) #[.int .i64 1, .int .i64 0, .int .i64 0, .int .i64 0, .int .i64 e5, .int .i64 e6, .int .i64 e7, .int .i64 e0, .int .i64 sl, .bool false]) ⟨by (repeat (first | (with_reducible exact Below.refl _ _) | (with_reducible assumption) | (with_reducible refine Near.up _ ?_) | (with_reducible refine Below.drew ?_) | (with_reducible refine below_alloc_on ?_ _) | (with_reducible refine below_set_on ?_ (by first | (simp; done) | (simp; omega) | omega) _))), by (repeat (first | (with_reducible assumption) | (with_reducible exact box_new _ _ _) | ((with_reducible apply box_at); (first | (with_reducible rfl) | (simp <;> omega))) | (with_reducible apply Box.drew) | (with_reducible apply Box.drewN) | (with_reducible apply Box.near) | (with_reducible apply Box.alloc) | ((with_reducible apply box_far); (first | assumption | omega | (simp <;> omega))) | ((with_reducible apply Box.one_set); (with_reducible assumption)) | ((with_reducible apply Box.two_set); (with_reducible assumption)) | ((with_reducible apply Box.three_set); (with_reducible assumption)) | (with_reducible apply Box.set) | (simp only [List.size_toArray, List.length_cons, List.length_nil, Array.size_setIfInBounds] <;> omega))), by (repeat (first | (with_reducible assumption) | (with_reducible exact box_new _ _ _) | ((with_reducible apply box_at); (first | (with_reducible rfl) | (simp <;> omega))) | (with_reducible apply Box.drew) | (with_reducible apply Box.drewN) | (with_reducible apply Box.near) | (with_reducible apply Box.alloc) | ((with_reducible apply box_far); (first | assumption | omega | (simp <;> omega))) | ((with_reducible apply Box.one_set); (with_reducible assumption)) | ((with_reducible apply Box.two_set); (with_reducible assumption)) | ((with_reducible apply Box.three_set); (with_reducible assumption)) | (with_reducible apply Box.set) | (simp only [List.size_toArray, List.length_cons, List.length_nil, Array.size_setIfInBounds] <;> omega))), by (repeat (first | (with_reducible assumption) | (with_reducible exact box_new _ _ _) | ((with_reducible apply box_at); (first | (with_reducible rfl) | (simp <;> omega))) | (with_reducible apply Box.drew) | (with_reducible apply Box.drewN) | (with_reducible apply Box.near) | (with_reducible apply Box.alloc) | ((with_reducible apply box_far); (first | assumption | omega | (simp <;> omega))) | ((with_reducible apply Box.one_set); (with_reducible assumption)) | ((with_reducible apply Box.two_set); (with_reducible assumption)) | ((with_reducible apply Box.three_set); (with_reducible assumption)) | (with_reducible apply Box.set) | (simp only [List.size_toArray, List.length_cons, List.length_nil, Array.size_setIfInBounds] <;> omega))), by (repeat (first | (with_reducible assumption) | (with_reducible exact box_new _ _ _) | ((with_reducible apply box_at); (first | (with_reducible rfl) | (simp <;> omega))) | (with_reducible apply Box.drew) | (with_reducible apply Box.drewN) | (with_reducible apply Box.near) | (with_reducible apply Box.alloc) | ((with_reducible apply box_far); (first | assumption | omega | (simp <;> omega))) | ((with_reducible apply Box.one_set); (with_reducible assumption)) | ((with_reducible apply Box.two_set); (with_reducible assumption)) | ((with_reducible apply Box.three_set); (with_reducible assumption)) | (with_reducible apply Box.set) | (simp only [List.size_toArray, List.length_cons, List.length_nil, Array.size_setIfInBounds] <;> omega)))⟩ ?_
  clear A X_r l_r c_r f_r X_p l_p c_p f_p X_ep l_ep c_ep f_ep
  rintro w4 ⟨A, X_r, X_p, X_ep, X_bt⟩
  obtain ⟨bt, h_bt⟩ : ∃ bt, w3.heap.size = bt := ⟨_, rfl⟩
  have o_bt : w.heap.size ≤ bt := by omega
  rw [h_bt] at X_bt n_r_bt n_bt_r n_p_bt n_bt_p n_ep_bt n_bt_ep
  simp only [h_bt]
  clear h_bt z_bt
  obtain ⟨l_r, c_r, f_r⟩ := id X_r
  obtain ⟨l_p, c_p, f_p⟩ := id X_p
  obtain ⟨l_ep, c_ep, f_ep⟩ := id X_ep
  obtain ⟨l_bt, c_bt, f_bt⟩ := id X_bt
  go_wp2_with (fail)
  refine (HC.out _).mono ?_
  rintro e w5 ⟨rfl, hb⟩
  replace A := below_call A hb
  clear l_r c_r f_r
  replace X_r := X_r.below hb
  clear l_p c_p f_p
  replace X_p := X_p.below hb
  clear l_ep c_ep f_ep
  replace X_ep := X_ep.below hb
  clear l_bt c_bt f_bt
  replace X_bt := X_bt.below hb
  clear hb
  obtain ⟨l_r, c_r, f_r⟩ := id X_r
  obtain ⟨l_p, c_p, f_p⟩ := id X_p
  obtain ⟨l_ep, c_ep, f_ep⟩ := id X_ep
  obtain ⟨l_bt, c_bt, f_bt⟩ := id X_bt
  go_wp2
  refine bodyPost_ret (v := .agg #[.int .i64 4, .int .i64 e2, .int .i64 e3, .int .i64 e4, .int .i64 e5, .int .i64 e6, .int .i64 e7, .int .i64 e0, .int .i64 sl, .bool false]) (by simp [results, Try.results19, go_sem, c_r]) rfl ⟨rfl, by (repeat (first | (with_reducible exact Below.refl _ _) | (with_reducible assumption) | (with_reducible refine Near.up _ ?_) | (with_reducible refine Below.drew ?_) | (with_reducible refine below_alloc_on ?_ _) | (with_reducible refine below_set_on ?_ (by first | (simp; done) | (simp; omega) | omega) _)))⟩

set_option maxHeartbeats 4000000 in
theorem rbo_idle4 (a b c : ByteArray) (q : Bool) (i n : Int) (e0 e2 e3 e4 e5 e6 e7 sl : Int) (w : World)
    (HN : Hid (∀ w, Calls Try.prog 12 #[.agg #[.string a, .string b]] w fun e w' => e = .returned (.tuple #[.agg #[.int .i64 e0, .int .i64 4, .int .i64 e2, .int .i64 e3, .int .i64 e4, .int .i64 e5, .int .i64 e6, .int .i64 e7], .int .i64 sl, .bool true]) ∧ Below w.heap.size w w')) (ck : Int) (hck : (ck == 0) = false) (HC : Hid (∀ w, Calls Try.prog 38 #[.agg #[.int .i64 e2, .int .i64 e3, .int .i64 e4]] w fun e w' => e = .returned (.int .i64 ck) ∧ Below w.heap.size w w')) :
    Calls Try.prog 19 #[.agg #[.string a, .string b, .bool q, .int .i64 i, .string c, .int .i64 n]] w fun e w' => e = .returned (.agg #[.int .i64 1, .int .i64 0, .int .i64 0, .int .i64 0, .int .i64 e5, .int .i64 e6, .int .i64 e7, .int .i64 e0, .int .i64 sl, .bool false]) ∧ Below w.heap.size w w' := by
  have A : Below w.heap.size w w := Below.refl _ _
  go_enter Try.func19, Try.ntmps19
  go_upto_region 1 with (fail)
  have z_p : w.heap.size ≤ w.heap.size := by (have h9 := A.size; omega)
  have z_r : w.heap.size ≤ w.heap.size + 1 := by (have h9 := A.size; omega)
  have n_p_r : ¬ w.heap.size = w.heap.size + 1 := by omega
  have n_r_p : ¬ w.heap.size + 1 = w.heap.size := by omega
  refine at_world (fun V => Below w.heap.size w V ∧ Box V (w.heap.size) #[.string a, .string b, .bool q, .int .i64 i, .string c, .int .i64 n] ∧ Box V (w.heap.size + 1) #[.int .i64 0, .int .i64 0, .int .i64 0, .int .i64 0, .int .i64 0, .int .i64 0, .int .i64 0, .int .i64 0, .int .i64 0, .bool false]) ⟨by (repeat (first | (with_reducible exact Below.refl _ _) | (with_reducible assumption) | (with_reducible refine Near.up _ ?_) | (with_reducible refine Below.drew ?_) | (with_reducible refine below_alloc_on ?_ _) | (with_reducible refine below_set_on ?_ (by first | (simp; done) | (simp; omega) | omega) _))), by (repeat (first | (with_reducible assumption) | (with_reducible exact box_new _ _ _) | ((with_reducible apply box_at); (first | (with_reducible rfl) | (simp <;> omega))) | (with_reducible apply Box.drew) | (with_reducible apply Box.drewN) | (with_reducible apply Box.near) | (with_reducible apply Box.alloc) | ((with_reducible apply box_far); (first | assumption | omega | (simp <;> omega))) | ((with_reducible apply Box.one_set); (with_reducible assumption)) | ((with_reducible apply Box.two_set); (with_reducible assumption)) | ((with_reducible apply Box.three_set); (with_reducible assumption)) | (with_reducible apply Box.set) | (simp only [List.size_toArray, List.length_cons, List.length_nil, Array.size_setIfInBounds] <;> omega))), by (repeat (first | (with_reducible assumption) | (with_reducible exact box_new _ _ _) | ((with_reducible apply box_at); (first | (with_reducible rfl) | (simp <;> omega))) | (with_reducible apply Box.drew) | (with_reducible apply Box.drewN) | (with_reducible apply Box.near) | (with_reducible apply Box.alloc) | ((with_reducible apply box_far); (first | assumption | omega | (simp <;> omega))) | ((with_reducible apply Box.one_set); (with_reducible assumption)) | ((with_reducible apply Box.two_set); (with_reducible assumption)) | ((with_reducible apply Box.three_set); (with_reducible assumption)) | (with_reducible apply Box.set) | (simp only [List.size_toArray, List.length_cons, List.length_nil, Array.size_setIfInBounds] <;> omega)))⟩ ?_
  clear A
  rintro w1 ⟨A, X_p, X_r⟩
  obtain ⟨p, h_p⟩ : ∃ p, w.heap.size = p := ⟨_, rfl⟩
  have o_p : w.heap.size ≤ p := by omega
  obtain ⟨r, h_r⟩ : ∃ r, w.heap.size + 1 = r := ⟨_, rfl⟩
  have o_r : w.heap.size ≤ r := by omega
  rw [h_r] at X_r n_p_r n_r_p
  simp only [h_r]
  clear h_r z_r
  rw [h_p] at X_p n_p_r n_r_p
  simp only [h_p]
  clear h_p z_p
  obtain ⟨l_r, c_r, f_r⟩ := id X_r
  obtain ⟨l_p, c_p, f_p⟩ := id X_p
  go_wp2_with (fail)
  refine (HN.out _).mono ?_
  rintro e w2 ⟨rfl, hb⟩
  replace A := below_call A hb
  clear l_r c_r f_r
  replace X_r := X_r.below hb
  clear l_p c_p f_p
  replace X_p := X_p.below hb
  clear hb
  obtain ⟨l_r, c_r, f_r⟩ := id X_r
  obtain ⟨l_p, c_p, f_p⟩ := id X_p
  go_upto_region 2 with (fail)
  have z_ep : w.heap.size ≤ w2.heap.size := by (have h9 := A.size; omega)
  have n_r_ep : ¬ r = w2.heap.size := by omega
  have n_ep_r : ¬ w2.heap.size = r := by omega
  have n_p_ep : ¬ p = w2.heap.size := by omega
  have n_ep_p : ¬ w2.heap.size = p := by omega
  refine at_world (fun V => Below w.heap.size w V ∧ Box V (r) #[.int .i64 0, .int .i64 0, .int .i64 0, .int .i64 0, .int .i64 0, .int .i64 0, .int .i64 0, .int .i64 0, .int .i64 0, .bool false] ∧ Box V (p) #[.string a, .string b, .bool q, .int .i64 i, .string c, .int .i64 n] ∧ Box V (w2.heap.size) #[.int .i64 e0, .int .i64 4, .int .i64 e2, .int .i64 e3, .int .i64 e4, .int .i64 e5, .int .i64 e6, .int .i64 e7]) ⟨by (repeat (first | (with_reducible exact Below.refl _ _) | (with_reducible assumption) | (with_reducible refine Near.up _ ?_) | (with_reducible refine Below.drew ?_) | (with_reducible refine below_alloc_on ?_ _) | (with_reducible refine below_set_on ?_ (by first | (simp; done) | (simp; omega) | omega) _))), by (repeat (first | (with_reducible assumption) | (with_reducible exact box_new _ _ _) | ((with_reducible apply box_at); (first | (with_reducible rfl) | (simp <;> omega))) | (with_reducible apply Box.drew) | (with_reducible apply Box.drewN) | (with_reducible apply Box.near) | (with_reducible apply Box.alloc) | ((with_reducible apply box_far); (first | assumption | omega | (simp <;> omega))) | ((with_reducible apply Box.one_set); (with_reducible assumption)) | ((with_reducible apply Box.two_set); (with_reducible assumption)) | ((with_reducible apply Box.three_set); (with_reducible assumption)) | (with_reducible apply Box.set) | (simp only [List.size_toArray, List.length_cons, List.length_nil, Array.size_setIfInBounds] <;> omega))), by (repeat (first | (with_reducible assumption) | (with_reducible exact box_new _ _ _) | ((with_reducible apply box_at); (first | (with_reducible rfl) | (simp <;> omega))) | (with_reducible apply Box.drew) | (with_reducible apply Box.drewN) | (with_reducible apply Box.near) | (with_reducible apply Box.alloc) | ((with_reducible apply box_far); (first | assumption | omega | (simp <;> omega))) | ((with_reducible apply Box.one_set); (with_reducible assumption)) | ((with_reducible apply Box.two_set); (with_reducible assumption)) | ((with_reducible apply Box.three_set); (with_reducible assumption)) | (with_reducible apply Box.set) | (simp only [List.size_toArray, List.length_cons, List.length_nil, Array.size_setIfInBounds] <;> omega))), by (repeat (first | (with_reducible assumption) | (with_reducible exact box_new _ _ _) | ((with_reducible apply box_at); (first | (with_reducible rfl) | (simp <;> omega))) | (with_reducible apply Box.drew) | (with_reducible apply Box.drewN) | (with_reducible apply Box.near) | (with_reducible apply Box.alloc) | ((with_reducible apply box_far); (first | assumption | omega | (simp <;> omega))) | ((with_reducible apply Box.one_set); (with_reducible assumption)) | ((with_reducible apply Box.two_set); (with_reducible assumption)) | ((with_reducible apply Box.three_set); (with_reducible assumption)) | (with_reducible apply Box.set) | (simp only [List.size_toArray, List.length_cons, List.length_nil, Array.size_setIfInBounds] <;> omega)))⟩ ?_
  clear A X_r l_r c_r f_r X_p l_p c_p f_p
  rintro w3 ⟨A, X_r, X_p, X_ep⟩
  obtain ⟨ep, h_ep⟩ : ∃ ep, w2.heap.size = ep := ⟨_, rfl⟩
  have o_ep : w.heap.size ≤ ep := by omega
  rw [h_ep] at X_ep n_r_ep n_ep_r n_p_ep n_ep_p
  simp only [h_ep]
  clear h_ep z_ep
  obtain ⟨l_r, c_r, f_r⟩ := id X_r
  obtain ⟨l_p, c_p, f_p⟩ := id X_p
  obtain ⟨l_ep, c_ep, f_ep⟩ := id X_ep
  go_upto_region 5 with (fail)
  have z_bt : w.heap.size ≤ w3.heap.size := by (have h9 := A.size; omega)
  have n_r_bt : ¬ r = w3.heap.size := by omega
  have n_bt_r : ¬ w3.heap.size = r := by omega
  have n_p_bt : ¬ p = w3.heap.size := by omega
  have n_bt_p : ¬ w3.heap.size = p := by omega
  have n_ep_bt : ¬ ep = w3.heap.size := by omega
  have n_bt_ep : ¬ w3.heap.size = ep := by omega
  refine at_world (fun V => Below w.heap.size w V ∧ Box V (r) #[.int .i64 0, .int .i64 0, .int .i64 0, .int .i64 0, .int .i64 0, .int .i64 0, .int .i64 0, .int .i64 0, .int .i64 0, .bool false] ∧ Box V (p) #[.string a, .string b, .bool q, .int .i64 i, .string c, .int .i64 n] ∧ Box V (ep) #[.int .i64 e0, .int .i64 4, .int .i64 e2, .int .i64 e3, .int .i64 e4, .int .i64 e5, .int .i64 e6, .int .i64 e7] ∧ Box V (w3.heap.size) #[.int .i64 1, .int .i64 0, .int .i64 0, .int .i64 0, .int .i64 e5, .int .i64 e6, .int .i64 e7, .int .i64 e0, .int .i64 sl, .bool false]) ⟨by (repeat (first | (with_reducible exact Below.refl _ _) | (with_reducible assumption) | (with_reducible refine Near.up _ ?_) | (with_reducible refine Below.drew ?_) | (with_reducible refine below_alloc_on ?_ _) | (with_reducible refine below_set_on ?_ (by first | (simp; done) | (simp; omega) | omega) _))), by (repeat (first | (with_reducible assumption) | (with_reducible exact box_new _ _ _) | ((with_reducible apply box_at); (first | (with_reducible rfl) | (simp <;> omega))) | (with_reducible apply Box.drew) | (with_reducible apply Box.drewN) | (with_reducible apply Box.near) | (with_reducible apply Box.alloc) | ((with_reducible apply box_far); (first | assumption | omega | (simp <;> omega))) | ((with_reducible apply Box.one_set); (with_reducible assumption)) | ((with_reducible apply Box.two_set); (with_reducible assumption)) | ((with_reducible apply Box.three_set); (with_reducible assumption)) | (with_reducible apply Box.set) | (simp only [List.size_toArray, List.length_cons, List.length_nil, Array.size_setIfInBounds] <;> omega))), by (repeat (first | (with_reducible assumption) | (with_reducible exact box_new _ _ _) | ((with_reducible apply box_at); (first | (with_reducible rfl) | (simp <;> omega))) | (with_reducible apply Box.drew) | (with_reducible apply Box.drewN) | (with_reducible apply Box.near) | (with_reducible apply Box.alloc) | ((with_reducible apply box_far); (first | assumption | omega | (simp <;> omega))) | ((with_reducible apply Box.one_set); (with_reducible assumption)) | ((with_reducible apply Box.two_set); (with_reducible assumption)) | ((with_reducible apply Box.three_set); (with_reducible assumption)) | (with_reducible apply Box.set) | (simp only [List.size_toArray, List.length_cons, List.length_nil, Array.size_setIfInBounds] <;> omega))), by (repeat (first | (with_reducible assumption) | (with_reducible exact box_new _ _ _) | ((with_reducible apply box_at); (first | (with_reducible rfl) | (simp <;> omega))) | (with_reducible apply Box.drew) | (with_reducible apply Box.drewN) | (with_reducible apply Box.near) | (with_reducible apply Box.alloc) | ((with_reducible apply box_far); (first | assumption | omega | (simp <;> omega))) | ((with_reducible apply Box.one_set); (with_reducible assumption)) | ((with_reducible apply Box.two_set); (with_reducible assumption)) | ((with_reducible apply Box.three_set); (with_reducible assumption)) | (with_reducible apply Box.set) | (simp only [List.size_toArray, List.length_cons, List.length_nil, Array.size_setIfInBounds] <;> omega))), by (repeat (first | (with_reducible assumption) | (with_reducible exact box_new _ _ _) | ((with_reducible apply box_at); (first | (with_reducible rfl) | (simp <;> omega))) | (with_reducible apply Box.drew) | (with_reducible apply Box.drewN) | (with_reducible apply Box.near) | (with_reducible apply Box.alloc) | ((with_reducible apply box_far); (first | assumption | omega | (simp <;> omega))) | ((with_reducible apply Box.one_set); (with_reducible assumption)) | ((with_reducible apply Box.two_set); (with_reducible assumption)) | ((with_reducible apply Box.three_set); (with_reducible assumption)) | (with_reducible apply Box.set) | (simp only [List.size_toArray, List.length_cons, List.length_nil, Array.size_setIfInBounds] <;> omega)))⟩ ?_
  clear A X_r l_r c_r f_r X_p l_p c_p f_p X_ep l_ep c_ep f_ep
  rintro w4 ⟨A, X_r, X_p, X_ep, X_bt⟩
  obtain ⟨bt, h_bt⟩ : ∃ bt, w3.heap.size = bt := ⟨_, rfl⟩
  have o_bt : w.heap.size ≤ bt := by omega
  rw [h_bt] at X_bt n_r_bt n_bt_r n_p_bt n_bt_p n_ep_bt n_bt_ep
  simp only [h_bt]
  clear h_bt z_bt
  obtain ⟨l_r, c_r, f_r⟩ := id X_r
  obtain ⟨l_p, c_p, f_p⟩ := id X_p
  obtain ⟨l_ep, c_ep, f_ep⟩ := id X_ep
  obtain ⟨l_bt, c_bt, f_bt⟩ := id X_bt
  go_wp2_with (fail)
  refine (HC.out _).mono ?_
  rintro e w5 ⟨rfl, hb⟩
  replace A := below_call A hb
  clear l_r c_r f_r
  replace X_r := X_r.below hb
  clear l_p c_p f_p
  replace X_p := X_p.below hb
  clear l_ep c_ep f_ep
  replace X_ep := X_ep.below hb
  clear l_bt c_bt f_bt
  replace X_bt := X_bt.below hb
  clear hb
  obtain ⟨l_r, c_r, f_r⟩ := id X_r
  obtain ⟨l_p, c_p, f_p⟩ := id X_p
  obtain ⟨l_ep, c_ep, f_ep⟩ := id X_ep
  obtain ⟨l_bt, c_bt, f_bt⟩ := id X_bt
  go_wp2
  refine bodyPost_ret (v := .agg #[.int .i64 1, .int .i64 0, .int .i64 0, .int .i64 0, .int .i64 e5, .int .i64 e6, .int .i64 e7, .int .i64 e0, .int .i64 sl, .bool false]) (by simp [results, Try.results19, go_sem, c_r]) rfl ⟨rfl, by (repeat (first | (with_reducible exact Below.refl _ _) | (with_reducible assumption) | (with_reducible refine Near.up _ ?_) | (with_reducible refine Below.drew ?_) | (with_reducible refine below_alloc_on ?_ _) | (with_reducible refine below_set_on ?_ (by first | (simp; done) | (simp; omega) | omega) _)))⟩

set_option maxHeartbeats 4000000 in
theorem rbo_pause4 (a b c : ByteArray) (q : Bool) (i n : Int) (e0 e2 e3 e4 e5 e6 e7 sl : Int) (w : World)
    (HN : Hid (∀ w, Calls Try.prog 12 #[.agg #[.string a, .string b]] w fun e w' => e = .returned (.tuple #[.agg #[.int .i64 e0, .int .i64 4, .int .i64 e2, .int .i64 e3, .int .i64 e4, .int .i64 e5, .int .i64 e6, .int .i64 e7], .int .i64 sl, .bool true]) ∧ Below w.heap.size w w')) (HC : Hid (∀ w, Calls Try.prog 38 #[.agg #[.int .i64 e2, .int .i64 e3, .int .i64 e4]] w fun e w' => e = .returned (.int .i64 0) ∧ Below w.heap.size w w')) :
    Calls Try.prog 19 #[.agg #[.string a, .string b, .bool q, .int .i64 i, .string c, .int .i64 n]] w fun e w' => e = .returned (.agg #[.int .i64 4, .int .i64 e2, .int .i64 e3, .int .i64 e4, .int .i64 e5, .int .i64 e6, .int .i64 e7, .int .i64 e0, .int .i64 sl, .bool false]) ∧ Below w.heap.size w w' := by
  have A : Below w.heap.size w w := Below.refl _ _
  go_enter Try.func19, Try.ntmps19
  go_upto_region 1 with (fail)
  have z_p : w.heap.size ≤ w.heap.size := by (have h9 := A.size; omega)
  have z_r : w.heap.size ≤ w.heap.size + 1 := by (have h9 := A.size; omega)
  have n_p_r : ¬ w.heap.size = w.heap.size + 1 := by omega
  have n_r_p : ¬ w.heap.size + 1 = w.heap.size := by omega
  refine at_world (fun V => Below w.heap.size w V ∧ Box V (w.heap.size) #[.string a, .string b, .bool q, .int .i64 i, .string c, .int .i64 n] ∧ Box V (w.heap.size + 1) #[.int .i64 0, .int .i64 0, .int .i64 0, .int .i64 0, .int .i64 0, .int .i64 0, .int .i64 0, .int .i64 0, .int .i64 0, .bool false]) ⟨by (repeat (first | (with_reducible exact Below.refl _ _) | (with_reducible assumption) | (with_reducible refine Near.up _ ?_) | (with_reducible refine Below.drew ?_) | (with_reducible refine below_alloc_on ?_ _) | (with_reducible refine below_set_on ?_ (by first | (simp; done) | (simp; omega) | omega) _))), by (repeat (first | (with_reducible assumption) | (with_reducible exact box_new _ _ _) | ((with_reducible apply box_at); (first | (with_reducible rfl) | (simp <;> omega))) | (with_reducible apply Box.drew) | (with_reducible apply Box.drewN) | (with_reducible apply Box.near) | (with_reducible apply Box.alloc) | ((with_reducible apply box_far); (first | assumption | omega | (simp <;> omega))) | ((with_reducible apply Box.one_set); (with_reducible assumption)) | ((with_reducible apply Box.two_set); (with_reducible assumption)) | ((with_reducible apply Box.three_set); (with_reducible assumption)) | (with_reducible apply Box.set) | (simp only [List.size_toArray, List.length_cons, List.length_nil, Array.size_setIfInBounds] <;> omega))), by (repeat (first | (with_reducible assumption) | (with_reducible exact box_new _ _ _) | ((with_reducible apply box_at); (first | (with_reducible rfl) | (simp <;> omega))) | (with_reducible apply Box.drew) | (with_reducible apply Box.drewN) | (with_reducible apply Box.near) | (with_reducible apply Box.alloc) | ((with_reducible apply box_far); (first | assumption | omega | (simp <;> omega))) | ((with_reducible apply Box.one_set); (with_reducible assumption)) | ((with_reducible apply Box.two_set); (with_reducible assumption)) | ((with_reducible apply Box.three_set); (with_reducible assumption)) | (with_reducible apply Box.set) | (simp only [List.size_toArray, List.length_cons, List.length_nil, Array.size_setIfInBounds] <;> omega)))⟩ ?_
  clear A
  rintro w1 ⟨A, X_p, X_r⟩
  obtain ⟨p, h_p⟩ : ∃ p, w.heap.size = p := ⟨_, rfl⟩
  have o_p : w.heap.size ≤ p := by omega
  obtain ⟨r, h_r⟩ : ∃ r, w.heap.size + 1 = r := ⟨_, rfl⟩
  have o_r : w.heap.size ≤ r := by omega
  rw [h_r] at X_r n_p_r n_r_p
  simp only [h_r]
  clear h_r z_r
  rw [h_p] at X_p n_p_r n_r_p
  simp only [h_p]
  clear h_p z_p
  obtain ⟨l_r, c_r, f_r⟩ := id X_r
  obtain ⟨l_p, c_p, f_p⟩ := id X_p
  go_wp2_with (fail)
  refine (HN.out _).mono ?_
  rintro e w2 ⟨rfl, hb⟩
  replace A := below_call A hb
  clear l_r c_r f_r
  replace X_r := X_r.below hb
  clear l_p c_p f_p
  replace X_p := X_p.below hb
  clear hb
  obtain ⟨l_r, c_r, f_r⟩ := id X_r
  obtain ⟨l_p, c_p, f_p⟩ := id X_p
  go_upto_region 2 with (fail)
  have z_ep : w.heap.size ≤ w2.heap.size := by (have h9 := A.size; omega)
  have n_r_ep : ¬ r = w2.heap.size := by omega
  have n_ep_r : ¬ w2.heap.size = r := by omega
  have n_p_ep : ¬ p = w2.heap.size := by omega
  have n_ep_p : ¬ w2.heap.size = p := by omega
  refine at_world (fun V => Below w.heap.size w V ∧ Box V (r) #[.int .i64 0, .int .i64 0, .int .i64 0, .int .i64 0, .int .i64 0, .int .i64 0, .int .i64 0, .int .i64 0, .int .i64 0, .bool false] ∧ Box V (p) #[.string a, .string b, .bool q, .int .i64 i, .string c, .int .i64 n] ∧ Box V (w2.heap.size) #[.int .i64 e0, .int .i64 4, .int .i64 e2, .int .i64 e3, .int .i64 e4, .int .i64 e5, .int .i64 e6, .int .i64 e7]) ⟨by (repeat (first | (with_reducible exact Below.refl _ _) | (with_reducible assumption) | (with_reducible refine Near.up _ ?_) | (with_reducible refine Below.drew ?_) | (with_reducible refine below_alloc_on ?_ _) | (with_reducible refine below_set_on ?_ (by first | (simp; done) | (simp; omega) | omega) _))), by (repeat (first | (with_reducible assumption) | (with_reducible exact box_new _ _ _) | ((with_reducible apply box_at); (first | (with_reducible rfl) | (simp <;> omega))) | (with_reducible apply Box.drew) | (with_reducible apply Box.drewN) | (with_reducible apply Box.near) | (with_reducible apply Box.alloc) | ((with_reducible apply box_far); (first | assumption | omega | (simp <;> omega))) | ((with_reducible apply Box.one_set); (with_reducible assumption)) | ((with_reducible apply Box.two_set); (with_reducible assumption)) | ((with_reducible apply Box.three_set); (with_reducible assumption)) | (with_reducible apply Box.set) | (simp only [List.size_toArray, List.length_cons, List.length_nil, Array.size_setIfInBounds] <;> omega))), by (repeat (first | (with_reducible assumption) | (with_reducible exact box_new _ _ _) | ((with_reducible apply box_at); (first | (with_reducible rfl) | (simp <;> omega))) | (with_reducible apply Box.drew) | (with_reducible apply Box.drewN) | (with_reducible apply Box.near) | (with_reducible apply Box.alloc) | ((with_reducible apply box_far); (first | assumption | omega | (simp <;> omega))) | ((with_reducible apply Box.one_set); (with_reducible assumption)) | ((with_reducible apply Box.two_set); (with_reducible assumption)) | ((with_reducible apply Box.three_set); (with_reducible assumption)) | (with_reducible apply Box.set) | (simp only [List.size_toArray, List.length_cons, List.length_nil, Array.size_setIfInBounds] <;> omega))), by (repeat (first | (with_reducible assumption) | (with_reducible exact box_new _ _ _) | ((with_reducible apply box_at); (first | (with_reducible rfl) | (simp <;> omega))) | (with_reducible apply Box.drew) | (with_reducible apply Box.drewN) | (with_reducible apply Box.near) | (with_reducible apply Box.alloc) | ((with_reducible apply box_far); (first | assumption | omega | (simp <;> omega))) | ((with_reducible apply Box.one_set); (with_reducible assumption)) | ((with_reducible apply Box.two_set); (with_reducible assumption)) | ((with_reducible apply Box.three_set); (with_reducible assumption)) | (with_reducible apply Box.set) | (simp only [List.size_toArray, List.length_cons, List.length_nil, Array.size_setIfInBounds] <;> omega)))⟩ ?_
  clear A X_r l_r c_r f_r X_p l_p c_p f_p
  rintro w3 ⟨A, X_r, X_p, X_ep⟩
  obtain ⟨ep, h_ep⟩ : ∃ ep, w2.heap.size = ep := ⟨_, rfl⟩
  have o_ep : w.heap.size ≤ ep := by omega
  rw [h_ep] at X_ep n_r_ep n_ep_r n_p_ep n_ep_p
  simp only [h_ep]
  clear h_ep z_ep
  obtain ⟨l_r, c_r, f_r⟩ := id X_r
  obtain ⟨l_p, c_p, f_p⟩ := id X_p
  obtain ⟨l_ep, c_ep, f_ep⟩ := id X_ep
  go_upto_region 5 with (fail)
  have z_bt : w.heap.size ≤ w3.heap.size := by (have h9 := A.size; omega)
  have n_r_bt : ¬ r = w3.heap.size := by omega
  have n_bt_r : ¬ w3.heap.size = r := by omega
  have n_p_bt : ¬ p = w3.heap.size := by omega
  have n_bt_p : ¬ w3.heap.size = p := by omega
  have n_ep_bt : ¬ ep = w3.heap.size := by omega
  have n_bt_ep : ¬ w3.heap.size = ep := by omega
  refine at_world (fun V => Below w.heap.size w V ∧ Box V (r) #[.int .i64 0, .int .i64 0, .int .i64 0, .int .i64 0, .int .i64 0, .int .i64 0, .int .i64 0, .int .i64 0, .int .i64 0, .bool false] ∧ Box V (p) #[.string a, .string b, .bool q, .int .i64 i, .string c, .int .i64 n] ∧ Box V (ep) #[.int .i64 e0, .int .i64 4, .int .i64 e2, .int .i64 e3, .int .i64 e4, .int .i64 e5, .int .i64 e6, .int .i64 e7] ∧ Box V (w3.heap.size) #[.int .i64 1, .int .i64 0, .int .i64 0, .int .i64 0, .int .i64 e5, .int .i64 e6, .int .i64 e7, .int .i64 e0, .int .i64 sl, .bool false]) ⟨by (repeat (first | (with_reducible exact Below.refl _ _) | (with_reducible assumption) | (with_reducible refine Near.up _ ?_) | (with_reducible refine Below.drew ?_) | (with_reducible refine below_alloc_on ?_ _) | (with_reducible refine below_set_on ?_ (by first | (simp; done) | (simp; omega) | omega) _))), by (repeat (first | (with_reducible assumption) | (with_reducible exact box_new _ _ _) | ((with_reducible apply box_at); (first | (with_reducible rfl) | (simp <;> omega))) | (with_reducible apply Box.drew) | (with_reducible apply Box.drewN) | (with_reducible apply Box.near) | (with_reducible apply Box.alloc) | ((with_reducible apply box_far); (first | assumption | omega | (simp <;> omega))) | ((with_reducible apply Box.one_set); (with_reducible assumption)) | ((with_reducible apply Box.two_set); (with_reducible assumption)) | ((with_reducible apply Box.three_set); (with_reducible assumption)) | (with_reducible apply Box.set) | (simp only [List.size_toArray, List.length_cons, List.length_nil, Array.size_setIfInBounds] <;> omega))), by (repeat (first | (with_reducible assumption) | (with_reducible exact box_new _ _ _) | ((with_reducible apply box_at); (first | (with_reducible rfl) | (simp <;> omega))) | (with_reducible apply Box.drew) | (with_reducible apply Box.drewN) | (with_reducible apply Box.near) | (with_reducible apply Box.alloc) | ((with_reducible apply box_far); (first | assumption | omega | (simp <;> omega))) | ((with_reducible apply Box.one_set); (with_reducible assumption)) | ((with_reducible apply Box.two_set); (with_reducible assumption)) | ((with_reducible apply Box.three_set); (with_reducible assumption)) | (with_reducible apply Box.set) | (simp only [List.size_toArray, List.length_cons, List.length_nil, Array.size_setIfInBounds] <;> omega))), by (repeat (first | (with_reducible assumption) | (with_reducible exact box_new _ _ _) | ((with_reducible apply box_at); (first | (with_reducible rfl) | (simp <;> omega))) | (with_reducible apply Box.drew) | (with_reducible apply Box.drewN) | (with_reducible apply Box.near) | (with_reducible apply Box.alloc) | ((with_reducible apply box_far); (first | assumption | omega | (simp <;> omega))) | ((with_reducible apply Box.one_set); (with_reducible assumption)) | ((with_reducible apply Box.two_set); (with_reducible assumption)) | ((with_reducible apply Box.three_set); (with_reducible assumption)) | (with_reducible apply Box.set) | (simp only [List.size_toArray, List.length_cons, List.length_nil, Array.size_setIfInBounds] <;> omega))), by (repeat (first | (with_reducible assumption) | (with_reducible exact box_new _ _ _) | ((with_reducible apply box_at); (first | (with_reducible rfl) | (simp <;> omega))) | (with_reducible apply Box.drew) | (with_reducible apply Box.drewN) | (with_reducible apply Box.near) | (with_reducible apply Box.alloc) | ((with_reducible apply box_far); (first | assumption | omega | (simp <;> omega))) | ((with_reducible apply Box.one_set); (with_reducible assumption)) | ((with_reducible apply Box.two_set); (with_reducible assumption)) | ((with_reducible apply Box.three_set); (with_reducible assumption)) | (with_reducible apply Box.set) | (simp only [List.size_toArray, List.length_cons, List.length_nil, Array.size_setIfInBounds] <;> omega)))⟩ ?_
  clear A X_r l_r c_r f_r X_p l_p c_p f_p X_ep l_ep c_ep f_ep
  rintro w4 ⟨A, X_r, X_p, X_ep, X_bt⟩
  obtain ⟨bt, h_bt⟩ : ∃ bt, w3.heap.size = bt := ⟨_, rfl⟩
  have o_bt : w.heap.size ≤ bt := by omega
  rw [h_bt] at X_bt n_r_bt n_bt_r n_p_bt n_bt_p n_ep_bt n_bt_ep
  simp only [h_bt]
  clear h_bt z_bt
  obtain ⟨l_r, c_r, f_r⟩ := id X_r
  obtain ⟨l_p, c_p, f_p⟩ := id X_p
  obtain ⟨l_ep, c_ep, f_ep⟩ := id X_ep
  obtain ⟨l_bt, c_bt, f_bt⟩ := id X_bt
  go_wp2_with (fail)
  refine (HC.out _).mono ?_
  rintro e w5 ⟨rfl, hb⟩
  replace A := below_call A hb
  clear l_r c_r f_r
  replace X_r := X_r.below hb
  clear l_p c_p f_p
  replace X_p := X_p.below hb
  clear l_ep c_ep f_ep
  replace X_ep := X_ep.below hb
  clear l_bt c_bt f_bt
  replace X_bt := X_bt.below hb
  clear hb
  obtain ⟨l_r, c_r, f_r⟩ := id X_r
  obtain ⟨l_p, c_p, f_p⟩ := id X_p
  obtain ⟨l_ep, c_ep, f_ep⟩ := id X_ep
  obtain ⟨l_bt, c_bt, f_bt⟩ := id X_bt
  go_wp2
  refine bodyPost_ret (v := .agg #[.int .i64 4, .int .i64 e2, .int .i64 e3, .int .i64 e4, .int .i64 e5, .int .i64 e6, .int .i64 e7, .int .i64 e0, .int .i64 sl, .bool false]) (by simp [results, Try.results19, go_sem, c_r]) rfl ⟨rfl, by (repeat (first | (with_reducible exact Below.refl _ _) | (with_reducible assumption) | (with_reducible refine Near.up _ ?_) | (with_reducible refine Below.drew ?_) | (with_reducible refine below_alloc_on ?_ _) | (with_reducible refine below_set_on ?_ (by first | (simp; done) | (simp; omega) | omega) _)))⟩

set_option maxHeartbeats 4000000 in
theorem rbo_idle5 (a b c : ByteArray) (q : Bool) (i n : Int) (e0 e2 e3 e4 e5 e6 e7 sl : Int) (w : World)
    (HN : Hid (∀ w, Calls Try.prog 12 #[.agg #[.string a, .string b]] w fun e w' => e = .returned (.tuple #[.agg #[.int .i64 e0, .int .i64 5, .int .i64 e2, .int .i64 e3, .int .i64 e4, .int .i64 e5, .int .i64 e6, .int .i64 e7], .int .i64 sl, .bool true]) ∧ Below w.heap.size w w')) (ck : Int) (hck : (ck == 0) = false) (HC : Hid (∀ w, Calls Try.prog 38 #[.agg #[.int .i64 e2, .int .i64 e3, .int .i64 e4]] w fun e w' => e = .returned (.int .i64 ck) ∧ Below w.heap.size w w')) :
    Calls Try.prog 19 #[.agg #[.string a, .string b, .bool q, .int .i64 i, .string c, .int .i64 n]] w fun e w' => e = .returned (.agg #[.int .i64 1, .int .i64 0, .int .i64 0, .int .i64 0, .int .i64 e5, .int .i64 e6, .int .i64 e7, .int .i64 e0, .int .i64 sl, .bool false]) ∧ Below w.heap.size w w' := by
  have A : Below w.heap.size w w := Below.refl _ _
  go_enter Try.func19, Try.ntmps19
  go_upto_region 1 with (fail)
  have z_p : w.heap.size ≤ w.heap.size := by (have h9 := A.size; omega)
  have z_r : w.heap.size ≤ w.heap.size + 1 := by (have h9 := A.size; omega)
  have n_p_r : ¬ w.heap.size = w.heap.size + 1 := by omega
  have n_r_p : ¬ w.heap.size + 1 = w.heap.size := by omega
  refine at_world (fun V => Below w.heap.size w V ∧ Box V (w.heap.size) #[.string a, .string b, .bool q, .int .i64 i, .string c, .int .i64 n] ∧ Box V (w.heap.size + 1) #[.int .i64 0, .int .i64 0, .int .i64 0, .int .i64 0, .int .i64 0, .int .i64 0, .int .i64 0, .int .i64 0, .int .i64 0, .bool false]) ⟨by (repeat (first | (with_reducible exact Below.refl _ _) | (with_reducible assumption) | (with_reducible refine Near.up _ ?_) | (with_reducible refine Below.drew ?_) | (with_reducible refine below_alloc_on ?_ _) | (with_reducible refine below_set_on ?_ (by first | (simp; done) | (simp; omega) | omega) _))), by (repeat (first | (with_reducible assumption) | (with_reducible exact box_new _ _ _) | ((with_reducible apply box_at); (first | (with_reducible rfl) | (simp <;> omega))) | (with_reducible apply Box.drew) | (with_reducible apply Box.drewN) | (with_reducible apply Box.near) | (with_reducible apply Box.alloc) | ((with_reducible apply box_far); (first | assumption | omega | (simp <;> omega))) | ((with_reducible apply Box.one_set); (with_reducible assumption)) | ((with_reducible apply Box.two_set); (with_reducible assumption)) | ((with_reducible apply Box.three_set); (with_reducible assumption)) | (with_reducible apply Box.set) | (simp only [List.size_toArray, List.length_cons, List.length_nil, Array.size_setIfInBounds] <;> omega))), by (repeat (first | (with_reducible assumption) | (with_reducible exact box_new _ _ _) | ((with_reducible apply box_at); (first | (with_reducible rfl) | (simp <;> omega))) | (with_reducible apply Box.drew) | (with_reducible apply Box.drewN) | (with_reducible apply Box.near) | (with_reducible apply Box.alloc) | ((with_reducible apply box_far); (first | assumption | omega | (simp <;> omega))) | ((with_reducible apply Box.one_set); (with_reducible assumption)) | ((with_reducible apply Box.two_set); (with_reducible assumption)) | ((with_reducible apply Box.three_set); (with_reducible assumption)) | (with_reducible apply Box.set) | (simp only [List.size_toArray, List.length_cons, List.length_nil, Array.size_setIfInBounds] <;> omega)))⟩ ?_
  clear A
  rintro w1 ⟨A, X_p, X_r⟩
  obtain ⟨p, h_p⟩ : ∃ p, w.heap.size = p := ⟨_, rfl⟩
  have o_p : w.heap.size ≤ p := by omega
  obtain ⟨r, h_r⟩ : ∃ r, w.heap.size + 1 = r := ⟨_, rfl⟩
  have o_r : w.heap.size ≤ r := by omega
  rw [h_r] at X_r n_p_r n_r_p
  simp only [h_r]
  clear h_r z_r
  rw [h_p] at X_p n_p_r n_r_p
  simp only [h_p]
  clear h_p z_p
  obtain ⟨l_r, c_r, f_r⟩ := id X_r
  obtain ⟨l_p, c_p, f_p⟩ := id X_p
  go_wp2_with (fail)
  refine (HN.out _).mono ?_
  rintro e w2 ⟨rfl, hb⟩
  replace A := below_call A hb
  clear l_r c_r f_r
  replace X_r := X_r.below hb
  clear l_p c_p f_p
  replace X_p := X_p.below hb
  clear hb
  obtain ⟨l_r, c_r, f_r⟩ := id X_r
  obtain ⟨l_p, c_p, f_p⟩ := id X_p
  go_upto_region 2 with (fail)
  have z_ep : w.heap.size ≤ w2.heap.size := by (have h9 := A.size; omega)
  have n_r_ep : ¬ r = w2.heap.size := by omega
  have n_ep_r : ¬ w2.heap.size = r := by omega
  have n_p_ep : ¬ p = w2.heap.size := by omega
  have n_ep_p : ¬ w2.heap.size = p := by omega
  refine at_world (fun V => Below w.heap.size w V ∧ Box V (r) #[.int .i64 0, .int .i64 0, .int .i64 0, .int .i64 0, .int .i64 0, .int .i64 0, .int .i64 0, .int .i64 0, .int .i64 0, .bool false] ∧ Box V (p) #[.string a, .string b, .bool q, .int .i64 i, .string c, .int .i64 n] ∧ Box V (w2.heap.size) #[.int .i64 e0, .int .i64 5, .int .i64 e2, .int .i64 e3, .int .i64 e4, .int .i64 e5, .int .i64 e6, .int .i64 e7]) ⟨by (repeat (first | (with_reducible exact Below.refl _ _) | (with_reducible assumption) | (with_reducible refine Near.up _ ?_) | (with_reducible refine Below.drew ?_) | (with_reducible refine below_alloc_on ?_ _) | (with_reducible refine below_set_on ?_ (by first | (simp; done) | (simp; omega) | omega) _))), by (repeat (first | (with_reducible assumption) | (with_reducible exact box_new _ _ _) | ((with_reducible apply box_at); (first | (with_reducible rfl) | (simp <;> omega))) | (with_reducible apply Box.drew) | (with_reducible apply Box.drewN) | (with_reducible apply Box.near) | (with_reducible apply Box.alloc) | ((with_reducible apply box_far); (first | assumption | omega | (simp <;> omega))) | ((with_reducible apply Box.one_set); (with_reducible assumption)) | ((with_reducible apply Box.two_set); (with_reducible assumption)) | ((with_reducible apply Box.three_set); (with_reducible assumption)) | (with_reducible apply Box.set) | (simp only [List.size_toArray, List.length_cons, List.length_nil, Array.size_setIfInBounds] <;> omega))), by (repeat (first | (with_reducible assumption) | (with_reducible exact box_new _ _ _) | ((with_reducible apply box_at); (first | (with_reducible rfl) | (simp <;> omega))) | (with_reducible apply Box.drew) | (with_reducible apply Box.drewN) | (with_reducible apply Box.near) | (with_reducible apply Box.alloc) | ((with_reducible apply box_far); (first | assumption | omega | (simp <;> omega))) | ((with_reducible apply Box.one_set); (with_reducible assumption)) | ((with_reducible apply Box.two_set); (with_reducible assumption)) | ((with_reducible apply Box.three_set); (with_reducible assumption)) | (with_reducible apply Box.set) | (simp only [List.size_toArray, List.length_cons, List.length_nil, Array.size_setIfInBounds] <;> omega))), by (repeat (first | (with_reducible assumption) | (with_reducible exact box_new _ _ _) | ((with_reducible apply box_at); (first | (with_reducible rfl) | (simp <;> omega))) | (with_reducible apply Box.drew) | (with_reducible apply Box.drewN) | (with_reducible apply Box.near) | (with_reducible apply Box.alloc) | ((with_reducible apply box_far); (first | assumption | omega | (simp <;> omega))) | ((with_reducible apply Box.one_set); (with_reducible assumption)) | ((with_reducible apply Box.two_set); (with_reducible assumption)) | ((with_reducible apply Box.three_set); (with_reducible assumption)) | (with_reducible apply Box.set) | (simp only [List.size_toArray, List.length_cons, List.length_nil, Array.size_setIfInBounds] <;> omega)))⟩ ?_
  clear A X_r l_r c_r f_r X_p l_p c_p f_p
  rintro w3 ⟨A, X_r, X_p, X_ep⟩
  obtain ⟨ep, h_ep⟩ : ∃ ep, w2.heap.size = ep := ⟨_, rfl⟩
  have o_ep : w.heap.size ≤ ep := by omega
  rw [h_ep] at X_ep n_r_ep n_ep_r n_p_ep n_ep_p
  simp only [h_ep]
  clear h_ep z_ep
  obtain ⟨l_r, c_r, f_r⟩ := id X_r
  obtain ⟨l_p, c_p, f_p⟩ := id X_p
  obtain ⟨l_ep, c_ep, f_ep⟩ := id X_ep
  go_upto_region 5 with (fail)
  have z_bt : w.heap.size ≤ w3.heap.size := by (have h9 := A.size; omega)
  have n_r_bt : ¬ r = w3.heap.size := by omega
  have n_bt_r : ¬ w3.heap.size = r := by omega
  have n_p_bt : ¬ p = w3.heap.size := by omega
  have n_bt_p : ¬ w3.heap.size = p := by omega
  have n_ep_bt : ¬ ep = w3.heap.size := by omega
  have n_bt_ep : ¬ w3.heap.size = ep := by omega
  refine at_world (fun V => Below w.heap.size w V ∧ Box V (r) #[.int .i64 0, .int .i64 0, .int .i64 0, .int .i64 0, .int .i64 0, .int .i64 0, .int .i64 0, .int .i64 0, .int .i64 0, .bool false] ∧ Box V (p) #[.string a, .string b, .bool q, .int .i64 i, .string c, .int .i64 n] ∧ Box V (ep) #[.int .i64 e0, .int .i64 5, .int .i64 e2, .int .i64 e3, .int .i64 e4, .int .i64 e5, .int .i64 e6, .int .i64 e7] ∧ Box V (w3.heap.size) #[.int .i64 1, .int .i64 0, .int .i64 0, .int .i64 0, .int .i64 e5, .int .i64 e6, .int .i64 e7, .int .i64 e0, .int .i64 sl, .bool false]) ⟨by (repeat (first | (with_reducible exact Below.refl _ _) | (with_reducible assumption) | (with_reducible refine Near.up _ ?_) | (with_reducible refine Below.drew ?_) | (with_reducible refine below_alloc_on ?_ _) | (with_reducible refine below_set_on ?_ (by first | (simp; done) | (simp; omega) | omega) _))), by (repeat (first | (with_reducible assumption) | (with_reducible exact box_new _ _ _) | ((with_reducible apply box_at); (first | (with_reducible rfl) | (simp <;> omega))) | (with_reducible apply Box.drew) | (with_reducible apply Box.drewN) | (with_reducible apply Box.near) | (with_reducible apply Box.alloc) | ((with_reducible apply box_far); (first | assumption | omega | (simp <;> omega))) | ((with_reducible apply Box.one_set); (with_reducible assumption)) | ((with_reducible apply Box.two_set); (with_reducible assumption)) | ((with_reducible apply Box.three_set); (with_reducible assumption)) | (with_reducible apply Box.set) | (simp only [List.size_toArray, List.length_cons, List.length_nil, Array.size_setIfInBounds] <;> omega))), by (repeat (first | (with_reducible assumption) | (with_reducible exact box_new _ _ _) | ((with_reducible apply box_at); (first | (with_reducible rfl) | (simp <;> omega))) | (with_reducible apply Box.drew) | (with_reducible apply Box.drewN) | (with_reducible apply Box.near) | (with_reducible apply Box.alloc) | ((with_reducible apply box_far); (first | assumption | omega | (simp <;> omega))) | ((with_reducible apply Box.one_set); (with_reducible assumption)) | ((with_reducible apply Box.two_set); (with_reducible assumption)) | ((with_reducible apply Box.three_set); (with_reducible assumption)) | (with_reducible apply Box.set) | (simp only [List.size_toArray, List.length_cons, List.length_nil, Array.size_setIfInBounds] <;> omega))), by (repeat (first | (with_reducible assumption) | (with_reducible exact box_new _ _ _) | ((with_reducible apply box_at); (first | (with_reducible rfl) | (simp <;> omega))) | (with_reducible apply Box.drew) | (with_reducible apply Box.drewN) | (with_reducible apply Box.near) | (with_reducible apply Box.alloc) | ((with_reducible apply box_far); (first | assumption | omega | (simp <;> omega))) | ((with_reducible apply Box.one_set); (with_reducible assumption)) | ((with_reducible apply Box.two_set); (with_reducible assumption)) | ((with_reducible apply Box.three_set); (with_reducible assumption)) | (with_reducible apply Box.set) | (simp only [List.size_toArray, List.length_cons, List.length_nil, Array.size_setIfInBounds] <;> omega))), by (repeat (first | (with_reducible assumption) | (with_reducible exact box_new _ _ _) | ((with_reducible apply box_at); (first | (with_reducible rfl) | (simp <;> omega))) | (with_reducible apply Box.drew) | (with_reducible apply Box.drewN) | (with_reducible apply Box.near) | (with_reducible apply Box.alloc) | ((with_reducible apply box_far); (first | assumption | omega | (simp <;> omega))) | ((with_reducible apply Box.one_set); (with_reducible assumption)) | ((with_reducible apply Box.two_set); (with_reducible assumption)) | ((with_reducible apply Box.three_set); (with_reducible assumption)) | (with_reducible apply Box.set) | (simp only [List.size_toArray, List.length_cons, List.length_nil, Array.size_setIfInBounds] <;> omega)))⟩ ?_
  clear A X_r l_r c_r f_r X_p l_p c_p f_p X_ep l_ep c_ep f_ep
  rintro w4 ⟨A, X_r, X_p, X_ep, X_bt⟩
  obtain ⟨bt, h_bt⟩ : ∃ bt, w3.heap.size = bt := ⟨_, rfl⟩
  have o_bt : w.heap.size ≤ bt := by omega
  rw [h_bt] at X_bt n_r_bt n_bt_r n_p_bt n_bt_p n_ep_bt n_bt_ep
  simp only [h_bt]
  clear h_bt z_bt
  obtain ⟨l_r, c_r, f_r⟩ := id X_r
  obtain ⟨l_p, c_p, f_p⟩ := id X_p
  obtain ⟨l_ep, c_ep, f_ep⟩ := id X_ep
  obtain ⟨l_bt, c_bt, f_bt⟩ := id X_bt
  go_wp2_with (fail)
  refine (HC.out _).mono ?_
  rintro e w5 ⟨rfl, hb⟩
  replace A := below_call A hb
  clear l_r c_r f_r
  replace X_r := X_r.below hb
  clear l_p c_p f_p
  replace X_p := X_p.below hb
  clear l_ep c_ep f_ep
  replace X_ep := X_ep.below hb
  clear l_bt c_bt f_bt
  replace X_bt := X_bt.below hb
  clear hb
  obtain ⟨l_r, c_r, f_r⟩ := id X_r
  obtain ⟨l_p, c_p, f_p⟩ := id X_p
  obtain ⟨l_ep, c_ep, f_ep⟩ := id X_ep
  obtain ⟨l_bt, c_bt, f_bt⟩ := id X_bt
  go_wp2
  refine bodyPost_ret (v := .agg #[.int .i64 1, .int .i64 0, .int .i64 0, .int .i64 0, .int .i64 e5, .int .i64 e6, .int .i64 e7, .int .i64 e0, .int .i64 sl, .bool false]) (by simp [results, Try.results19, go_sem, c_r]) rfl ⟨rfl, by (repeat (first | (with_reducible exact Below.refl _ _) | (with_reducible assumption) | (with_reducible refine Near.up _ ?_) | (with_reducible refine Below.drew ?_) | (with_reducible refine below_alloc_on ?_ _) | (with_reducible refine below_set_on ?_ (by first | (simp; done) | (simp; omega) | omega) _)))⟩

set_option maxHeartbeats 4000000 in
theorem rbo_pause5 (a b c : ByteArray) (q : Bool) (i n : Int) (e0 e2 e3 e4 e5 e6 e7 sl : Int) (w : World)
    (HN : Hid (∀ w, Calls Try.prog 12 #[.agg #[.string a, .string b]] w fun e w' => e = .returned (.tuple #[.agg #[.int .i64 e0, .int .i64 5, .int .i64 e2, .int .i64 e3, .int .i64 e4, .int .i64 e5, .int .i64 e6, .int .i64 e7], .int .i64 sl, .bool true]) ∧ Below w.heap.size w w')) (HC : Hid (∀ w, Calls Try.prog 38 #[.agg #[.int .i64 e2, .int .i64 e3, .int .i64 e4]] w fun e w' => e = .returned (.int .i64 0) ∧ Below w.heap.size w w')) :
    Calls Try.prog 19 #[.agg #[.string a, .string b, .bool q, .int .i64 i, .string c, .int .i64 n]] w fun e w' => e = .returned (.agg #[.int .i64 4, .int .i64 e2, .int .i64 e3, .int .i64 e4, .int .i64 e5, .int .i64 e6, .int .i64 e7, .int .i64 e0, .int .i64 sl, .bool false]) ∧ Below w.heap.size w w' := by
  have A : Below w.heap.size w w := Below.refl _ _
  go_enter Try.func19, Try.ntmps19
  go_upto_region 1 with (fail)
  have z_p : w.heap.size ≤ w.heap.size := by (have h9 := A.size; omega)
  have z_r : w.heap.size ≤ w.heap.size + 1 := by (have h9 := A.size; omega)
  have n_p_r : ¬ w.heap.size = w.heap.size + 1 := by omega
  have n_r_p : ¬ w.heap.size + 1 = w.heap.size := by omega
  refine at_world (fun V => Below w.heap.size w V ∧ Box V (w.heap.size) #[.string a, .string b, .bool q, .int .i64 i, .string c, .int .i64 n] ∧ Box V (w.heap.size + 1) #[.int .i64 0, .int .i64 0, .int .i64 0, .int .i64 0, .int .i64 0, .int .i64 0, .int .i64 0, .int .i64 0, .int .i64 0, .bool false]) ⟨by (repeat (first | (with_reducible exact Below.refl _ _) | (with_reducible assumption) | (with_reducible refine Near.up _ ?_) | (with_reducible refine Below.drew ?_) | (with_reducible refine below_alloc_on ?_ _) | (with_reducible refine below_set_on ?_ (by first | (simp; done) | (simp; omega) | omega) _))), by (repeat (first | (with_reducible assumption) | (with_reducible exact box_new _ _ _) | ((with_reducible apply box_at); (first | (with_reducible rfl) | (simp <;> omega))) | (with_reducible apply Box.drew) | (with_reducible apply Box.drewN) | (with_reducible apply Box.near) | (with_reducible apply Box.alloc) | ((with_reducible apply box_far); (first | assumption | omega | (simp <;> omega))) | ((with_reducible apply Box.one_set); (with_reducible assumption)) | ((with_reducible apply Box.two_set); (with_reducible assumption)) | ((with_reducible apply Box.three_set); (with_reducible assumption)) | (with_reducible apply Box.set) | (simp only [List.size_toArray, List.length_cons, List.length_nil, Array.size_setIfInBounds] <;> omega))), by (repeat (first | (with_reducible assumption) | (with_reducible exact box_new _ _ _) | ((with_reducible apply box_at); (first | (with_reducible rfl) | (simp <;> omega))) | (with_reducible apply Box.drew) | (with_reducible apply Box.drewN) | (with_reducible apply Box.near) | (with_reducible apply Box.alloc) | ((with_reducible apply box_far); (first | assumption | omega | (simp <;> omega))) | ((with_reducible apply Box.one_set); (with_reducible assumption)) | ((with_reducible apply Box.two_set); (with_reducible assumption)) | ((with_reducible apply Box.three_set); (with_reducible assumption)) | (with_reducible apply Box.set) | (simp only [List.size_toArray, List.length_cons, List.length_nil, Array.size_setIfInBounds] <;> omega)))⟩ ?_
  clear A
  rintro w1 ⟨A, X_p, X_r⟩
  obtain ⟨p, h_p⟩ : ∃ p, w.heap.size = p := ⟨_, rfl⟩
  have o_p : w.heap.size ≤ p := by omega
  obtain ⟨r, h_r⟩ : ∃ r, w.heap.size + 1 = r := ⟨_, rfl⟩
  have o_r : w.heap.size ≤ r := by omega
  rw [h_r] at X_r n_p_r n_r_p
  simp only [h_r]
  clear h_r z_r
  rw [h_p] at X_p n_p_r n_r_p
  simp only [h_p]
  clear h_p z_p
  obtain ⟨l_r, c_r, f_r⟩ := id X_r
  obtain ⟨l_p, c_p, f_p⟩ := id X_p
  go_wp2_with (fail)
  refine (HN.out _).mono ?_
  rintro e w2 ⟨rfl, hb⟩
  replace A := below_call A hb
  clear l_r c_r f_r
  replace X_r := X_r.below hb
  clear l_p c_p f_p
  replace X_p := X_p.below hb
  clear hb
  obtain ⟨l_r, c_r, f_r⟩ := id X_r
  obtain ⟨l_p, c_p, f_p⟩ := id X_p
  go_upto_region 2 with (fail)
  have z_ep : w.heap.size ≤ w2.heap.size := by (have h9 := A.size; omega)
  have n_r_ep : ¬ r = w2.heap.size := by omega
  have n_ep_r : ¬ w2.heap.size = r := by omega
  have n_p_ep : ¬ p = w2.heap.size := by omega
  have n_ep_p : ¬ w2.heap.size = p := by omega
  refine at_world (fun V => Below w.heap.size w V ∧ Box V (r) #[.int .i64 0, .int .i64 0, .int .i64 0, .int .i64 0, .int .i64 0, .int .i64 0, .int .i64 0, .int .i64 0, .int .i64 0, .bool false] ∧ Box V (p) #[.string a, .string b, .bool q, .int .i64 i, .string c, .int .i64 n] ∧ Box V (w2.heap.size) #[.int .i64 e0, .int .i64 5, .int .i64 e2, .int .i64 e3, .int .i64 e4, .int .i64 e5, .int .i64 e6, .int .i64 e7]) ⟨by (repeat (first | (with_reducible exact Below.refl _ _) | (with_reducible assumption) | (with_reducible refine Near.up _ ?_) | (with_reducible refine Below.drew ?_) | (with_reducible refine below_alloc_on ?_ _) | (with_reducible refine below_set_on ?_ (by first | (simp; done) | (simp; omega) | omega) _))), by (repeat (first | (with_reducible assumption) | (with_reducible exact box_new _ _ _) | ((with_reducible apply box_at); (first | (with_reducible rfl) | (simp <;> omega))) | (with_reducible apply Box.drew) | (with_reducible apply Box.drewN) | (with_reducible apply Box.near) | (with_reducible apply Box.alloc) | ((with_reducible apply box_far); (first | assumption | omega | (simp <;> omega))) | ((with_reducible apply Box.one_set); (with_reducible assumption)) | ((with_reducible apply Box.two_set); (with_reducible assumption)) | ((with_reducible apply Box.three_set); (with_reducible assumption)) | (with_reducible apply Box.set) | (simp only [List.size_toArray, List.length_cons, List.length_nil, Array.size_setIfInBounds] <;> omega))), by (repeat (first | (with_reducible assumption) | (with_reducible exact box_new _ _ _) | ((with_reducible apply box_at); (first | (with_reducible rfl) | (simp <;> omega))) | (with_reducible apply Box.drew) | (with_reducible apply Box.drewN) | (with_reducible apply Box.near) | (with_reducible apply Box.alloc) | ((with_reducible apply box_far); (first | assumption | omega | (simp <;> omega))) | ((with_reducible apply Box.one_set); (with_reducible assumption)) | ((with_reducible apply Box.two_set); (with_reducible assumption)) | ((with_reducible apply Box.three_set); (with_reducible assumption)) | (with_reducible apply Box.set) | (simp only [List.size_toArray, List.length_cons, List.length_nil, Array.size_setIfInBounds] <;> omega))), by (repeat (first | (with_reducible assumption) | (with_reducible exact box_new _ _ _) | ((with_reducible apply box_at); (first | (with_reducible rfl) | (simp <;> omega))) | (with_reducible apply Box.drew) | (with_reducible apply Box.drewN) | (with_reducible apply Box.near) | (with_reducible apply Box.alloc) | ((with_reducible apply box_far); (first | assumption | omega | (simp <;> omega))) | ((with_reducible apply Box.one_set); (with_reducible assumption)) | ((with_reducible apply Box.two_set); (with_reducible assumption)) | ((with_reducible apply Box.three_set); (with_reducible assumption)) | (with_reducible apply Box.set) | (simp only [List.size_toArray, List.length_cons, List.length_nil, Array.size_setIfInBounds] <;> omega)))⟩ ?_
  clear A X_r l_r c_r f_r X_p l_p c_p f_p
  rintro w3 ⟨A, X_r, X_p, X_ep⟩
  obtain ⟨ep, h_ep⟩ : ∃ ep, w2.heap.size = ep := ⟨_, rfl⟩
  have o_ep : w.heap.size ≤ ep := by omega
  rw [h_ep] at X_ep n_r_ep n_ep_r n_p_ep n_ep_p
  simp only [h_ep]
  clear h_ep z_ep
  obtain ⟨l_r, c_r, f_r⟩ := id X_r
  obtain ⟨l_p, c_p, f_p⟩ := id X_p
  obtain ⟨l_ep, c_ep, f_ep⟩ := id X_ep
  go_upto_region 5 with (fail)
  have z_bt : w.heap.size ≤ w3.heap.size := by (have h9 := A.size; omega)
  have n_r_bt : ¬ r = w3.heap.size := by omega
  have n_bt_r : ¬ w3.heap.size = r := by omega
  have n_p_bt : ¬ p = w3.heap.size := by omega
  have n_bt_p : ¬ w3.heap.size = p := by omega
  have n_ep_bt : ¬ ep = w3.heap.size := by omega
  have n_bt_ep : ¬ w3.heap.size = ep := by omega
  refine at_world (fun V => Below w.heap.size w V ∧ Box V (r) #[.int .i64 0, .int .i64 0, .int .i64 0, .int .i64 0, .int .i64 0, .int .i64 0, .int .i64 0, .int .i64 0, .int .i64 0, .bool false] ∧ Box V (p) #[.string a, .string b, .bool q, .int .i64 i, .string c, .int .i64 n] ∧ Box V (ep) #[.int .i64 e0, .int .i64 5, .int .i64 e2, .int .i64 e3, .int .i64 e4, .int .i64 e5, .int .i64 e6, .int .i64 e7] ∧ Box V (w3.heap.size) #[.int .i64 1, .int .i64 0, .int .i64 0, .int .i64 0, .int .i64 e5, .int .i64 e6, .int .i64 e7, .int .i64 e0, .int .i64 sl, .bool false]) ⟨by (repeat (first | (with_reducible exact Below.refl _ _) | (with_reducible assumption) | (with_reducible refine Near.up _ ?_) | (with_reducible refine Below.drew ?_) | (with_reducible refine below_alloc_on ?_ _) | (with_reducible refine below_set_on ?_ (by first | (simp; done) | (simp; omega) | omega) _))), by (repeat (first | (with_reducible assumption) | (with_reducible exact box_new _ _ _) | ((with_reducible apply box_at); (first | (with_reducible rfl) | (simp <;> omega))) | (with_reducible apply Box.drew) | (with_reducible apply Box.drewN) | (with_reducible apply Box.near) | (with_reducible apply Box.alloc) | ((with_reducible apply box_far); (first | assumption | omega | (simp <;> omega))) | ((with_reducible apply Box.one_set); (with_reducible assumption)) | ((with_reducible apply Box.two_set); (with_reducible assumption)) | ((with_reducible apply Box.three_set); (with_reducible assumption)) | (with_reducible apply Box.set) | (simp only [List.size_toArray, List.length_cons, List.length_nil, Array.size_setIfInBounds] <;> omega))), by (repeat (first | (with_reducible assumption) | (with_reducible exact box_new _ _ _) | ((with_reducible apply box_at); (first | (with_reducible rfl) | (simp <;> omega))) | (with_reducible apply Box.drew) | (with_reducible apply Box.drewN) | (with_reducible apply Box.near) | (with_reducible apply Box.alloc) | ((with_reducible apply box_far); (first | assumption | omega | (simp <;> omega))) | ((with_reducible apply Box.one_set); (with_reducible assumption)) | ((with_reducible apply Box.two_set); (with_reducible assumption)) | ((with_reducible apply Box.three_set); (with_reducible assumption)) | (with_reducible apply Box.set) | (simp only [List.size_toArray, List.length_cons, List.length_nil, Array.size_setIfInBounds] <;> omega))), by (repeat (first | (with_reducible assumption) | (with_reducible exact box_new _ _ _) | ((with_reducible apply box_at); (first | (with_reducible rfl) | (simp <;> omega))) | (with_reducible apply Box.drew) | (with_reducible apply Box.drewN) | (with_reducible apply Box.near) | (with_reducible apply Box.alloc) | ((with_reducible apply box_far); (first | assumption | omega | (simp <;> omega))) | ((with_reducible apply Box.one_set); (with_reducible assumption)) | ((with_reducible apply Box.two_set); (with_reducible assumption)) | ((with_reducible apply Box.three_set); (with_reducible assumption)) | (with_reducible apply Box.set) | (simp only [List.size_toArray, List.length_cons, List.length_nil, Array.size_setIfInBounds] <;> omega))), by (repeat (first | (with_reducible assumption) | (with_reducible exact box_new _ _ _) | ((with_reducible apply box_at); (first | (with_reducible rfl) | (simp <;> omega))) | (with_reducible apply Box.drew) | (with_reducible apply Box.drewN) | (with_reducible apply Box.near) | (with_reducible apply Box.alloc) | ((with_reducible apply box_far); (first | assumption | omega | (simp <;> omega))) | ((with_reducible apply Box.one_set); (with_reducible assumption)) | ((with_reducible apply Box.two_set); (with_reducible assumption)) | ((with_reducible apply Box.three_set); (with_reducible assumption)) | (with_reducible apply Box.set) | (simp only [List.size_toArray, List.length_cons, List.length_nil, Array.size_setIfInBounds] <;> omega)))⟩ ?_
  clear A X_r l_r c_r f_r X_p l_p c_p f_p X_ep l_ep c_ep f_ep
  rintro w4 ⟨A, X_r, X_p, X_ep, X_bt⟩
  obtain ⟨bt, h_bt⟩ : ∃ bt, w3.heap.size = bt := ⟨_, rfl⟩
  have o_bt : w.heap.size ≤ bt := by omega
  rw [h_bt] at X_bt n_r_bt n_bt_r n_p_bt n_bt_p n_ep_bt n_bt_ep
  simp only [h_bt]
  clear h_bt z_bt
  obtain ⟨l_r, c_r, f_r⟩ := id X_r
  obtain ⟨l_p, c_p, f_p⟩ := id X_p
  obtain ⟨l_ep, c_ep, f_ep⟩ := id X_ep
  obtain ⟨l_bt, c_bt, f_bt⟩ := id X_bt
  go_wp2_with (fail)
  refine (HC.out _).mono ?_
  rintro e w5 ⟨rfl, hb⟩
  replace A := below_call A hb
  clear l_r c_r f_r
  replace X_r := X_r.below hb
  clear l_p c_p f_p
  replace X_p := X_p.below hb
  clear l_ep c_ep f_ep
  replace X_ep := X_ep.below hb
  clear l_bt c_bt f_bt
  replace X_bt := X_bt.below hb
  clear hb
  obtain ⟨l_r, c_r, f_r⟩ := id X_r
  obtain ⟨l_p, c_p, f_p⟩ := id X_p
  obtain ⟨l_ep, c_ep, f_ep⟩ := id X_ep
  obtain ⟨l_bt, c_bt, f_bt⟩ := id X_bt
  go_wp2
  refine bodyPost_ret (v := .agg #[.int .i64 4, .int .i64 e2, .int .i64 e3, .int .i64 e4, .int .i64 e5, .int .i64 e6, .int .i64 e7, .int .i64 e0, .int .i64 sl, .bool false]) (by simp [results, Try.results19, go_sem, c_r]) rfl ⟨rfl, by (repeat (first | (with_reducible exact Below.refl _ _) | (with_reducible assumption) | (with_reducible refine Near.up _ ?_) | (with_reducible refine Below.drew ?_) | (with_reducible refine below_alloc_on ?_ _) | (with_reducible refine below_set_on ?_ (by first | (simp; done) | (simp; omega) | omega) _)))⟩

set_option maxHeartbeats 4000000 in
theorem rbo_idle7 (a b c : ByteArray) (q : Bool) (i n : Int) (e0 e2 e3 e4 e5 e6 e7 sl : Int) (w : World)
    (HN : Hid (∀ w, Calls Try.prog 12 #[.agg #[.string a, .string b]] w fun e w' => e = .returned (.tuple #[.agg #[.int .i64 e0, .int .i64 7, .int .i64 e2, .int .i64 e3, .int .i64 e4, .int .i64 e5, .int .i64 e6, .int .i64 e7], .int .i64 sl, .bool true]) ∧ Below w.heap.size w w')) (ck : Int) (hck : (ck == 0) = false) (HC : Hid (∀ w, Calls Try.prog 38 #[.agg #[.int .i64 e2, .int .i64 e3, .int .i64 e4]] w fun e w' => e = .returned (.int .i64 ck) ∧ Below w.heap.size w w')) :
    Calls Try.prog 19 #[.agg #[.string a, .string b, .bool q, .int .i64 i, .string c, .int .i64 n]] w fun e w' => e = .returned (.agg #[.int .i64 1, .int .i64 0, .int .i64 0, .int .i64 0, .int .i64 e5, .int .i64 e6, .int .i64 e7, .int .i64 e0, .int .i64 sl, .bool false]) ∧ Below w.heap.size w w' := by
  have A : Below w.heap.size w w := Below.refl _ _
  go_enter Try.func19, Try.ntmps19
  go_upto_region 1 with (fail)
  have z_p : w.heap.size ≤ w.heap.size := by (have h9 := A.size; omega)
  have z_r : w.heap.size ≤ w.heap.size + 1 := by (have h9 := A.size; omega)
  have n_p_r : ¬ w.heap.size = w.heap.size + 1 := by omega
  have n_r_p : ¬ w.heap.size + 1 = w.heap.size := by omega
  refine at_world (fun V => Below w.heap.size w V ∧ Box V (w.heap.size) #[.string a, .string b, .bool q, .int .i64 i, .string c, .int .i64 n] ∧ Box V (w.heap.size + 1) #[.int .i64 0, .int .i64 0, .int .i64 0, .int .i64 0, .int .i64 0, .int .i64 0, .int .i64 0, .int .i64 0, .int .i64 0, .bool false]) ⟨by (repeat (first | (with_reducible exact Below.refl _ _) | (with_reducible assumption) | (with_reducible refine Near.up _ ?_) | (with_reducible refine Below.drew ?_) | (with_reducible refine below_alloc_on ?_ _) | (with_reducible refine below_set_on ?_ (by first | (simp; done) | (simp; omega) | omega) _))), by (repeat (first | (with_reducible assumption) | (with_reducible exact box_new _ _ _) | ((with_reducible apply box_at); (first | (with_reducible rfl) | (simp <;> omega))) | (with_reducible apply Box.drew) | (with_reducible apply Box.drewN) | (with_reducible apply Box.near) | (with_reducible apply Box.alloc) | ((with_reducible apply box_far); (first | assumption | omega | (simp <;> omega))) | ((with_reducible apply Box.one_set); (with_reducible assumption)) | ((with_reducible apply Box.two_set); (with_reducible assumption)) | ((with_reducible apply Box.three_set); (with_reducible assumption)) | (with_reducible apply Box.set) | (simp only [List.size_toArray, List.length_cons, List.length_nil, Array.size_setIfInBounds] <;> omega))), by (repeat (first | (with_reducible assumption) | (with_reducible exact box_new _ _ _) | ((with_reducible apply box_at); (first | (with_reducible rfl) | (simp <;> omega))) | (with_reducible apply Box.drew) | (with_reducible apply Box.drewN) | (with_reducible apply Box.near) | (with_reducible apply Box.alloc) | ((with_reducible apply box_far); (first | assumption | omega | (simp <;> omega))) | ((with_reducible apply Box.one_set); (with_reducible assumption)) | ((with_reducible apply Box.two_set); (with_reducible assumption)) | ((with_reducible apply Box.three_set); (with_reducible assumption)) | (with_reducible apply Box.set) | (simp only [List.size_toArray, List.length_cons, List.length_nil, Array.size_setIfInBounds] <;> omega)))⟩ ?_
  clear A
  rintro w1 ⟨A, X_p, X_r⟩
  obtain ⟨p, h_p⟩ : ∃ p, w.heap.size = p := ⟨_, rfl⟩
  have o_p : w.heap.size ≤ p := by omega
  obtain ⟨r, h_r⟩ : ∃ r, w.heap.size + 1 = r := ⟨_, rfl⟩
  have o_r : w.heap.size ≤ r := by omega
  rw [h_r] at X_r n_p_r n_r_p
  simp only [h_r]
  clear h_r z_r
  rw [h_p] at X_p n_p_r n_r_p
  simp only [h_p]
  clear h_p z_p
  obtain ⟨l_r, c_r, f_r⟩ := id X_r
  obtain ⟨l_p, c_p, f_p⟩ := id X_p
  go_wp2_with (fail)
  refine (HN.out _).mono ?_
  rintro e w2 ⟨rfl, hb⟩
  replace A := below_call A hb
  clear l_r c_r f_r
  replace X_r := X_r.below hb
  clear l_p c_p f_p
  replace X_p := X_p.below hb
  clear hb
  obtain ⟨l_r, c_r, f_r⟩ := id X_r
  obtain ⟨l_p, c_p, f_p⟩ := id X_p
  go_upto_region 2 with (fail)
  have z_ep : w.heap.size ≤ w2.heap.size := by (have h9 := A.size; omega)
  have n_r_ep : ¬ r = w2.heap.size := by omega
  have n_ep_r : ¬ w2.heap.size = r := by omega
  have n_p_ep : ¬ p = w2.heap.size := by omega
  have n_ep_p : ¬ w2.heap.size = p := by omega
  refine at_world (fun V => Below w.heap.size w V ∧ Box V (r) #[.int .i64 0, .int .i64 0, .int .i64 0, .int .i64 0, .int .i64 0, .int .i64 0, .int .i64 0, .int .i64 0, .int .i64 0, .bool false] ∧ Box V (p) #[.string a, .string b, .bool q, .int .i64 i, .string c, .int .i64 n] ∧ Box V (w2.heap.size) #[.int .i64 e0, .int .i64 7, .int .i64 e2, .int .i64 e3, .int .i64 e4, .int .i64 e5, .int .i64 e6, .int .i64 e7]) ⟨by (repeat (first | (with_reducible exact Below.refl _ _) | (with_reducible assumption) | (with_reducible refine Near.up _ ?_) | (with_reducible refine Below.drew ?_) | (with_reducible refine below_alloc_on ?_ _) | (with_reducible refine below_set_on ?_ (by first | (simp; done) | (simp; omega) | omega) _))), by (repeat (first | (with_reducible assumption) | (with_reducible exact box_new _ _ _) | ((with_reducible apply box_at); (first | (with_reducible rfl) | (simp <;> omega))) | (with_reducible apply Box.drew) | (with_reducible apply Box.drewN) | (with_reducible apply Box.near) | (with_reducible apply Box.alloc) | ((with_reducible apply box_far); (first | assumption | omega | (simp <;> omega))) | ((with_reducible apply Box.one_set); (with_reducible assumption)) | ((with_reducible apply Box.two_set); (with_reducible assumption)) | ((with_reducible apply Box.three_set); (with_reducible assumption)) | (with_reducible apply Box.set) | (simp only [List.size_toArray, List.length_cons, List.length_nil, Array.size_setIfInBounds] <;> omega))), by (repeat (first | (with_reducible assumption) | (with_reducible exact box_new _ _ _) | ((with_reducible apply box_at); (first | (with_reducible rfl) | (simp <;> omega))) | (with_reducible apply Box.drew) | (with_reducible apply Box.drewN) | (with_reducible apply Box.near) | (with_reducible apply Box.alloc) | ((with_reducible apply box_far); (first | assumption | omega | (simp <;> omega))) | ((with_reducible apply Box.one_set); (with_reducible assumption)) | ((with_reducible apply Box.two_set); (with_reducible assumption)) | ((with_reducible apply Box.three_set); (with_reducible assumption)) | (with_reducible apply Box.set) | (simp only [List.size_toArray, List.length_cons, List.length_nil, Array.size_setIfInBounds] <;> omega))), by (repeat (first | (with_reducible assumption) | (with_reducible exact box_new _ _ _) | ((with_reducible apply box_at); (first | (with_reducible rfl) | (simp <;> omega))) | (with_reducible apply Box.drew) | (with_reducible apply Box.drewN) | (with_reducible apply Box.near) | (with_reducible apply Box.alloc) | ((with_reducible apply box_far); (first | assumption | omega | (simp <;> omega))) | ((with_reducible apply Box.one_set); (with_reducible assumption)) | ((with_reducible apply Box.two_set); (with_reducible assumption)) | ((with_reducible apply Box.three_set); (with_reducible assumption)) | (with_reducible apply Box.set) | (simp only [List.size_toArray, List.length_cons, List.length_nil, Array.size_setIfInBounds] <;> omega)))⟩ ?_
  clear A X_r l_r c_r f_r X_p l_p c_p f_p
  rintro w3 ⟨A, X_r, X_p, X_ep⟩
  obtain ⟨ep, h_ep⟩ : ∃ ep, w2.heap.size = ep := ⟨_, rfl⟩
  have o_ep : w.heap.size ≤ ep := by omega
  rw [h_ep] at X_ep n_r_ep n_ep_r n_p_ep n_ep_p
  simp only [h_ep]
  clear h_ep z_ep
  obtain ⟨l_r, c_r, f_r⟩ := id X_r
  obtain ⟨l_p, c_p, f_p⟩ := id X_p
  obtain ⟨l_ep, c_ep, f_ep⟩ := id X_ep
  go_upto_region 5 with (fail)
  have z_bt : w.heap.size ≤ w3.heap.size := by (have h9 := A.size; omega)
  have n_r_bt : ¬ r = w3.heap.size := by omega
  have n_bt_r : ¬ w3.heap.size = r := by omega
  have n_p_bt : ¬ p = w3.heap.size := by omega
  have n_bt_p : ¬ w3.heap.size = p := by omega
  have n_ep_bt : ¬ ep = w3.heap.size := by omega
  have n_bt_ep : ¬ w3.heap.size = ep := by omega
  refine at_world (fun V => Below w.heap.size w V ∧ Box V (r) #[.int .i64 0, .int .i64 0, .int .i64 0, .int .i64 0, .int .i64 0, .int .i64 0, .int .i64 0, .int .i64 0, .int .i64 0, .bool false] ∧ Box V (p) #[.string a, .string b, .bool q, .int .i64 i, .string c, .int .i64 n] ∧ Box V (ep) #[.int .i64 e0, .int .i64 7, .int .i64 e2, .int .i64 e3, .int .i64 e4, .int .i64 e5, .int .i64 e6, .int .i64 e7] ∧ Box V (w3.heap.size) #[.int .i64 1, .int .i64 0, .int .i64 0, .int .i64 0, .int .i64 e5, .int .i64 e6, .int .i64 e7, .int .i64 e0, .int .i64 sl, .bool false]) ⟨by (repeat (first | (with_reducible exact Below.refl _ _) | (with_reducible assumption) | (with_reducible refine Near.up _ ?_) | (with_reducible refine Below.drew ?_) | (with_reducible refine below_alloc_on ?_ _) | (with_reducible refine below_set_on ?_ (by first | (simp; done) | (simp; omega) | omega) _))), by (repeat (first | (with_reducible assumption) | (with_reducible exact box_new _ _ _) | ((with_reducible apply box_at); (first | (with_reducible rfl) | (simp <;> omega))) | (with_reducible apply Box.drew) | (with_reducible apply Box.drewN) | (with_reducible apply Box.near) | (with_reducible apply Box.alloc) | ((with_reducible apply box_far); (first | assumption | omega | (simp <;> omega))) | ((with_reducible apply Box.one_set); (with_reducible assumption)) | ((with_reducible apply Box.two_set); (with_reducible assumption)) | ((with_reducible apply Box.three_set); (with_reducible assumption)) | (with_reducible apply Box.set) | (simp only [List.size_toArray, List.length_cons, List.length_nil, Array.size_setIfInBounds] <;> omega))), by (repeat (first | (with_reducible assumption) | (with_reducible exact box_new _ _ _) | ((with_reducible apply box_at); (first | (with_reducible rfl) | (simp <;> omega))) | (with_reducible apply Box.drew) | (with_reducible apply Box.drewN) | (with_reducible apply Box.near) | (with_reducible apply Box.alloc) | ((with_reducible apply box_far); (first | assumption | omega | (simp <;> omega))) | ((with_reducible apply Box.one_set); (with_reducible assumption)) | ((with_reducible apply Box.two_set); (with_reducible assumption)) | ((with_reducible apply Box.three_set); (with_reducible assumption)) | (with_reducible apply Box.set) | (simp only [List.size_toArray, List.length_cons, List.length_nil, Array.size_setIfInBounds] <;> omega))), by (repeat (first | (with_reducible assumption) | (with_reducible exact box_new _ _ _) | ((with_reducible apply box_at); (first | (with_reducible rfl) | (simp <;> omega))) | (with_reducible apply Box.drew) | (with_reducible apply Box.drewN) | (with_reducible apply Box.near) | (with_reducible apply Box.alloc) | ((with_reducible apply box_far); (first | assumption | omega | (simp <;> omega))) | ((with_reducible apply Box.one_set); (with_reducible assumption)) | ((with_reducible apply Box.two_set); (with_reducible assumption)) | ((with_reducible apply Box.three_set); (with_reducible assumption)) | (with_reducible apply Box.set) | (simp only [List.size_toArray, List.length_cons, List.length_nil, Array.size_setIfInBounds] <;> omega))), by (repeat (first | (with_reducible assumption) | (with_reducible exact box_new _ _ _) | ((with_reducible apply box_at); (first | (with_reducible rfl) | (simp <;> omega))) | (with_reducible apply Box.drew) | (with_reducible apply Box.drewN) | (with_reducible apply Box.near) | (with_reducible apply Box.alloc) | ((with_reducible apply box_far); (first | assumption | omega | (simp <;> omega))) | ((with_reducible apply Box.one_set); (with_reducible assumption)) | ((with_reducible apply Box.two_set); (with_reducible assumption)) | ((with_reducible apply Box.three_set); (with_reducible assumption)) | (with_reducible apply Box.set) | (simp only [List.size_toArray, List.length_cons, List.length_nil, Array.size_setIfInBounds] <;> omega)))⟩ ?_
  clear A X_r l_r c_r f_r X_p l_p c_p f_p X_ep l_ep c_ep f_ep
  rintro w4 ⟨A, X_r, X_p, X_ep, X_bt⟩
  obtain ⟨bt, h_bt⟩ : ∃ bt, w3.heap.size = bt := ⟨_, rfl⟩
  have o_bt : w.heap.size ≤ bt := by omega
  rw [h_bt] at X_bt n_r_bt n_bt_r n_p_bt n_bt_p n_ep_bt n_bt_ep
  simp only [h_bt]
  clear h_bt z_bt
  obtain ⟨l_r, c_r, f_r⟩ := id X_r
  obtain ⟨l_p, c_p, f_p⟩ := id X_p
  obtain ⟨l_ep, c_ep, f_ep⟩ := id X_ep
  obtain ⟨l_bt, c_bt, f_bt⟩ := id X_bt
  go_wp2_with (fail)
  refine (HC.out _).mono ?_
  rintro e w5 ⟨rfl, hb⟩
  replace A := below_call A hb
  clear l_r c_r f_r
  replace X_r := X_r.below hb
  clear l_p c_p f_p
  replace X_p := X_p.below hb
  clear l_ep c_ep f_ep
  replace X_ep := X_ep.below hb
  clear l_bt c_bt f_bt
  replace X_bt := X_bt.below hb
  clear hb
  obtain ⟨l_r, c_r, f_r⟩ := id X_r
  obtain ⟨l_p, c_p, f_p⟩ := id X_p
  obtain ⟨l_ep, c_ep, f_ep⟩ := id X_ep
  obtain ⟨l_bt, c_bt, f_bt⟩ := id X_bt
  go_wp2
  refine bodyPost_ret (v := .agg #[.int .i64 1, .int .i64 0, .int .i64 0, .int .i64 0, .int .i64 e5, .int .i64 e6, .int .i64 e7, .int .i64 e0, .int .i64 sl, .bool false]) (by simp [results, Try.results19, go_sem, c_r]) rfl ⟨rfl, by (repeat (first | (with_reducible exact Below.refl _ _) | (with_reducible assumption) | (with_reducible refine Near.up _ ?_) | (with_reducible refine Below.drew ?_) | (with_reducible refine below_alloc_on ?_ _) | (with_reducible refine below_set_on ?_ (by first | (simp; done) | (simp; omega) | omega) _)))⟩

set_option maxHeartbeats 4000000 in
theorem rbo_pause7 (a b c : ByteArray) (q : Bool) (i n : Int) (e0 e2 e3 e4 e5 e6 e7 sl : Int) (w : World)
    (HN : Hid (∀ w, Calls Try.prog 12 #[.agg #[.string a, .string b]] w fun e w' => e = .returned (.tuple #[.agg #[.int .i64 e0, .int .i64 7, .int .i64 e2, .int .i64 e3, .int .i64 e4, .int .i64 e5, .int .i64 e6, .int .i64 e7], .int .i64 sl, .bool true]) ∧ Below w.heap.size w w')) (HC : Hid (∀ w, Calls Try.prog 38 #[.agg #[.int .i64 e2, .int .i64 e3, .int .i64 e4]] w fun e w' => e = .returned (.int .i64 0) ∧ Below w.heap.size w w')) :
    Calls Try.prog 19 #[.agg #[.string a, .string b, .bool q, .int .i64 i, .string c, .int .i64 n]] w fun e w' => e = .returned (.agg #[.int .i64 4, .int .i64 e2, .int .i64 e3, .int .i64 e4, .int .i64 e5, .int .i64 e6, .int .i64 e7, .int .i64 e0, .int .i64 sl, .bool false]) ∧ Below w.heap.size w w' := by
  have A : Below w.heap.size w w := Below.refl _ _
  go_enter Try.func19, Try.ntmps19
  go_upto_region 1 with (fail)
  have z_p : w.heap.size ≤ w.heap.size := by (have h9 := A.size; omega)
  have z_r : w.heap.size ≤ w.heap.size + 1 := by (have h9 := A.size; omega)
  have n_p_r : ¬ w.heap.size = w.heap.size + 1 := by omega
  have n_r_p : ¬ w.heap.size + 1 = w.heap.size := by omega
  refine at_world (fun V => Below w.heap.size w V ∧ Box V (w.heap.size) #[.string a, .string b, .bool q, .int .i64 i, .string c, .int .i64 n] ∧ Box V (w.heap.size + 1) #[.int .i64 0, .int .i64 0, .int .i64 0, .int .i64 0, .int .i64 0, .int .i64 0, .int .i64 0, .int .i64 0, .int .i64 0, .bool false]) ⟨by (repeat (first | (with_reducible exact Below.refl _ _) | (with_reducible assumption) | (with_reducible refine Near.up _ ?_) | (with_reducible refine Below.drew ?_) | (with_reducible refine below_alloc_on ?_ _) | (with_reducible refine below_set_on ?_ (by first | (simp; done) | (simp; omega) | omega) _))), by (repeat (first | (with_reducible assumption) | (with_reducible exact box_new _ _ _) | ((with_reducible apply box_at); (first | (with_reducible rfl) | (simp <;> omega))) | (with_reducible apply Box.drew) | (with_reducible apply Box.drewN) | (with_reducible apply Box.near) | (with_reducible apply Box.alloc) | ((with_reducible apply box_far); (first | assumption | omega | (simp <;> omega))) | ((with_reducible apply Box.one_set); (with_reducible assumption)) | ((with_reducible apply Box.two_set); (with_reducible assumption)) | ((with_reducible apply Box.three_set); (with_reducible assumption)) | (with_reducible apply Box.set) | (simp only [List.size_toArray, List.length_cons, List.length_nil, Array.size_setIfInBounds] <;> omega))), by (repeat (first | (with_reducible assumption) | (with_reducible exact box_new _ _ _) | ((with_reducible apply box_at); (first | (with_reducible rfl) | (simp <;> omega))) | (with_reducible apply Box.drew) | (with_reducible apply Box.drewN) | (with_reducible apply Box.near) | (with_reducible apply Box.alloc) | ((with_reducible apply box_far); (first | assumption | omega | (simp <;> omega))) | ((with_reducible apply Box.one_set); (with_reducible assumption)) | ((with_reducible apply Box.two_set); (with_reducible assumption)) | ((with_reducible apply Box.three_set); (with_reducible assumption)) | (with_reducible apply Box.set) | (simp only [List.size_toArray, List.length_cons, List.length_nil, Array.size_setIfInBounds] <;> omega)))⟩ ?_
  clear A
  rintro w1 ⟨A, X_p, X_r⟩
  obtain ⟨p, h_p⟩ : ∃ p, w.heap.size = p := ⟨_, rfl⟩
  have o_p : w.heap.size ≤ p := by omega
  obtain ⟨r, h_r⟩ : ∃ r, w.heap.size + 1 = r := ⟨_, rfl⟩
  have o_r : w.heap.size ≤ r := by omega
  rw [h_r] at X_r n_p_r n_r_p
  simp only [h_r]
  clear h_r z_r
  rw [h_p] at X_p n_p_r n_r_p
  simp only [h_p]
  clear h_p z_p
  obtain ⟨l_r, c_r, f_r⟩ := id X_r
  obtain ⟨l_p, c_p, f_p⟩ := id X_p
  go_wp2_with (fail)
  refine (HN.out _).mono ?_
  rintro e w2 ⟨rfl, hb⟩
  replace A := below_call A hb
  clear l_r c_r f_r
  replace X_r := X_r.below hb
  clear l_p c_p f_p
  replace X_p := X_p.below hb
  clear hb
  obtain ⟨l_r, c_r, f_r⟩ := id X_r
  obtain ⟨l_p, c_p, f_p⟩ := id X_p
  go_upto_region 2 with (fail)
  have z_ep : w.heap.size ≤ w2.heap.size := by (have h9 := A.size; omega)
  have n_r_ep : ¬ r = w2.heap.size := by omega
  have n_ep_r : ¬ w2.heap.size = r := by omega
  have n_p_ep : ¬ p = w2.heap.size := by omega
  have n_ep_p : ¬ w2.heap.size = p := by omega
  refine at_world (fun V => Below w.heap.size w V ∧ Box V (r) #[.int .i64 0, .int .i64 0, .int .i64 0, .int .i64 0, .int .i64 0, .int .i64 0, .int .i64 0, .int .i64 0, .int .i64 0, .bool false] ∧ Box V (p) #[.string a, .string b, .bool q, .int .i64 i, .string c, .int .i64 n] ∧ Box V (w2.heap.size) #[.int .i64 e0, .int .i64 7, .int .i64 e2, .int .i64 e3, .int .i64 e4, .int .i64 e5, .int .i64 e6, .int .i64 e7]) ⟨by (repeat (first | (with_reducible exact Below.refl _ _) | (with_reducible assumption) | (with_reducible refine Near.up _ ?_) | (with_reducible refine Below.drew ?_) | (with_reducible refine below_alloc_on ?_ _) | (with_reducible refine below_set_on ?_ (by first | (simp; done) | (simp; omega) | omega) _))), by (repeat (first | (with_reducible assumption) | (with_reducible exact box_new _ _ _) | ((with_reducible apply box_at); (first | (with_reducible rfl) | (simp <;> omega))) | (with_reducible apply Box.drew) | (with_reducible apply Box.drewN) | (with_reducible apply Box.near) | (with_reducible apply Box.alloc) | ((with_reducible apply box_far); (first | assumption | omega | (simp <;> omega))) | ((with_reducible apply Box.one_set); (with_reducible assumption)) | ((with_reducible apply Box.two_set); (with_reducible assumption)) | ((with_reducible apply Box.three_set); (with_reducible assumption)) | (with_reducible apply Box.set) | (simp only [List.size_toArray, List.length_cons, List.length_nil, Array.size_setIfInBounds] <;> omega))), by (repeat (first | (with_reducible assumption) | (with_reducible exact box_new _ _ _) | ((with_reducible apply box_at); (first | (with_reducible rfl) | (simp <;> omega))) | (with_reducible apply Box.drew) | (with_reducible apply Box.drewN) | (with_reducible apply Box.near) | (with_reducible apply Box.alloc) | ((with_reducible apply box_far); (first | assumption | omega | (simp <;> omega))) | ((with_reducible apply Box.one_set); (with_reducible assumption)) | ((with_reducible apply Box.two_set); (with_reducible assumption)) | ((with_reducible apply Box.three_set); (with_reducible assumption)) | (with_reducible apply Box.set) | (simp only [List.size_toArray, List.length_cons, List.length_nil, Array.size_setIfInBounds] <;> omega))), by (repeat (first | (with_reducible assumption) | (with_reducible exact box_new _ _ _) | ((with_reducible apply box_at); (first | (with_reducible rfl) | (simp <;> omega))) | (with_reducible apply Box.drew) | (with_reducible apply Box.drewN) | (with_reducible apply Box.near) | (with_reducible apply Box.alloc) | ((with_reducible apply box_far); (first | assumption | omega | (simp <;> omega))) | ((with_reducible apply Box.one_set); (with_reducible assumption)) | ((with_reducible apply Box.two_set); (with_reducible assumption)) | ((with_reducible apply Box.three_set); (with_reducible assumption)) | (with_reducible apply Box.set) | (simp only [List.size_toArray, List.length_cons, List.length_nil, Array.size_setIfInBounds] <;> omega)))⟩ ?_
  clear A X_r l_r c_r f_r X_p l_p c_p f_p
  rintro w3 ⟨A, X_r, X_p, X_ep⟩
  obtain ⟨ep, h_ep⟩ : ∃ ep, w2.heap.size = ep := ⟨_, rfl⟩
  have o_ep : w.heap.size ≤ ep := by omega
  rw [h_ep] at X_ep n_r_ep n_ep_r n_p_ep n_ep_p
  simp only [h_ep]
  clear h_ep z_ep
  obtain ⟨l_r, c_r, f_r⟩ := id X_r
  obtain ⟨l_p, c_p, f_p⟩ := id X_p
  obtain ⟨l_ep, c_ep, f_ep⟩ := id X_ep
  go_upto_region 5 with (fail)
  have z_bt : w.heap.size ≤ w3.heap.size := by (have h9 := A.size; omega)
  have n_r_bt : ¬ r = w3.heap.size := by omega
  have n_bt_r : ¬ w3.heap.size = r := by omega
  have n_p_bt : ¬ p = w3.heap.size := by omega
  have n_bt_p : ¬ w3.heap.size = p := by omega
  have n_ep_bt : ¬ ep = w3.heap.size := by omega
  have n_bt_ep : ¬ w3.heap.size = ep := by omega
  refine at_world (fun V => Below w.heap.size w V ∧ Box V (r) #[.int .i64 0, .int .i64 0, .int .i64 0, .int .i64 0, .int .i64 0, .int .i64 0, .int .i64 0, .int .i64 0, .int .i64 0, .bool false] ∧ Box V (p) #[.string a, .string b, .bool q, .int .i64 i, .string c, .int .i64 n] ∧ Box V (ep) #[.int .i64 e0, .int .i64 7, .int .i64 e2, .int .i64 e3, .int .i64 e4, .int .i64 e5, .int .i64 e6, .int .i64 e7] ∧ Box V (w3.heap.size) #[.int .i64 1, .int .i64 0, .int .i64 0, .int .i64 0, .int .i64 e5, .int .i64 e6, .int .i64 e7, .int .i64 e0, .int .i64 sl, .bool false]) ⟨by (repeat (first | (with_reducible exact Below.refl _ _) | (with_reducible assumption) | (with_reducible refine Near.up _ ?_) | (with_reducible refine Below.drew ?_) | (with_reducible refine below_alloc_on ?_ _) | (with_reducible refine below_set_on ?_ (by first | (simp; done) | (simp; omega) | omega) _))), by (repeat (first | (with_reducible assumption) | (with_reducible exact box_new _ _ _) | ((with_reducible apply box_at); (first | (with_reducible rfl) | (simp <;> omega))) | (with_reducible apply Box.drew) | (with_reducible apply Box.drewN) | (with_reducible apply Box.near) | (with_reducible apply Box.alloc) | ((with_reducible apply box_far); (first | assumption | omega | (simp <;> omega))) | ((with_reducible apply Box.one_set); (with_reducible assumption)) | ((with_reducible apply Box.two_set); (with_reducible assumption)) | ((with_reducible apply Box.three_set); (with_reducible assumption)) | (with_reducible apply Box.set) | (simp only [List.size_toArray, List.length_cons, List.length_nil, Array.size_setIfInBounds] <;> omega))), by (repeat (first | (with_reducible assumption) | (with_reducible exact box_new _ _ _) | ((with_reducible apply box_at); (first | (with_reducible rfl) | (simp <;> omega))) | (with_reducible apply Box.drew) | (with_reducible apply Box.drewN) | (with_reducible apply Box.near) | (with_reducible apply Box.alloc) | ((with_reducible apply box_far); (first | assumption | omega | (simp <;> omega))) | ((with_reducible apply Box.one_set); (with_reducible assumption)) | ((with_reducible apply Box.two_set); (with_reducible assumption)) | ((with_reducible apply Box.three_set); (with_reducible assumption)) | (with_reducible apply Box.set) | (simp only [List.size_toArray, List.length_cons, List.length_nil, Array.size_setIfInBounds] <;> omega))), by (repeat (first | (with_reducible assumption) | (with_reducible exact box_new _ _ _) | ((with_reducible apply box_at); (first | (with_reducible rfl) | (simp <;> omega))) | (with_reducible apply Box.drew) | (with_reducible apply Box.drewN) | (with_reducible apply Box.near) | (with_reducible apply Box.alloc) | ((with_reducible apply box_far); (first | assumption | omega | (simp <;> omega))) | ((with_reducible apply Box.one_set); (with_reducible assumption)) | ((with_reducible apply Box.two_set); (with_reducible assumption)) | ((with_reducible apply Box.three_set); (with_reducible assumption)) | (with_reducible apply Box.set) | (simp only [List.size_toArray, List.length_cons, List.length_nil, Array.size_setIfInBounds] <;> omega))), by (repeat (first | (with_reducible assumption) | (with_reducible exact box_new _ _ _) | ((with_reducible apply box_at); (first | (with_reducible rfl) | (simp <;> omega))) | (with_reducible apply Box.drew) | (with_reducible apply Box.drewN) | (with_reducible apply Box.near) | (with_reducible apply Box.alloc) | ((with_reducible apply box_far); (first | assumption | omega | (simp <;> omega))) | ((with_reducible apply Box.one_set); (with_reducible assumption)) | ((with_reducible apply Box.two_set); (with_reducible assumption)) | ((with_reducible apply Box.three_set); (with_reducible assumption)) | (with_reducible apply Box.set) | (simp only [List.size_toArray, List.length_cons, List.length_nil, Array.size_setIfInBounds] <;> omega)))⟩ ?_
  clear A X_r l_r c_r f_r X_p l_p c_p f_p X_ep l_ep c_ep f_ep
  rintro w4 ⟨A, X_r, X_p, X_ep, X_bt⟩
  obtain ⟨bt, h_bt⟩ : ∃ bt, w3.heap.size = bt := ⟨_, rfl⟩
  have o_bt : w.heap.size ≤ bt := by omega
  rw [h_bt] at X_bt n_r_bt n_bt_r n_p_bt n_bt_p n_ep_bt n_bt_ep
  simp only [h_bt]
  clear h_bt z_bt
  obtain ⟨l_r, c_r, f_r⟩ := id X_r
  obtain ⟨l_p, c_p, f_p⟩ := id X_p
  obtain ⟨l_ep, c_ep, f_ep⟩ := id X_ep
  obtain ⟨l_bt, c_bt, f_bt⟩ := id X_bt
  go_wp2_with (fail)
  refine (HC.out _).mono ?_
  rintro e w5 ⟨rfl, hb⟩
  replace A := below_call A hb
  clear l_r c_r f_r
  replace X_r := X_r.below hb
  clear l_p c_p f_p
  replace X_p := X_p.below hb
  clear l_ep c_ep f_ep
  replace X_ep := X_ep.below hb
  clear l_bt c_bt f_bt
  replace X_bt := X_bt.below hb
  clear hb
  obtain ⟨l_r, c_r, f_r⟩ := id X_r
  obtain ⟨l_p, c_p, f_p⟩ := id X_p
  obtain ⟨l_ep, c_ep, f_ep⟩ := id X_ep
  obtain ⟨l_bt, c_bt, f_bt⟩ := id X_bt
  go_wp2
  refine bodyPost_ret (v := .agg #[.int .i64 4, .int .i64 e2, .int .i64 e3, .int .i64 e4, .int .i64 e5, .int .i64 e6, .int .i64 e7, .int .i64 e0, .int .i64 sl, .bool false]) (by simp [results, Try.results19, go_sem, c_r]) rfl ⟨rfl, by (repeat (first | (with_reducible exact Below.refl _ _) | (with_reducible assumption) | (with_reducible refine Near.up _ ?_) | (with_reducible refine Below.drew ?_) | (with_reducible refine below_alloc_on ?_ _) | (with_reducible refine below_set_on ?_ (by first | (simp; done) | (simp; omega) | omega) _)))⟩

/-- Both find the same. -/
theorem boot_both (a b c : ByteArray) (q : Bool) (i n : Int) (ha : a.size ≤ 1000000) (hb : b.size ≤ 1000000) : ∃ x0 x1 x2 x3 x4 x5 x6 x7 x8 x9,
    (∀ w, Calls Try.prog 18 #[.agg #[.string a, .string b, .bool q, .int .i64 i, .string c, .int .i64 n]] w fun e w' => e = .returned (.agg #[.int .i64 x0, .int .i64 x1, .int .i64 x2, .int .i64 x3, .int .i64 x4, .int .i64 x5, .int .i64 x6, .int .i64 x7, .int .i64 x8, .bool x9]) ∧ Below w.heap.size w w') ∧
    (∀ w, Calls Try.prog 19 #[.agg #[.string a, .string b, .bool q, .int .i64 i, .string c, .int .i64 n]] w fun e w' => e = .returned (.agg #[.int .i64 x0, .int .i64 x1, .int .i64 x2, .int .i64 x3, .int .i64 x4, .int .i64 x5, .int .i64 x6, .int .i64 x7, .int .i64 x8, .bool x9]) ∧ Below w.heap.size w w') := by
  refine ⟨_, _, _, _, _, _, _, _, _, _, fun w => re_boot a b c q i n w ha hb, fun w => ?_⟩
  have HN := fun w => rj_newest a b w ha hb
  have HC := fun w => rp_check (gtV (nwT a b) 2) (gtV (nwT a b) 3) (gtV (nwT a b) 4) w
  cases hg : gtB (nwT a b)
  · rw [hg] at HN
    have hs : nwS a b = 0 := by
      unfold nwS
      have hF : nwF a b = false := by
        cases hF : nwF a b
        · rfl
        · unfold nwT at hg
          rw [hF, if_pos rfl] at hg
          unfold nwF at hF
          rw [hg] at hF
          simp at hF
      rw [hF]
      unfold nwT at hg
      rw [hF] at hg
      simp at hg
      rw [hg]
      rfl
    have hp : boB a b = false := by unfold boB lsB; rw [gt_none hg]; rfl
    rw [hp, hs]
    simp only [gt_none hg] at HN ⊢
    exact rbo_lost a b c q i n _ _ _ _ _ _ _ _ _ w (Lib.hid HN)
  · rw [hg] at HN
    unfold boB lsB
    generalize gtV (nwT a b) 0 = e0 at *
    generalize gtV (nwT a b) 1 = e1 at *
    generalize gtV (nwT a b) 2 = e2 at *
    generalize gtV (nwT a b) 3 = e3 at *
    generalize gtV (nwT a b) 4 = e4 at *
    generalize gtV (nwT a b) 5 = e5 at *
    generalize gtV (nwT a b) 6 = e6 at *
    generalize gtV (nwT a b) 7 = e7 at *
    generalize nwS a b = sl at *
    by_cases hm : e1 = 3 ∨ e1 = 4 ∨ e1 = 5 ∨ e1 = 7
    · rw [decide_eq_true hm, Bool.true_and]
      generalize ckV e2 e3 e4 = ck at *
      by_cases hc : ck = 0
      · subst hc
        rw [decide_eq_true rfl]
        rcases hm with rfl | rfl | rfl | rfl
        · exact rbo_pause3 a b c q i n _ _ _ _ _ _ _ _ w (Lib.hid HN) (Lib.hid HC)
        · exact rbo_pause4 a b c q i n _ _ _ _ _ _ _ _ w (Lib.hid HN) (Lib.hid HC)
        · exact rbo_pause5 a b c q i n _ _ _ _ _ _ _ _ w (Lib.hid HN) (Lib.hid HC)
        · exact rbo_pause7 a b c q i n _ _ _ _ _ _ _ _ w (Lib.hid HN) (Lib.hid HC)
      · rw [decide_eq_false hc]
        have hck : (ck == 0) = false := by simpa using hc
        rcases hm with rfl | rfl | rfl | rfl
        · exact rbo_idle3 a b c q i n _ _ _ _ _ _ _ _ w (Lib.hid HN) ck hck (Lib.hid HC)
        · exact rbo_idle4 a b c q i n _ _ _ _ _ _ _ _ w (Lib.hid HN) ck hck (Lib.hid HC)
        · exact rbo_idle5 a b c q i n _ _ _ _ _ _ _ _ w (Lib.hid HN) ck hck (Lib.hid HC)
        · exact rbo_idle7 a b c q i n _ _ _ _ _ _ _ _ w (Lib.hid HN) ck hck (Lib.hid HC)
    · rw [decide_eq_false hm, Bool.false_and]
      have q3 : (e1 == 3) = false := by simp; omega
      have q4 : (e1 == 4) = false := by simp; omega
      have q5 : (e1 == 5) = false := by simp; omega
      have q7 : (e1 == 7) = false := by simp; omega
      exact rbo_other a b c q i n _ _ _ _ _ _ _ _ _ w (Lib.hid HN) q3 q4 q5 q7

set_option maxHeartbeats 4000000 in
theorem nx_form (a b c S : ByteArray) (q : Bool) (i n sl e0 e1 e2 e3 e4 e5 e6 e7 : Int) (w : World)
    (HP : Hid (∀ w, Calls Try.prog 7 #[.agg #[.int .i64 e0, .int .i64 e1, .int .i64 e2, .int .i64 e3, .int .i64 e4, .int .i64 e5, .int .i64 e6, .int .i64 e7]] w fun e w' => e = .returned (.tuple #[.string S, .bool false]) ∧ Below w.heap.size w w')) :
    Calls Try.prog 16 #[.agg #[.string a, .string b, .bool q, .int .i64 i, .string c, .int .i64 n], .int .i64 sl, .agg #[.int .i64 e0, .int .i64 e1, .int .i64 e2, .int .i64 e3, .int .i64 e4, .int .i64 e5, .int .i64 e6, .int .i64 e7]] w fun e w' => e = .returned (.tuple #[.agg #[.string ⟨#[]⟩, .string ⟨#[]⟩, .bool false, .int .i64 0, .string ⟨#[]⟩, .int .i64 0], .int .i64 6]) ∧ Below w.heap.size w w' := by
  have A : Below w.heap.size w w := Below.refl _ _
  go_enter Try.func16, Try.ntmps16
  go_upto_region 1 with (fail)
  have z_p : w.heap.size ≤ w.heap.size := by (have h9 := A.size; omega)
  have z_ep : w.heap.size ≤ w.heap.size + 1 := by (have h9 := A.size; omega)
  have z_r : w.heap.size ≤ w.heap.size + 1 + 1 := by (have h9 := A.size; omega)
  have n_p_ep : ¬ w.heap.size = w.heap.size + 1 := by omega
  have n_ep_p : ¬ w.heap.size + 1 = w.heap.size := by omega
  have n_p_r : ¬ w.heap.size = w.heap.size + 1 + 1 := by omega
  have n_r_p : ¬ w.heap.size + 1 + 1 = w.heap.size := by omega
  have n_ep_r : ¬ w.heap.size + 1 = w.heap.size + 1 + 1 := by omega
  have n_r_ep : ¬ w.heap.size + 1 + 1 = w.heap.size + 1 := by omega
  refine at_world (fun V => Below w.heap.size w V ∧ Box V (w.heap.size) #[.string a, .string b, .bool q, .int .i64 i, .string c, .int .i64 n] ∧ Box V (w.heap.size + 1) #[.int .i64 e0, .int .i64 e1, .int .i64 e2, .int .i64 e3, .int .i64 e4, .int .i64 e5, .int .i64 e6, .int .i64 e7] ∧ Box V (w.heap.size + 1 + 1) #[.string ⟨#[]⟩, .string ⟨#[]⟩, .bool false, .int .i64 0, .string ⟨#[]⟩, .int .i64 0]) ⟨by (repeat (first | (with_reducible exact Below.refl _ _) | (with_reducible assumption) | (with_reducible refine Near.up _ ?_) | (with_reducible refine Below.drew ?_) | (with_reducible refine below_alloc_on ?_ _) | (with_reducible refine below_set_on ?_ (by first | (simp; done) | (simp; omega) | omega) _))), by (repeat (first | (with_reducible assumption) | (with_reducible exact box_new _ _ _) | ((with_reducible apply box_at); (first | (with_reducible rfl) | (simp <;> omega))) | (with_reducible apply Box.drew) | (with_reducible apply Box.drewN) | (with_reducible apply Box.near) | (with_reducible apply Box.alloc) | ((with_reducible apply box_far); (first | assumption | omega | (simp <;> omega))) | ((with_reducible apply Box.one_set); (with_reducible assumption)) | ((with_reducible apply Box.two_set); (with_reducible assumption)) | ((with_reducible apply Box.three_set); (with_reducible assumption)) | (with_reducible apply Box.set) | (simp only [List.size_toArray, List.length_cons, List.length_nil, Array.size_setIfInBounds] <;> omega))), by (repeat (first | (with_reducible assumption) | (with_reducible exact box_new _ _ _) | ((with_reducible apply box_at); (first | (with_reducible rfl) | (simp <;> omega))) | (with_reducible apply Box.drew) | (with_reducible apply Box.drewN) | (with_reducible apply Box.near) | (with_reducible apply Box.alloc) | ((with_reducible apply box_far); (first | assumption | omega | (simp <;> omega))) | ((with_reducible apply Box.one_set); (with_reducible assumption)) | ((with_reducible apply Box.two_set); (with_reducible assumption)) | ((with_reducible apply Box.three_set); (with_reducible assumption)) | (with_reducible apply Box.set) | (simp only [List.size_toArray, List.length_cons, List.length_nil, Array.size_setIfInBounds] <;> omega))), by (repeat (first | (with_reducible assumption) | (with_reducible exact box_new _ _ _) | ((with_reducible apply box_at); (first | (with_reducible rfl) | (simp <;> omega))) | (with_reducible apply Box.drew) | (with_reducible apply Box.drewN) | (with_reducible apply Box.near) | (with_reducible apply Box.alloc) | ((with_reducible apply box_far); (first | assumption | omega | (simp <;> omega))) | ((with_reducible apply Box.one_set); (with_reducible assumption)) | ((with_reducible apply Box.two_set); (with_reducible assumption)) | ((with_reducible apply Box.three_set); (with_reducible assumption)) | (with_reducible apply Box.set) | (simp only [List.size_toArray, List.length_cons, List.length_nil, Array.size_setIfInBounds] <;> omega)))⟩ ?_
  clear A
  rintro w1 ⟨A, X_p, X_ep, X_r⟩
  obtain ⟨p, h_p⟩ : ∃ p, w.heap.size = p := ⟨_, rfl⟩
  have o_p : w.heap.size ≤ p := by omega
  obtain ⟨ep, h_ep⟩ : ∃ ep, w.heap.size + 1 = ep := ⟨_, rfl⟩
  have o_ep : w.heap.size ≤ ep := by omega
  obtain ⟨r, h_r⟩ : ∃ r, w.heap.size + 1 + 1 = r := ⟨_, rfl⟩
  have o_r : w.heap.size ≤ r := by omega
  rw [h_r] at X_r n_p_r n_r_p n_ep_r n_r_ep
  simp only [h_r]
  clear h_r z_r
  rw [h_ep] at X_ep n_p_ep n_ep_p n_ep_r n_r_ep
  simp only [h_ep]
  clear h_ep z_ep
  rw [h_p] at X_p n_p_ep n_ep_p n_p_r n_r_p
  simp only [h_p]
  clear h_p z_p
  obtain ⟨l_r, c_r, f_r⟩ := id X_r
  obtain ⟨l_ep, c_ep, f_ep⟩ := id X_ep
  obtain ⟨l_p, c_p, f_p⟩ := id X_p
  go_wp2_with (fail)
  refine (HP.out _).mono ?_
  rintro e w2 ⟨rfl, hb⟩
  replace A := below_call A hb
  clear l_r c_r f_r
  replace X_r := X_r.below hb
  clear l_ep c_ep f_ep
  replace X_ep := X_ep.below hb
  clear l_p c_p f_p
  replace X_p := X_p.below hb
  clear hb
  obtain ⟨l_r, c_r, f_r⟩ := id X_r
  obtain ⟨l_ep, c_ep, f_ep⟩ := id X_ep
  obtain ⟨l_p, c_p, f_p⟩ := id X_p
  go_wp2
  refine bodyPost_ret (v := .tuple #[.agg #[.string ⟨#[]⟩, .string ⟨#[]⟩, .bool false, .int .i64 0, .string ⟨#[]⟩, .int .i64 0], .int .i64 6]) (by simp [results, Try.results16, go_sem, c_r]) rfl ⟨rfl, by (repeat (first | (with_reducible exact Below.refl _ _) | (with_reducible assumption) | (with_reducible refine Near.up _ ?_) | (with_reducible refine Below.drew ?_) | (with_reducible refine below_alloc_on ?_ _) | (with_reducible refine below_set_on ?_ (by first | (simp; done) | (simp; omega) | omega) _)))⟩

set_option maxHeartbeats 4000000 in
theorem nx_on (a b c S A0 A1 A4 : ByteArray) (q A2 : Bool) (i n sl u m A3 A5 E e0 e1 e2 e3 e4 e5 e6 e7 : Int) (hs : bits .and .i64 sl 1 = u) (hm : 1 - u = m) (u0 : 0 ≤ u) (u1 : u ≤ 1) (w : World)
    (HP : Hid (∀ w, Calls Try.prog 7 #[.agg #[.int .i64 e0, .int .i64 e1, .int .i64 e2, .int .i64 e3, .int .i64 e4, .int .i64 e5, .int .i64 e6, .int .i64 e7]] w fun e w' => e = .returned (.tuple #[.string S, .bool true]) ∧ Below w.heap.size w w'))
    (HB : Hid (∀ w, Calls Try.prog 39 #[.agg #[.string a, .string b, .bool q, .int .i64 i, .string c, .int .i64 n], .int .i64 m, .string S] w fun x w' => x = .returned (.tuple #[.agg #[.string A0, .string A1, .bool A2, .int .i64 A3, .string A4, .int .i64 A5], .int .i64 E]) ∧ Below w.heap.size w w')) :
    Calls Try.prog 16 #[.agg #[.string a, .string b, .bool q, .int .i64 i, .string c, .int .i64 n], .int .i64 sl, .agg #[.int .i64 e0, .int .i64 e1, .int .i64 e2, .int .i64 e3, .int .i64 e4, .int .i64 e5, .int .i64 e6, .int .i64 e7]] w fun e w' => e = .returned (.tuple #[.agg #[.string A0, .string A1, .bool A2, .int .i64 A3, .string A4, .int .i64 A5], .int .i64 E]) ∧ Below w.heap.size w w' := by
  have A : Below w.heap.size w w := Below.refl _ _
  go_enter Try.func16, Try.ntmps16
  go_upto_region 1 with (fail)
  have z_p : w.heap.size ≤ w.heap.size := by (have h9 := A.size; omega)
  have z_ep : w.heap.size ≤ w.heap.size + 1 := by (have h9 := A.size; omega)
  have z_r : w.heap.size ≤ w.heap.size + 1 + 1 := by (have h9 := A.size; omega)
  have n_p_ep : ¬ w.heap.size = w.heap.size + 1 := by omega
  have n_ep_p : ¬ w.heap.size + 1 = w.heap.size := by omega
  have n_p_r : ¬ w.heap.size = w.heap.size + 1 + 1 := by omega
  have n_r_p : ¬ w.heap.size + 1 + 1 = w.heap.size := by omega
  have n_ep_r : ¬ w.heap.size + 1 = w.heap.size + 1 + 1 := by omega
  have n_r_ep : ¬ w.heap.size + 1 + 1 = w.heap.size + 1 := by omega
  refine at_world (fun V => Below w.heap.size w V ∧ Box V (w.heap.size) #[.string a, .string b, .bool q, .int .i64 i, .string c, .int .i64 n] ∧ Box V (w.heap.size + 1) #[.int .i64 e0, .int .i64 e1, .int .i64 e2, .int .i64 e3, .int .i64 e4, .int .i64 e5, .int .i64 e6, .int .i64 e7] ∧ Box V (w.heap.size + 1 + 1) #[.string ⟨#[]⟩, .string ⟨#[]⟩, .bool false, .int .i64 0, .string ⟨#[]⟩, .int .i64 0]) ⟨by (repeat (first | (with_reducible exact Below.refl _ _) | (with_reducible assumption) | (with_reducible refine Near.up _ ?_) | (with_reducible refine Below.drew ?_) | (with_reducible refine below_alloc_on ?_ _) | (with_reducible refine below_set_on ?_ (by first | (simp; done) | (simp; omega) | omega) _))), by (repeat (first | (with_reducible assumption) | (with_reducible exact box_new _ _ _) | ((with_reducible apply box_at); (first | (with_reducible rfl) | (simp <;> omega))) | (with_reducible apply Box.drew) | (with_reducible apply Box.drewN) | (with_reducible apply Box.near) | (with_reducible apply Box.alloc) | ((with_reducible apply box_far); (first | assumption | omega | (simp <;> omega))) | ((with_reducible apply Box.one_set); (with_reducible assumption)) | ((with_reducible apply Box.two_set); (with_reducible assumption)) | ((with_reducible apply Box.three_set); (with_reducible assumption)) | (with_reducible apply Box.set) | (simp only [List.size_toArray, List.length_cons, List.length_nil, Array.size_setIfInBounds] <;> omega))), by (repeat (first | (with_reducible assumption) | (with_reducible exact box_new _ _ _) | ((with_reducible apply box_at); (first | (with_reducible rfl) | (simp <;> omega))) | (with_reducible apply Box.drew) | (with_reducible apply Box.drewN) | (with_reducible apply Box.near) | (with_reducible apply Box.alloc) | ((with_reducible apply box_far); (first | assumption | omega | (simp <;> omega))) | ((with_reducible apply Box.one_set); (with_reducible assumption)) | ((with_reducible apply Box.two_set); (with_reducible assumption)) | ((with_reducible apply Box.three_set); (with_reducible assumption)) | (with_reducible apply Box.set) | (simp only [List.size_toArray, List.length_cons, List.length_nil, Array.size_setIfInBounds] <;> omega))), by (repeat (first | (with_reducible assumption) | (with_reducible exact box_new _ _ _) | ((with_reducible apply box_at); (first | (with_reducible rfl) | (simp <;> omega))) | (with_reducible apply Box.drew) | (with_reducible apply Box.drewN) | (with_reducible apply Box.near) | (with_reducible apply Box.alloc) | ((with_reducible apply box_far); (first | assumption | omega | (simp <;> omega))) | ((with_reducible apply Box.one_set); (with_reducible assumption)) | ((with_reducible apply Box.two_set); (with_reducible assumption)) | ((with_reducible apply Box.three_set); (with_reducible assumption)) | (with_reducible apply Box.set) | (simp only [List.size_toArray, List.length_cons, List.length_nil, Array.size_setIfInBounds] <;> omega)))⟩ ?_
  clear A
  rintro w1 ⟨A, X_p, X_ep, X_r⟩
  obtain ⟨p, h_p⟩ : ∃ p, w.heap.size = p := ⟨_, rfl⟩
  have o_p : w.heap.size ≤ p := by omega
  obtain ⟨ep, h_ep⟩ : ∃ ep, w.heap.size + 1 = ep := ⟨_, rfl⟩
  have o_ep : w.heap.size ≤ ep := by omega
  obtain ⟨r, h_r⟩ : ∃ r, w.heap.size + 1 + 1 = r := ⟨_, rfl⟩
  have o_r : w.heap.size ≤ r := by omega
  rw [h_r] at X_r n_p_r n_r_p n_ep_r n_r_ep
  simp only [h_r]
  clear h_r z_r
  rw [h_ep] at X_ep n_p_ep n_ep_p n_ep_r n_r_ep
  simp only [h_ep]
  clear h_ep z_ep
  rw [h_p] at X_p n_p_ep n_ep_p n_p_r n_r_p
  simp only [h_p]
  clear h_p z_p
  obtain ⟨l_r, c_r, f_r⟩ := id X_r
  obtain ⟨l_ep, c_ep, f_ep⟩ := id X_ep
  obtain ⟨l_p, c_p, f_p⟩ := id X_p
  go_wp2_with (fail)
  refine (HP.out _).mono ?_
  rintro e w2 ⟨rfl, hb⟩
  replace A := below_call A hb
  clear l_r c_r f_r
  replace X_r := X_r.below hb
  clear l_ep c_ep f_ep
  replace X_ep := X_ep.below hb
  clear l_p c_p f_p
  replace X_p := X_p.below hb
  clear hb
  obtain ⟨l_r, c_r, f_r⟩ := id X_r
  obtain ⟨l_ep, c_ep, f_ep⟩ := id X_ep
  obtain ⟨l_p, c_p, f_p⟩ := id X_p
  go_wp2_with (fail)
  refine (HB.out _).mono ?_
  rintro e w3 ⟨rfl, hb⟩
  replace A := below_call A hb
  clear l_r c_r f_r
  replace X_r := X_r.below hb
  clear l_ep c_ep f_ep
  replace X_ep := X_ep.below hb
  clear l_p c_p f_p
  replace X_p := X_p.below hb
  clear hb
  obtain ⟨l_r, c_r, f_r⟩ := id X_r
  obtain ⟨l_ep, c_ep, f_ep⟩ := id X_ep
  obtain ⟨l_p, c_p, f_p⟩ := id X_p
  go_wp2
  refine bodyPost_ret (v := .tuple #[.agg #[.string A0, .string A1, .bool A2, .int .i64 A3, .string A4, .int .i64 A5], .int .i64 E]) (by simp [results, Try.results16, go_sem, c_r]) rfl ⟨rfl, by (repeat (first | (with_reducible exact Below.refl _ _) | (with_reducible assumption) | (with_reducible refine Near.up _ ?_) | (with_reducible refine Below.drew ?_) | (with_reducible refine below_alloc_on ?_ _) | (with_reducible refine below_set_on ?_ (by first | (simp; done) | (simp; omega) | omega) _)))⟩

set_option maxHeartbeats 4000000 in
theorem rnx_form (a b c S : ByteArray) (q : Bool) (i n sl e0 e1 e2 e3 e4 e5 e6 e7 : Int) (w : World)
    (HP : Hid (∀ w, Calls Try.prog 8 #[.agg #[.int .i64 e0, .int .i64 e1, .int .i64 e2, .int .i64 e3, .int .i64 e4, .int .i64 e5, .int .i64 e6, .int .i64 e7]] w fun e w' => e = .returned (.tuple #[.string S, .bool false]) ∧ Below w.heap.size w w')) :
    Calls Try.prog 17 #[.agg #[.string a, .string b, .bool q, .int .i64 i, .string c, .int .i64 n], .int .i64 sl, .agg #[.int .i64 e0, .int .i64 e1, .int .i64 e2, .int .i64 e3, .int .i64 e4, .int .i64 e5, .int .i64 e6, .int .i64 e7]] w fun e w' => e = .returned (.tuple #[.agg #[.string ⟨#[]⟩, .string ⟨#[]⟩, .bool false, .int .i64 0, .string ⟨#[]⟩, .int .i64 0], .int .i64 6]) ∧ Below w.heap.size w w' := by
  have A : Below w.heap.size w w := Below.refl _ _
  go_enter Try.func17, Try.ntmps17
  go_upto_region 1 with (fail)
  have z_p : w.heap.size ≤ w.heap.size := by (have h9 := A.size; omega)
  have z_ep : w.heap.size ≤ w.heap.size + 1 := by (have h9 := A.size; omega)
  have z_r : w.heap.size ≤ w.heap.size + 1 + 1 := by (have h9 := A.size; omega)
  have n_p_ep : ¬ w.heap.size = w.heap.size + 1 := by omega
  have n_ep_p : ¬ w.heap.size + 1 = w.heap.size := by omega
  have n_p_r : ¬ w.heap.size = w.heap.size + 1 + 1 := by omega
  have n_r_p : ¬ w.heap.size + 1 + 1 = w.heap.size := by omega
  have n_ep_r : ¬ w.heap.size + 1 = w.heap.size + 1 + 1 := by omega
  have n_r_ep : ¬ w.heap.size + 1 + 1 = w.heap.size + 1 := by omega
  refine at_world (fun V => Below w.heap.size w V ∧ Box V (w.heap.size) #[.string a, .string b, .bool q, .int .i64 i, .string c, .int .i64 n] ∧ Box V (w.heap.size + 1) #[.int .i64 e0, .int .i64 e1, .int .i64 e2, .int .i64 e3, .int .i64 e4, .int .i64 e5, .int .i64 e6, .int .i64 e7] ∧ Box V (w.heap.size + 1 + 1) #[.string ⟨#[]⟩, .string ⟨#[]⟩, .bool false, .int .i64 0, .string ⟨#[]⟩, .int .i64 0]) ⟨by (repeat (first | (with_reducible exact Below.refl _ _) | (with_reducible assumption) | (with_reducible refine Near.up _ ?_) | (with_reducible refine Below.drew ?_) | (with_reducible refine below_alloc_on ?_ _) | (with_reducible refine below_set_on ?_ (by first | (simp; done) | (simp; omega) | omega) _))), by (repeat (first | (with_reducible assumption) | (with_reducible exact box_new _ _ _) | ((with_reducible apply box_at); (first | (with_reducible rfl) | (simp <;> omega))) | (with_reducible apply Box.drew) | (with_reducible apply Box.drewN) | (with_reducible apply Box.near) | (with_reducible apply Box.alloc) | ((with_reducible apply box_far); (first | assumption | omega | (simp <;> omega))) | ((with_reducible apply Box.one_set); (with_reducible assumption)) | ((with_reducible apply Box.two_set); (with_reducible assumption)) | ((with_reducible apply Box.three_set); (with_reducible assumption)) | (with_reducible apply Box.set) | (simp only [List.size_toArray, List.length_cons, List.length_nil, Array.size_setIfInBounds] <;> omega))), by (repeat (first | (with_reducible assumption) | (with_reducible exact box_new _ _ _) | ((with_reducible apply box_at); (first | (with_reducible rfl) | (simp <;> omega))) | (with_reducible apply Box.drew) | (with_reducible apply Box.drewN) | (with_reducible apply Box.near) | (with_reducible apply Box.alloc) | ((with_reducible apply box_far); (first | assumption | omega | (simp <;> omega))) | ((with_reducible apply Box.one_set); (with_reducible assumption)) | ((with_reducible apply Box.two_set); (with_reducible assumption)) | ((with_reducible apply Box.three_set); (with_reducible assumption)) | (with_reducible apply Box.set) | (simp only [List.size_toArray, List.length_cons, List.length_nil, Array.size_setIfInBounds] <;> omega))), by (repeat (first | (with_reducible assumption) | (with_reducible exact box_new _ _ _) | ((with_reducible apply box_at); (first | (with_reducible rfl) | (simp <;> omega))) | (with_reducible apply Box.drew) | (with_reducible apply Box.drewN) | (with_reducible apply Box.near) | (with_reducible apply Box.alloc) | ((with_reducible apply box_far); (first | assumption | omega | (simp <;> omega))) | ((with_reducible apply Box.one_set); (with_reducible assumption)) | ((with_reducible apply Box.two_set); (with_reducible assumption)) | ((with_reducible apply Box.three_set); (with_reducible assumption)) | (with_reducible apply Box.set) | (simp only [List.size_toArray, List.length_cons, List.length_nil, Array.size_setIfInBounds] <;> omega)))⟩ ?_
  clear A
  rintro w1 ⟨A, X_p, X_ep, X_r⟩
  obtain ⟨p, h_p⟩ : ∃ p, w.heap.size = p := ⟨_, rfl⟩
  have o_p : w.heap.size ≤ p := by omega
  obtain ⟨ep, h_ep⟩ : ∃ ep, w.heap.size + 1 = ep := ⟨_, rfl⟩
  have o_ep : w.heap.size ≤ ep := by omega
  obtain ⟨r, h_r⟩ : ∃ r, w.heap.size + 1 + 1 = r := ⟨_, rfl⟩
  have o_r : w.heap.size ≤ r := by omega
  rw [h_r] at X_r n_p_r n_r_p n_ep_r n_r_ep
  simp only [h_r]
  clear h_r z_r
  rw [h_ep] at X_ep n_p_ep n_ep_p n_ep_r n_r_ep
  simp only [h_ep]
  clear h_ep z_ep
  rw [h_p] at X_p n_p_ep n_ep_p n_p_r n_r_p
  simp only [h_p]
  clear h_p z_p
  obtain ⟨l_r, c_r, f_r⟩ := id X_r
  obtain ⟨l_ep, c_ep, f_ep⟩ := id X_ep
  obtain ⟨l_p, c_p, f_p⟩ := id X_p
  go_wp2_with (fail)
  refine (HP.out _).mono ?_
  rintro e w2 ⟨rfl, hb⟩
  replace A := below_call A hb
  clear l_r c_r f_r
  replace X_r := X_r.below hb
  clear l_ep c_ep f_ep
  replace X_ep := X_ep.below hb
  clear l_p c_p f_p
  replace X_p := X_p.below hb
  clear hb
  obtain ⟨l_r, c_r, f_r⟩ := id X_r
  obtain ⟨l_ep, c_ep, f_ep⟩ := id X_ep
  obtain ⟨l_p, c_p, f_p⟩ := id X_p
  go_wp2
  refine bodyPost_ret (v := .tuple #[.agg #[.string ⟨#[]⟩, .string ⟨#[]⟩, .bool false, .int .i64 0, .string ⟨#[]⟩, .int .i64 0], .int .i64 6]) (by simp [results, Try.results17, go_sem, c_r]) rfl ⟨rfl, by (repeat (first | (with_reducible exact Below.refl _ _) | (with_reducible assumption) | (with_reducible refine Near.up _ ?_) | (with_reducible refine Below.drew ?_) | (with_reducible refine below_alloc_on ?_ _) | (with_reducible refine below_set_on ?_ (by first | (simp; done) | (simp; omega) | omega) _)))⟩

set_option maxHeartbeats 4000000 in
theorem rnx_on (a b c S A0 A1 A4 : ByteArray) (q A2 : Bool) (i n sl u m A3 A5 E e0 e1 e2 e3 e4 e5 e6 e7 : Int) (hs : bits .and .i64 sl 1 = u) (hm : 1 - u = m) (u0 : 0 ≤ u) (u1 : u ≤ 1) (w : World)
    (HP : Hid (∀ w, Calls Try.prog 8 #[.agg #[.int .i64 e0, .int .i64 e1, .int .i64 e2, .int .i64 e3, .int .i64 e4, .int .i64 e5, .int .i64 e6, .int .i64 e7]] w fun e w' => e = .returned (.tuple #[.string S, .bool true]) ∧ Below w.heap.size w w'))
    (HB : Hid (∀ w, Calls Try.prog 40 #[.agg #[.string a, .string b, .bool q, .int .i64 i, .string c, .int .i64 n], .int .i64 m, .string S] w fun x w' => x = .returned (.tuple #[.agg #[.string A0, .string A1, .bool A2, .int .i64 A3, .string A4, .int .i64 A5], .int .i64 E]) ∧ Below w.heap.size w w')) :
    Calls Try.prog 17 #[.agg #[.string a, .string b, .bool q, .int .i64 i, .string c, .int .i64 n], .int .i64 sl, .agg #[.int .i64 e0, .int .i64 e1, .int .i64 e2, .int .i64 e3, .int .i64 e4, .int .i64 e5, .int .i64 e6, .int .i64 e7]] w fun e w' => e = .returned (.tuple #[.agg #[.string A0, .string A1, .bool A2, .int .i64 A3, .string A4, .int .i64 A5], .int .i64 E]) ∧ Below w.heap.size w w' := by
  have A : Below w.heap.size w w := Below.refl _ _
  go_enter Try.func17, Try.ntmps17
  go_upto_region 1 with (fail)
  have z_p : w.heap.size ≤ w.heap.size := by (have h9 := A.size; omega)
  have z_ep : w.heap.size ≤ w.heap.size + 1 := by (have h9 := A.size; omega)
  have z_r : w.heap.size ≤ w.heap.size + 1 + 1 := by (have h9 := A.size; omega)
  have n_p_ep : ¬ w.heap.size = w.heap.size + 1 := by omega
  have n_ep_p : ¬ w.heap.size + 1 = w.heap.size := by omega
  have n_p_r : ¬ w.heap.size = w.heap.size + 1 + 1 := by omega
  have n_r_p : ¬ w.heap.size + 1 + 1 = w.heap.size := by omega
  have n_ep_r : ¬ w.heap.size + 1 = w.heap.size + 1 + 1 := by omega
  have n_r_ep : ¬ w.heap.size + 1 + 1 = w.heap.size + 1 := by omega
  refine at_world (fun V => Below w.heap.size w V ∧ Box V (w.heap.size) #[.string a, .string b, .bool q, .int .i64 i, .string c, .int .i64 n] ∧ Box V (w.heap.size + 1) #[.int .i64 e0, .int .i64 e1, .int .i64 e2, .int .i64 e3, .int .i64 e4, .int .i64 e5, .int .i64 e6, .int .i64 e7] ∧ Box V (w.heap.size + 1 + 1) #[.string ⟨#[]⟩, .string ⟨#[]⟩, .bool false, .int .i64 0, .string ⟨#[]⟩, .int .i64 0]) ⟨by (repeat (first | (with_reducible exact Below.refl _ _) | (with_reducible assumption) | (with_reducible refine Near.up _ ?_) | (with_reducible refine Below.drew ?_) | (with_reducible refine below_alloc_on ?_ _) | (with_reducible refine below_set_on ?_ (by first | (simp; done) | (simp; omega) | omega) _))), by (repeat (first | (with_reducible assumption) | (with_reducible exact box_new _ _ _) | ((with_reducible apply box_at); (first | (with_reducible rfl) | (simp <;> omega))) | (with_reducible apply Box.drew) | (with_reducible apply Box.drewN) | (with_reducible apply Box.near) | (with_reducible apply Box.alloc) | ((with_reducible apply box_far); (first | assumption | omega | (simp <;> omega))) | ((with_reducible apply Box.one_set); (with_reducible assumption)) | ((with_reducible apply Box.two_set); (with_reducible assumption)) | ((with_reducible apply Box.three_set); (with_reducible assumption)) | (with_reducible apply Box.set) | (simp only [List.size_toArray, List.length_cons, List.length_nil, Array.size_setIfInBounds] <;> omega))), by (repeat (first | (with_reducible assumption) | (with_reducible exact box_new _ _ _) | ((with_reducible apply box_at); (first | (with_reducible rfl) | (simp <;> omega))) | (with_reducible apply Box.drew) | (with_reducible apply Box.drewN) | (with_reducible apply Box.near) | (with_reducible apply Box.alloc) | ((with_reducible apply box_far); (first | assumption | omega | (simp <;> omega))) | ((with_reducible apply Box.one_set); (with_reducible assumption)) | ((with_reducible apply Box.two_set); (with_reducible assumption)) | ((with_reducible apply Box.three_set); (with_reducible assumption)) | (with_reducible apply Box.set) | (simp only [List.size_toArray, List.length_cons, List.length_nil, Array.size_setIfInBounds] <;> omega))), by (repeat (first | (with_reducible assumption) | (with_reducible exact box_new _ _ _) | ((with_reducible apply box_at); (first | (with_reducible rfl) | (simp <;> omega))) | (with_reducible apply Box.drew) | (with_reducible apply Box.drewN) | (with_reducible apply Box.near) | (with_reducible apply Box.alloc) | ((with_reducible apply box_far); (first | assumption | omega | (simp <;> omega))) | ((with_reducible apply Box.one_set); (with_reducible assumption)) | ((with_reducible apply Box.two_set); (with_reducible assumption)) | ((with_reducible apply Box.three_set); (with_reducible assumption)) | (with_reducible apply Box.set) | (simp only [List.size_toArray, List.length_cons, List.length_nil, Array.size_setIfInBounds] <;> omega)))⟩ ?_
  clear A
  rintro w1 ⟨A, X_p, X_ep, X_r⟩
  obtain ⟨p, h_p⟩ : ∃ p, w.heap.size = p := ⟨_, rfl⟩
  have o_p : w.heap.size ≤ p := by omega
  obtain ⟨ep, h_ep⟩ : ∃ ep, w.heap.size + 1 = ep := ⟨_, rfl⟩
  have o_ep : w.heap.size ≤ ep := by omega
  obtain ⟨r, h_r⟩ : ∃ r, w.heap.size + 1 + 1 = r := ⟨_, rfl⟩
  have o_r : w.heap.size ≤ r := by omega
  rw [h_r] at X_r n_p_r n_r_p n_ep_r n_r_ep
  simp only [h_r]
  clear h_r z_r
  rw [h_ep] at X_ep n_p_ep n_ep_p n_ep_r n_r_ep
  simp only [h_ep]
  clear h_ep z_ep
  rw [h_p] at X_p n_p_ep n_ep_p n_p_r n_r_p
  simp only [h_p]
  clear h_p z_p
  obtain ⟨l_r, c_r, f_r⟩ := id X_r
  obtain ⟨l_ep, c_ep, f_ep⟩ := id X_ep
  obtain ⟨l_p, c_p, f_p⟩ := id X_p
  go_wp2_with (fail)
  refine (HP.out _).mono ?_
  rintro e w2 ⟨rfl, hb⟩
  replace A := below_call A hb
  clear l_r c_r f_r
  replace X_r := X_r.below hb
  clear l_ep c_ep f_ep
  replace X_ep := X_ep.below hb
  clear l_p c_p f_p
  replace X_p := X_p.below hb
  clear hb
  obtain ⟨l_r, c_r, f_r⟩ := id X_r
  obtain ⟨l_ep, c_ep, f_ep⟩ := id X_ep
  obtain ⟨l_p, c_p, f_p⟩ := id X_p
  go_wp2_with (fail)
  refine (HB.out _).mono ?_
  rintro e w3 ⟨rfl, hb⟩
  replace A := below_call A hb
  clear l_r c_r f_r
  replace X_r := X_r.below hb
  clear l_ep c_ep f_ep
  replace X_ep := X_ep.below hb
  clear l_p c_p f_p
  replace X_p := X_p.below hb
  clear hb
  obtain ⟨l_r, c_r, f_r⟩ := id X_r
  obtain ⟨l_ep, c_ep, f_ep⟩ := id X_ep
  obtain ⟨l_p, c_p, f_p⟩ := id X_p
  go_wp2
  refine bodyPost_ret (v := .tuple #[.agg #[.string A0, .string A1, .bool A2, .int .i64 A3, .string A4, .int .i64 A5], .int .i64 E]) (by simp [results, Try.results17, go_sem, c_r]) rfl ⟨rfl, by (repeat (first | (with_reducible exact Below.refl _ _) | (with_reducible assumption) | (with_reducible refine Near.up _ ?_) | (with_reducible refine Below.drew ?_) | (with_reducible refine below_alloc_on ?_ _) | (with_reducible refine below_set_on ?_ (by first | (simp; done) | (simp; omega) | omega) _)))⟩

/-- Both begin with the same. -/
theorem next_both (a b c : ByteArray) (q : Bool) (i n sl e0 e1 e2 e3 e4 e5 e6 e7 : Int) : ∃ A0 A1 A2 A3 A4 A5 E,
    (∀ w, Calls Try.prog 16 #[.agg #[.string a, .string b, .bool q, .int .i64 i, .string c, .int .i64 n], .int .i64 sl, .agg #[.int .i64 e0, .int .i64 e1, .int .i64 e2, .int .i64 e3, .int .i64 e4, .int .i64 e5, .int .i64 e6, .int .i64 e7]] w fun e w' => e = .returned (.tuple #[.agg #[.string A0, .string A1, .bool A2, .int .i64 A3, .string A4, .int .i64 A5], .int .i64 E]) ∧ Below w.heap.size w w') ∧
    (∀ w, Calls Try.prog 17 #[.agg #[.string a, .string b, .bool q, .int .i64 i, .string c, .int .i64 n], .int .i64 sl, .agg #[.int .i64 e0, .int .i64 e1, .int .i64 e2, .int .i64 e3, .int .i64 e4, .int .i64 e5, .int .i64 e6, .int .i64 e7]] w fun e w' => e = .returned (.tuple #[.agg #[.string A0, .string A1, .bool A2, .int .i64 A3, .string A4, .int .i64 A5], .int .i64 E]) ∧ Below w.heap.size w w') := by
  have HP := fun w => j_put e0 e1 e2 e3 e4 e5 e6 e7 w
  have HQ := fun w => rj_put e0 e1 e2 e3 e4 e5 e6 e7 w
  have hz := @pt_size e0 e1 e2 e3 e4 e5 e6 e7
  cases he : enB e0 e1 e2 e3 e4 e5 e6 e7
  · rw [he] at HP HQ
    exact ⟨_, _, _, _, _, _, _, fun w => nx_form a b c _ q i n sl _ _ _ _ _ _ _ _ w (Lib.hid HP), fun w => rnx_form a b c _ q i n sl _ _ _ _ _ _ _ _ w (Lib.hid HQ)⟩
  · have hz := hz he
    rw [he] at HP HQ
    have hs := fl_and1 sl
    obtain ⟨u, hu⟩ : ∃ u, sl % 2 = u := ⟨_, rfl⟩
    rw [hu] at hs
    have u0 : 0 ≤ u := by omega
    have u1 : u ≤ 1 := by omega
    cases q
    · exact ⟨_, _, _, _, _, _, _, fun w => nx_on a b c _ _ _ _ false _ i n sl u (1 - u) _ _ _ _ _ _ _ _ _ _ _ hs rfl u0 u1 w (Lib.hid HP) (Lib.hid fun w => fl_begin_ok a b i c n (1 - u) _ (by omega) (by omega) (by omega) w),
        fun w => rnx_on a b c _ _ _ _ false _ i n sl u (1 - u) _ _ _ _ _ _ _ _ _ _ _ hs rfl u0 u1 w (Lib.hid HQ) (Lib.hid fun w => fr_begin_ok a b i c n (1 - u) _ (by omega) (by omega) (by omega) w)⟩
    · exact ⟨_, _, _, _, _, _, _, fun w => nx_on a b c _ _ _ _ true _ i n sl u (1 - u) _ _ _ _ _ _ _ _ _ _ _ hs rfl u0 u1 w (Lib.hid HP) (Lib.hid fun w => fl_begin_busy a b i c n (1 - u) _ w),
        fun w => rnx_on a b c _ _ _ _ true _ i n sl u (1 - u) _ _ _ _ _ _ _ _ _ _ _ hs rfl u0 u1 w (Lib.hid HQ) (Lib.hid fun w => fr_begin_busy a b i c n (1 - u) _ w)⟩
end Go.Proofs.Ytagedifalinklaa
