/- Contracts of package keypad: a key, and the first pad. -/
import Derived.Test.YthghangoagponaaDoorKey
namespace Go.Proofs.YthghangoagponaaDoor
open Go.RowKit
set_option linter.unusedVariables false
set_option linter.unusedSimpArgs false
attribute [local go_sem] cell_set_ite Near.cell Near.frozen

def saR (r v s : Int) : Int := if ckV r v s = 0 then r else 60
def saV (r v s : Int) : Int := if ckV r v s = 0 then v else 100
def saS (r v s : Int) : Int := if ckV r v s = 0 then s else 20
theorem ky_start (r v s : Int) (w : World) : Calls Tryd.prog 32 #[.agg #[.int .i64 r, .int .i64 v, .int .i64 s]] w fun e w' => e = .returned (.agg #[.int .i64 0, .int .i64 (saR r v s), .int .i64 (saV r v s), .int .i64 (saS r v s), .bool false]) ∧ Below w.heap.size w w' := by
  have A : Below w.heap.size w w := Below.refl _ _
  have HC := Lib.hid (fun w => pr_check r v s w)
  unfold saR saV saS
  by_cases h : ckV r v s = 0
  · rw [if_pos h, if_pos h, if_pos h]
    rw [h] at HC
    clear h
    go_enter Tryd.func32, Tryd.ntmps32
    go_wp2_with (fail)
    refine (HC.out _).mono ?_
    rintro e w1 ⟨rfl, hb⟩
    replace A : Below w.heap.size w w1 := by (refine below_call ?_ hb; (repeat (first | (with_reducible exact Below.refl _ _) | (with_reducible assumption) | (with_reducible refine Near.up _ ?_) | (with_reducible refine Below.drew ?_) | (with_reducible refine below_alloc_on ?_ _) | (with_reducible refine below_set_on ?_ (by first | (simp; done) | (simp; omega) | omega) _))))
    replace P := Box.below (g := w.heap.size) (by (repeat (first | (with_reducible assumption) | (with_reducible exact box_new _ _ _) | ((with_reducible apply box_at); (first | (with_reducible rfl) | (simp <;> omega))) | (with_reducible apply Box.drew) | (with_reducible apply Box.drewN) | (with_reducible apply Box.near) | (with_reducible apply Box.alloc) | ((with_reducible apply box_far); (first | assumption | omega | (simp <;> omega))) | ((with_reducible apply Box.one_set); (with_reducible assumption)) | ((with_reducible apply Box.two_set); (with_reducible assumption)) | ((with_reducible apply Box.three_set); (with_reducible assumption)) | (with_reducible apply Box.set) | (simp only [List.size_toArray, List.length_cons, List.length_nil, Array.size_setIfInBounds] <;> omega)))) hb
    (try simp only [List.setIfInBounds_toArray, List.set_cons_zero, List.set_cons_succ] at P)
    (try clear cP fP)
    replace Q := Box.below (g := w.heap.size + 1) (by (repeat (first | (with_reducible assumption) | (with_reducible exact box_new _ _ _) | ((with_reducible apply box_at); (first | (with_reducible rfl) | (simp <;> omega))) | (with_reducible apply Box.drew) | (with_reducible apply Box.drewN) | (with_reducible apply Box.near) | (with_reducible apply Box.alloc) | ((with_reducible apply box_far); (first | assumption | omega | (simp <;> omega))) | ((with_reducible apply Box.one_set); (with_reducible assumption)) | ((with_reducible apply Box.two_set); (with_reducible assumption)) | ((with_reducible apply Box.three_set); (with_reducible assumption)) | (with_reducible apply Box.set) | (simp only [List.size_toArray, List.length_cons, List.length_nil, Array.size_setIfInBounds] <;> omega)))) hb
    (try simp only [List.setIfInBounds_toArray, List.set_cons_zero, List.set_cons_succ] at Q)
    (try clear cQ fQ)
    clear hb
    have z_w1 : w.heap.size ≤ w1.heap.size := A.size
    obtain ⟨lP_w1, cP, fP⟩ := id P
    obtain ⟨lQ_w1, cQ, fQ⟩ := id Q
    go_wp2
    refine bodyPost_ret (v := .agg #[.int .i64 0, .int .i64 r, .int .i64 v, .int .i64 s, .bool false]) (by simp [results, Tryd.results32, go_sem, cQ]) rfl ⟨rfl, by (repeat (first | (with_reducible exact Below.refl _ _) | (with_reducible assumption) | (with_reducible refine Near.up _ ?_) | (with_reducible refine Below.drew ?_) | (with_reducible refine below_alloc_on ?_ _) | (with_reducible refine below_set_on ?_ (by first | (simp; done) | (simp; omega) | omega) _)))⟩
  · rw [if_neg h, if_neg h, if_neg h]
    generalize ckV r v s = E at *
    have t1 : (E != 0) = true := by simpa using h
    clear h
    go_enter Tryd.func32, Tryd.ntmps32
    go_wp2_with (fail)
    refine (HC.out _).mono ?_
    rintro e w1 ⟨rfl, hb⟩
    replace A : Below w.heap.size w w1 := by (refine below_call ?_ hb; (repeat (first | (with_reducible exact Below.refl _ _) | (with_reducible assumption) | (with_reducible refine Near.up _ ?_) | (with_reducible refine Below.drew ?_) | (with_reducible refine below_alloc_on ?_ _) | (with_reducible refine below_set_on ?_ (by first | (simp; done) | (simp; omega) | omega) _))))
    replace P := Box.below (g := w.heap.size) (by (repeat (first | (with_reducible assumption) | (with_reducible exact box_new _ _ _) | ((with_reducible apply box_at); (first | (with_reducible rfl) | (simp <;> omega))) | (with_reducible apply Box.drew) | (with_reducible apply Box.drewN) | (with_reducible apply Box.near) | (with_reducible apply Box.alloc) | ((with_reducible apply box_far); (first | assumption | omega | (simp <;> omega))) | ((with_reducible apply Box.one_set); (with_reducible assumption)) | ((with_reducible apply Box.two_set); (with_reducible assumption)) | ((with_reducible apply Box.three_set); (with_reducible assumption)) | (with_reducible apply Box.set) | (simp only [List.size_toArray, List.length_cons, List.length_nil, Array.size_setIfInBounds] <;> omega)))) hb
    (try simp only [List.setIfInBounds_toArray, List.set_cons_zero, List.set_cons_succ] at P)
    (try clear cP fP)
    replace Q := Box.below (g := w.heap.size + 1) (by (repeat (first | (with_reducible assumption) | (with_reducible exact box_new _ _ _) | ((with_reducible apply box_at); (first | (with_reducible rfl) | (simp <;> omega))) | (with_reducible apply Box.drew) | (with_reducible apply Box.drewN) | (with_reducible apply Box.near) | (with_reducible apply Box.alloc) | ((with_reducible apply box_far); (first | assumption | omega | (simp <;> omega))) | ((with_reducible apply Box.one_set); (with_reducible assumption)) | ((with_reducible apply Box.two_set); (with_reducible assumption)) | ((with_reducible apply Box.three_set); (with_reducible assumption)) | (with_reducible apply Box.set) | (simp only [List.size_toArray, List.length_cons, List.length_nil, Array.size_setIfInBounds] <;> omega)))) hb
    (try simp only [List.setIfInBounds_toArray, List.set_cons_zero, List.set_cons_succ] at Q)
    (try clear cQ fQ)
    clear hb
    have z_w1 : w.heap.size ≤ w1.heap.size := A.size
    obtain ⟨lP_w1, cP, fP⟩ := id P
    obtain ⟨lQ_w1, cQ, fQ⟩ := id Q
    go_wp2
    refine bodyPost_ret (v := .agg #[.int .i64 0, .int .i64 60, .int .i64 100, .int .i64 20, .bool false]) (by simp [results, Tryd.results32, go_sem, cQ]) rfl ⟨rfl, by (repeat (first | (with_reducible exact Below.refl _ _) | (with_reducible assumption) | (with_reducible refine Near.up _ ?_) | (with_reducible refine Below.drew ?_) | (with_reducible refine below_alloc_on ?_ _) | (with_reducible refine below_set_on ?_ (by first | (simp; done) | (simp; omega) | omega) _)))⟩
theorem rk_start (r v s : Int) (w : World) : Calls Tryd.prog 33 #[.agg #[.int .i64 r, .int .i64 v, .int .i64 s]] w fun e w' => e = .returned (.agg #[.int .i64 0, .int .i64 (saR r v s), .int .i64 (saV r v s), .int .i64 (saS r v s), .bool false]) ∧ Below w.heap.size w w' := by
  have A : Below w.heap.size w w := Below.refl _ _
  have HC := Lib.hid (fun w => rp_check r v s w)
  unfold saR saV saS
  by_cases h : ckV r v s = 0
  · rw [if_pos h, if_pos h, if_pos h]
    rw [h] at HC
    clear h
    go_enter Tryd.func33, Tryd.ntmps33
    go_wp2_with (fail)
    refine (HC.out _).mono ?_
    rintro e w1 ⟨rfl, hb⟩
    replace A : Below w.heap.size w w1 := by (refine below_call ?_ hb; (repeat (first | (with_reducible exact Below.refl _ _) | (with_reducible assumption) | (with_reducible refine Near.up _ ?_) | (with_reducible refine Below.drew ?_) | (with_reducible refine below_alloc_on ?_ _) | (with_reducible refine below_set_on ?_ (by first | (simp; done) | (simp; omega) | omega) _))))
    replace P := Box.below (g := w.heap.size) (by (repeat (first | (with_reducible assumption) | (with_reducible exact box_new _ _ _) | ((with_reducible apply box_at); (first | (with_reducible rfl) | (simp <;> omega))) | (with_reducible apply Box.drew) | (with_reducible apply Box.drewN) | (with_reducible apply Box.near) | (with_reducible apply Box.alloc) | ((with_reducible apply box_far); (first | assumption | omega | (simp <;> omega))) | ((with_reducible apply Box.one_set); (with_reducible assumption)) | ((with_reducible apply Box.two_set); (with_reducible assumption)) | ((with_reducible apply Box.three_set); (with_reducible assumption)) | (with_reducible apply Box.set) | (simp only [List.size_toArray, List.length_cons, List.length_nil, Array.size_setIfInBounds] <;> omega)))) hb
    (try simp only [List.setIfInBounds_toArray, List.set_cons_zero, List.set_cons_succ] at P)
    (try clear cP fP)
    replace Q := Box.below (g := w.heap.size + 1) (by (repeat (first | (with_reducible assumption) | (with_reducible exact box_new _ _ _) | ((with_reducible apply box_at); (first | (with_reducible rfl) | (simp <;> omega))) | (with_reducible apply Box.drew) | (with_reducible apply Box.drewN) | (with_reducible apply Box.near) | (with_reducible apply Box.alloc) | ((with_reducible apply box_far); (first | assumption | omega | (simp <;> omega))) | ((with_reducible apply Box.one_set); (with_reducible assumption)) | ((with_reducible apply Box.two_set); (with_reducible assumption)) | ((with_reducible apply Box.three_set); (with_reducible assumption)) | (with_reducible apply Box.set) | (simp only [List.size_toArray, List.length_cons, List.length_nil, Array.size_setIfInBounds] <;> omega)))) hb
    (try simp only [List.setIfInBounds_toArray, List.set_cons_zero, List.set_cons_succ] at Q)
    (try clear cQ fQ)
    clear hb
    have z_w1 : w.heap.size ≤ w1.heap.size := A.size
    obtain ⟨lP_w1, cP, fP⟩ := id P
    obtain ⟨lQ_w1, cQ, fQ⟩ := id Q
    go_wp2
    refine bodyPost_ret (v := .agg #[.int .i64 0, .int .i64 r, .int .i64 v, .int .i64 s, .bool false]) (by simp [results, Tryd.results33, go_sem, cQ]) rfl ⟨rfl, by (repeat (first | (with_reducible exact Below.refl _ _) | (with_reducible assumption) | (with_reducible refine Near.up _ ?_) | (with_reducible refine Below.drew ?_) | (with_reducible refine below_alloc_on ?_ _) | (with_reducible refine below_set_on ?_ (by first | (simp; done) | (simp; omega) | omega) _)))⟩
  · rw [if_neg h, if_neg h, if_neg h]
    generalize ckV r v s = E at *
    have t1 : (E != 0) = true := by simpa using h
    clear h
    go_enter Tryd.func33, Tryd.ntmps33
    go_wp2_with (fail)
    refine (HC.out _).mono ?_
    rintro e w1 ⟨rfl, hb⟩
    replace A : Below w.heap.size w w1 := by (refine below_call ?_ hb; (repeat (first | (with_reducible exact Below.refl _ _) | (with_reducible assumption) | (with_reducible refine Near.up _ ?_) | (with_reducible refine Below.drew ?_) | (with_reducible refine below_alloc_on ?_ _) | (with_reducible refine below_set_on ?_ (by first | (simp; done) | (simp; omega) | omega) _))))
    replace P := Box.below (g := w.heap.size) (by (repeat (first | (with_reducible assumption) | (with_reducible exact box_new _ _ _) | ((with_reducible apply box_at); (first | (with_reducible rfl) | (simp <;> omega))) | (with_reducible apply Box.drew) | (with_reducible apply Box.drewN) | (with_reducible apply Box.near) | (with_reducible apply Box.alloc) | ((with_reducible apply box_far); (first | assumption | omega | (simp <;> omega))) | ((with_reducible apply Box.one_set); (with_reducible assumption)) | ((with_reducible apply Box.two_set); (with_reducible assumption)) | ((with_reducible apply Box.three_set); (with_reducible assumption)) | (with_reducible apply Box.set) | (simp only [List.size_toArray, List.length_cons, List.length_nil, Array.size_setIfInBounds] <;> omega)))) hb
    (try simp only [List.setIfInBounds_toArray, List.set_cons_zero, List.set_cons_succ] at P)
    (try clear cP fP)
    replace Q := Box.below (g := w.heap.size + 1) (by (repeat (first | (with_reducible assumption) | (with_reducible exact box_new _ _ _) | ((with_reducible apply box_at); (first | (with_reducible rfl) | (simp <;> omega))) | (with_reducible apply Box.drew) | (with_reducible apply Box.drewN) | (with_reducible apply Box.near) | (with_reducible apply Box.alloc) | ((with_reducible apply box_far); (first | assumption | omega | (simp <;> omega))) | ((with_reducible apply Box.one_set); (with_reducible assumption)) | ((with_reducible apply Box.two_set); (with_reducible assumption)) | ((with_reducible apply Box.three_set); (with_reducible assumption)) | (with_reducible apply Box.set) | (simp only [List.size_toArray, List.length_cons, List.length_nil, Array.size_setIfInBounds] <;> omega)))) hb
    (try simp only [List.setIfInBounds_toArray, List.set_cons_zero, List.set_cons_succ] at Q)
    (try clear cQ fQ)
    clear hb
    have z_w1 : w.heap.size ≤ w1.heap.size := A.size
    obtain ⟨lP_w1, cP, fP⟩ := id P
    obtain ⟨lQ_w1, cQ, fQ⟩ := id Q
    go_wp2
    refine bodyPost_ret (v := .agg #[.int .i64 0, .int .i64 60, .int .i64 100, .int .i64 20, .bool false]) (by simp [results, Tryd.results33, go_sem, cQ]) rfl ⟨rfl, by (repeat (first | (with_reducible exact Below.refl _ _) | (with_reducible assumption) | (with_reducible refine Near.up _ ?_) | (with_reducible refine Below.drew ?_) | (with_reducible refine below_alloc_on ?_ _) | (with_reducible refine below_set_on ?_ (by first | (simp; done) | (simp; omega) | omega) _)))⟩

set_option maxHeartbeats 1000000 in
theorem ky_step (f r v s : Int) (a : Bool) (k m l : Int) (w : World) (hT : TabAt w 2 .i64 kySets) : Calls Tryd.prog 30 #[.agg #[.int .i64 f, .int .i64 r, .int .i64 v, .int .i64 s, .bool a], .int .i64 k, .int .i64 m, .int .i64 l] w fun e w' =>
    e = .returned (.tuple #[.agg #[.int .i64 (tnF k f), .int .i64 (tnR k f r), .int .i64 (tnV k f v), .int .i64 (tnS k f s), .bool (stA k a (cfB m l r v s))],
      .agg #[.int .i64 (wiK k (a && cfB m l r v s)), .int .i64 (wiP k (a && cfB m l r v s) r), .int .i64 (wiP k (a && cfB m l r v s) v), .int .i64 (wiP k (a && cfB m l r v s) s)]]) ∧ Below w.heap.size w w' := by
  have A : Below w.heap.size w w := Below.refl _ _
  have HT := Lib.hid hT
  clear hT
  by_cases hk : k = 0
  · subst hk
    rw [show tnF 0 f = f from rfl, show tnR 0 f r = r from rfl, show tnV 0 f v = v from rfl, show tnS 0 f s = s from rfl, show ∀ c, stA 0 a c = a from fun _ => rfl, show ∀ c, wiK 0 c = 0 from fun _ => rfl, show ∀ c x, wiP 0 c x = 0 from fun _ _ => rfl, show ∀ c x, wiP 0 c x = 0 from fun _ _ => rfl, show ∀ c x, wiP 0 c x = 0 from fun _ _ => rfl]
    go_enter Tryd.func30, Tryd.ntmps30
    go_wp2
    refine bodyPost_ret (v := .tuple #[.agg #[.int .i64 f, .int .i64 r, .int .i64 v, .int .i64 s, .bool a], .agg #[.int .i64 0, .int .i64 0, .int .i64 0, .int .i64 0]]) (by simp [results, Tryd.results30, go_sem]) rfl ⟨rfl, by (repeat (first | (with_reducible exact Below.refl _ _) | (with_reducible assumption) | (with_reducible refine Near.up _ ?_) | (with_reducible refine Below.drew ?_) | (with_reducible refine below_alloc_on ?_ _) | (with_reducible refine below_set_on ?_ (by first | (simp; done) | (simp; omega) | omega) _)))⟩
  · have HC := Lib.hid (fun w => ky_conf f r v s a m l w)
    generalize cfB m l r v s = c at *
    have HU := Lib.hid (fun w h => ky_turned f r v s a k w h)
    have HW := Lib.hid (fun w => ky_wished f r v s a k c w)
    rw [show stA k a c = (decide (k = 4) && c) from if_neg hk]
    generalize tnF k f = F at *
    generalize tnR k f r = R at *
    generalize tnV k f v = V at *
    generalize tnS k f s = S at *
    generalize wiK k (a && c) = K at *
    generalize wiP k (a && c) r = R2 at *
    generalize wiP k (a && c) v = V2 at *
    generalize wiP k (a && c) s = S2 at *
    have t0 : (k == 0) = false := by simpa using hk
    obtain ⟨q, hq, hq2⟩ : ∃ q : Bool, (decide (k = 4) && c) = q ∧ ((k = 4 ∧ c = q) ∨ ((k == 4) = false ∧ q = false)) := by
      by_cases h4 : k = 4
      · exact ⟨c, by simp [h4], .inl ⟨h4, rfl⟩⟩
      · exact ⟨false, by simp [h4], .inr ⟨by simpa using h4, rfl⟩⟩
    rw [hq]
    clear hq
    rcases hq2 with ⟨rfl, rfl⟩ | ⟨h4, rfl⟩
    all_goals
      clear hk
      go_enter Tryd.func30, Tryd.ntmps30
      go_wp2_with (fail)
      refine (HC.out _).mono ?_
      rintro e w1 ⟨rfl, hb⟩
      replace A : Below w.heap.size w w1 := by (refine below_call ?_ hb; (repeat (first | (with_reducible exact Below.refl _ _) | (with_reducible assumption) | (with_reducible refine Near.up _ ?_) | (with_reducible refine Below.drew ?_) | (with_reducible refine below_alloc_on ?_ _) | (with_reducible refine below_set_on ?_ (by first | (simp; done) | (simp; omega) | omega) _))))
      replace P := Box.below (g := w.heap.size) (by (repeat (first | (with_reducible assumption) | (with_reducible exact box_new _ _ _) | ((with_reducible apply box_at); (first | (with_reducible rfl) | (simp <;> omega))) | (with_reducible apply Box.drew) | (with_reducible apply Box.drewN) | (with_reducible apply Box.near) | (with_reducible apply Box.alloc) | ((with_reducible apply box_far); (first | assumption | omega | (simp <;> omega))) | ((with_reducible apply Box.one_set); (with_reducible assumption)) | ((with_reducible apply Box.two_set); (with_reducible assumption)) | ((with_reducible apply Box.three_set); (with_reducible assumption)) | (with_reducible apply Box.set) | (simp only [List.size_toArray, List.length_cons, List.length_nil, Array.size_setIfInBounds] <;> omega)))) hb
      (try simp only [List.setIfInBounds_toArray, List.set_cons_zero, List.set_cons_succ] at P)
      (try clear cP fP)
      replace Q := Box.below (g := w.heap.size + 1) (by (repeat (first | (with_reducible assumption) | (with_reducible exact box_new _ _ _) | ((with_reducible apply box_at); (first | (with_reducible rfl) | (simp <;> omega))) | (with_reducible apply Box.drew) | (with_reducible apply Box.drewN) | (with_reducible apply Box.near) | (with_reducible apply Box.alloc) | ((with_reducible apply box_far); (first | assumption | omega | (simp <;> omega))) | ((with_reducible apply Box.one_set); (with_reducible assumption)) | ((with_reducible apply Box.two_set); (with_reducible assumption)) | ((with_reducible apply Box.three_set); (with_reducible assumption)) | (with_reducible apply Box.set) | (simp only [List.size_toArray, List.length_cons, List.length_nil, Array.size_setIfInBounds] <;> omega)))) hb
      (try simp only [List.setIfInBounds_toArray, List.set_cons_zero, List.set_cons_succ] at Q)
      (try clear cQ fQ)
      replace N := Box.below (g := w.heap.size + 1 + 1) (by (repeat (first | (with_reducible assumption) | (with_reducible exact box_new _ _ _) | ((with_reducible apply box_at); (first | (with_reducible rfl) | (simp <;> omega))) | (with_reducible apply Box.drew) | (with_reducible apply Box.drewN) | (with_reducible apply Box.near) | (with_reducible apply Box.alloc) | ((with_reducible apply box_far); (first | assumption | omega | (simp <;> omega))) | ((with_reducible apply Box.one_set); (with_reducible assumption)) | ((with_reducible apply Box.two_set); (with_reducible assumption)) | ((with_reducible apply Box.three_set); (with_reducible assumption)) | (with_reducible apply Box.set) | (simp only [List.size_toArray, List.length_cons, List.length_nil, Array.size_setIfInBounds] <;> omega)))) hb
      (try simp only [List.setIfInBounds_toArray, List.set_cons_zero, List.set_cons_succ] at N)
      (try clear cN fN)
      clear hb
      have z_w1 : w.heap.size ≤ w1.heap.size := A.size
      obtain ⟨lP_w1, cP, fP⟩ := id P
      obtain ⟨lQ_w1, cQ, fQ⟩ := id Q
      obtain ⟨lN_w1, cN, fN⟩ := id N
      go_wp2_with (fail)
      refine (HU.out _ (HT.out.below (by (repeat (first | (with_reducible exact Below.refl _ _) | (with_reducible assumption) | (with_reducible refine Near.up _ ?_) | (with_reducible refine Below.drew ?_) | (with_reducible refine below_alloc_on ?_ _) | (with_reducible refine below_set_on ?_ (by first | (simp; done) | (simp; omega) | omega) _)))))).mono ?_
      rintro e w2 ⟨rfl, hb⟩
      replace A : Below w.heap.size w w2 := by (refine below_call ?_ hb; (repeat (first | (with_reducible exact Below.refl _ _) | (with_reducible assumption) | (with_reducible refine Near.up _ ?_) | (with_reducible refine Below.drew ?_) | (with_reducible refine below_alloc_on ?_ _) | (with_reducible refine below_set_on ?_ (by first | (simp; done) | (simp; omega) | omega) _))))
      replace P := Box.below (g := w.heap.size) (by (repeat (first | (with_reducible assumption) | (with_reducible exact box_new _ _ _) | ((with_reducible apply box_at); (first | (with_reducible rfl) | (simp <;> omega))) | (with_reducible apply Box.drew) | (with_reducible apply Box.drewN) | (with_reducible apply Box.near) | (with_reducible apply Box.alloc) | ((with_reducible apply box_far); (first | assumption | omega | (simp <;> omega))) | ((with_reducible apply Box.one_set); (with_reducible assumption)) | ((with_reducible apply Box.two_set); (with_reducible assumption)) | ((with_reducible apply Box.three_set); (with_reducible assumption)) | (with_reducible apply Box.set) | (simp only [List.size_toArray, List.length_cons, List.length_nil, Array.size_setIfInBounds] <;> omega)))) hb
      (try simp only [List.setIfInBounds_toArray, List.set_cons_zero, List.set_cons_succ] at P)
      (try clear cP fP)
      replace Q := Box.below (g := w.heap.size + 1) (by (repeat (first | (with_reducible assumption) | (with_reducible exact box_new _ _ _) | ((with_reducible apply box_at); (first | (with_reducible rfl) | (simp <;> omega))) | (with_reducible apply Box.drew) | (with_reducible apply Box.drewN) | (with_reducible apply Box.near) | (with_reducible apply Box.alloc) | ((with_reducible apply box_far); (first | assumption | omega | (simp <;> omega))) | ((with_reducible apply Box.one_set); (with_reducible assumption)) | ((with_reducible apply Box.two_set); (with_reducible assumption)) | ((with_reducible apply Box.three_set); (with_reducible assumption)) | (with_reducible apply Box.set) | (simp only [List.size_toArray, List.length_cons, List.length_nil, Array.size_setIfInBounds] <;> omega)))) hb
      (try simp only [List.setIfInBounds_toArray, List.set_cons_zero, List.set_cons_succ] at Q)
      (try clear cQ fQ)
      replace N := Box.below (g := w.heap.size + 1 + 1) (by (repeat (first | (with_reducible assumption) | (with_reducible exact box_new _ _ _) | ((with_reducible apply box_at); (first | (with_reducible rfl) | (simp <;> omega))) | (with_reducible apply Box.drew) | (with_reducible apply Box.drewN) | (with_reducible apply Box.near) | (with_reducible apply Box.alloc) | ((with_reducible apply box_far); (first | assumption | omega | (simp <;> omega))) | ((with_reducible apply Box.one_set); (with_reducible assumption)) | ((with_reducible apply Box.two_set); (with_reducible assumption)) | ((with_reducible apply Box.three_set); (with_reducible assumption)) | (with_reducible apply Box.set) | (simp only [List.size_toArray, List.length_cons, List.length_nil, Array.size_setIfInBounds] <;> omega)))) hb
      (try simp only [List.setIfInBounds_toArray, List.set_cons_zero, List.set_cons_succ] at N)
      (try clear cN fN)
      clear hb
      have z_w2 : w.heap.size ≤ w2.heap.size := A.size
      obtain ⟨lP_w2, cP, fP⟩ := id P
      obtain ⟨lQ_w2, cQ, fQ⟩ := id Q
      obtain ⟨lN_w2, cN, fN⟩ := id N
      go_wp2
      refine wp_region_calm_tail 5 (by kernel_rfl) (by kernel_rfl) ?_
      simp only [List.take_succ_cons, List.take_zero, List.drop_succ_cons, List.drop_zero]
      repeat (go_big_quiet_step (((go_at_call 46; exact calm_of _ (HW.out _)))))
      refine wpQuiet_nil ?_
      intro _ hw'
      obtain ⟨u, rfl⟩ := hw'
      have Q2 : Box u.at_ (w.heap.size + 1) #[.int .i64 0, .int .i64 0, .int .i64 0, .int .i64 0, .bool false] := by (repeat (first | (with_reducible assumption) | (with_reducible exact box_new _ _ _) | ((with_reducible apply box_at); (first | (with_reducible rfl) | (simp <;> omega))) | (with_reducible apply Box.drew) | (with_reducible apply Box.drewN) | (with_reducible apply Box.near) | (with_reducible apply Box.alloc) | ((with_reducible apply box_far); (first | assumption | omega | (simp <;> omega))) | ((with_reducible apply Box.one_set); (with_reducible assumption)) | ((with_reducible apply Box.two_set); (with_reducible assumption)) | ((with_reducible apply Box.three_set); (with_reducible assumption)) | (with_reducible apply Box.set) | (simp only [List.size_toArray, List.length_cons, List.length_nil, Array.size_setIfInBounds] <;> omega)))
      have N2 : Box u.at_ (w.heap.size + 1 + 1) #[.int .i64 0, .int .i64 0, .int .i64 0, .int .i64 0] := by (repeat (first | (with_reducible assumption) | (with_reducible exact box_new _ _ _) | ((with_reducible apply box_at); (first | (with_reducible rfl) | (simp <;> omega))) | (with_reducible apply Box.drew) | (with_reducible apply Box.drewN) | (with_reducible apply Box.near) | (with_reducible apply Box.alloc) | ((with_reducible apply box_far); (first | assumption | omega | (simp <;> omega))) | ((with_reducible apply Box.one_set); (with_reducible assumption)) | ((with_reducible apply Box.two_set); (with_reducible assumption)) | ((with_reducible apply Box.three_set); (with_reducible assumption)) | (with_reducible apply Box.set) | (simp only [List.size_toArray, List.length_cons, List.length_nil, Array.size_setIfInBounds] <;> omega)))
      obtain ⟨lQ2, cQ2, fQ2⟩ := id Q2
      obtain ⟨lN2, cN2, fN2⟩ := id N2
      go_wp2
      refine bodyPost_ret (v := .tuple #[.agg #[.int .i64 F, .int .i64 R, .int .i64 V, .int .i64 S, .bool _], .agg #[.int .i64 K, .int .i64 R2, .int .i64 V2, .int .i64 S2]]) (by simp [results, Tryd.results30, go_sem, cQ2, cN2]; try rfl) rfl ⟨rfl, by (repeat (first | (with_reducible exact Below.refl _ _) | (with_reducible assumption) | (with_reducible refine Near.up _ ?_) | (with_reducible refine Below.drew ?_) | (with_reducible refine below_alloc_on ?_ _) | (with_reducible refine below_set_on ?_ (by first | (simp; done) | (simp; omega) | omega) _)))⟩
end Go.Proofs.YthghangoagponaaDoor
