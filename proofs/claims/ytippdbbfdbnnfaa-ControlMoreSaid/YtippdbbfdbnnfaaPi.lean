/- Contracts of package pi, the document's, and the law package's own. -/
import Derived.Test.YtippdbbfdbnnfaaQLaw
import Derived.Test.YtippdbbfdbnnfaaSatLaws
import Derived.Test.YtippdbbfdbnnfaaBx
import Derived.Deep.CutBlock
namespace Go.Proofs.Ytippdbbfdbnnfaa
open Go.RowKit
set_option linter.unusedVariables false
set_option linter.unusedSimpArgs false
attribute [local go_sem] cell_set_ite Near.cell Near.frozen

def couV (n : Int) : Int := min (max n 0) 19660800
def asV (s fault kp : Int) : Int := flV (addV (mulV kp fault) (couV s)) 65536
def ouV (s fault kp : Int) : Int := min (max (asV s fault kp) 0) 300
def stB (o fault : Int) : Bool := decide ((300 < o ∧ 0 < fault) ∨ (o < 0 ∧ fault < 0))
def suV (s fault ki : Int) : Int := couV (addV s (mulV ki fault))
def piS (s fault kp ki : Int) : Int := if stB (asV (couV s) fault kp) fault = true then couV s else suV (couV s) fault ki
def piO (s fault kp ki : Int) : Int := ouV (piS s fault kp ki) fault kp
theorem cou_bd (n : Int) : 0 ≤ couV n ∧ couV n ≤ 19660800 := by unfold couV; omega
theorem cou_cou (n : Int) : couV (couV n) = couV n := by unfold couV; omega
theorem cou_in {n : Int} (h0 : 0 ≤ n) (h1 : n ≤ 19660800) : couV n = n := by unfold couV; omega

theorem pi_counted (n : Int) (w : World) : Calls Try.prog 125 #[.int .i64 n] w fun e w' => e = .returned (.int .i64 (couV n)) ∧ w = w' := by
  unfold couV
  go_enter Try.func125, Try.ntmps125
  go_wp2
  all_goals go_ret
  all_goals exact ⟨ret_i (by omega), rfl⟩
theorem pi_stuck (o fault : Int) (w : World) : Calls Try.prog 126 #[.int .i64 o, .int .i64 fault] w fun e w' => e = .returned (.bool (stB o fault)) ∧ w = w' := by
  rcases (by omega : (300 < o ∧ 0 < fault) ∨ (300 < o ∧ fault ≤ 0) ∨ (o ≤ 300 ∧ o < 0 ∧ fault < 0) ∨ (o ≤ 300 ∧ o < 0 ∧ 0 ≤ fault) ∨ (0 ≤ o ∧ o ≤ 300)) with ⟨h, h2⟩ | ⟨h, h2⟩ | ⟨h, h2, h3⟩ | ⟨h, h2, h3⟩ | ⟨h, h2⟩
  all_goals
    first
      | rw [show stB o fault = true from decide_eq_true (by omega)]
      | rw [show stB o fault = false from decide_eq_false (by omega)]
    go_enter Try.func126, Try.ntmps126
    go_wp2
    all_goals go_ret
    all_goals first
      | exact ⟨rfl, rfl⟩
      | exact ⟨ret_b (decide_eq_false (by omega)), rfl⟩
theorem pi_asked (s fault kp : Int) (w : World) : Calls Try.prog 127 #[.agg #[.int .i64 s], .int .i64 fault, .int .i64 kp] w fun e w' => e = .returned (.int .i64 (asV s fault kp)) ∧ Below w.heap.size w w' := by
  have A : Below w.heap.size w w := Below.refl _ _
  unfold asV
  have HF := Lib.hid (fun w => l_floor (addV (mulV kp fault) (couV s)) 65536 w w (At.refl w))
  go_enter Try.func127, Try.ntmps127
  go_wp2_with ((first | (go_at_call 134; refine (sat_mul _ _ _).mono ?_; rintro e w' ⟨rfl, rfl⟩) | (go_at_call 135; refine (sat_add _ _ _).mono ?_; rintro e w' ⟨rfl, rfl⟩) | (go_at_call 125; refine (pi_counted _ _).mono ?_; rintro e w' ⟨rfl, rfl⟩)))
  refine (HF.out _).mono ?_
  rintro e w1 ⟨rfl, hb⟩
  replace A : Below w.heap.size w w1 := by (refine below_call ?_ hb; (repeat (first | (with_reducible exact Below.refl _ _) | (with_reducible assumption) | (with_reducible refine Near.up _ ?_) | (with_reducible refine Below.drew ?_) | (with_reducible refine below_alloc_on ?_ _) | (with_reducible refine below_set_on ?_ (by first | (simp; done) | (simp; omega) | omega) _))))
  clear hb
  have z_w1 : w.heap.size ≤ w1.heap.size := A.size
  go_wp2
  all_goals go_ret
  all_goals exact ⟨rfl, A⟩
theorem pi_summed (s fault ki : Int) (w : World) : Calls Try.prog 128 #[.int .i64 s, .int .i64 fault, .int .i64 ki] w fun e w' => e = .returned (.int .i64 (suV s fault ki)) ∧ w = w' := by
  unfold suV
  go_enter Try.func128, Try.ntmps128
  go_wp2_with (first | (go_at_call 134; refine (sat_mul _ _ _).mono ?_; rintro e w' ⟨rfl, rfl⟩) | (go_at_call 135; refine (sat_add _ _ _).mono ?_; rintro e w' ⟨rfl, rfl⟩) | (go_at_call 125; refine (pi_counted _ _).mono ?_; rintro e w' ⟨rfl, rfl⟩))
  all_goals go_ret
  all_goals exact ⟨rfl, rfl⟩
theorem pi_out (s fault kp : Int) (w : World) : Calls Try.prog 129 #[.agg #[.int .i64 s], .int .i64 fault, .int .i64 kp] w fun e w' => e = .returned (.int .i64 (ouV s fault kp)) ∧ Below w.heap.size w w' := by
  have A : Below w.heap.size w w := Below.refl _ _
  unfold ouV
  go_enter Try.func129, Try.ntmps129
  go_wp2_with (fail)
  refine (pi_asked _ _ _ _).mono ?_
  rintro e w1 ⟨rfl, hb⟩
  replace A : Below w.heap.size w w1 := by (refine below_call ?_ hb; (repeat (first | (with_reducible exact Below.refl _ _) | (with_reducible assumption) | (with_reducible refine Near.up _ ?_) | (with_reducible refine Below.drew ?_) | (with_reducible refine below_alloc_on ?_ _) | (with_reducible refine below_set_on ?_ (by first | (simp; done) | (simp; omega) | omega) _))))
  clear hb
  have z_w1 : w.heap.size ≤ w1.heap.size := A.size
  go_wp2
  all_goals go_ret
  all_goals exact ⟨ret_i (by omega), A⟩
set_option maxHeartbeats 1000000 in
theorem pi_step (s fault kp ki : Int) (w : World) : Calls Try.prog 107 #[.agg #[.int .i64 s], .int .i64 fault, .int .i64 kp, .int .i64 ki] w fun e w' => e = .returned (.tuple #[.agg #[.int .i64 (piS s fault kp ki)], .int .i64 (piO s fault kp ki)]) ∧ Below w.heap.size w w' := by
  have A : Below w.heap.size w w := Below.refl _ _
  have HC := Lib.hid (fun w => pi_counted s w)
  have HK := Lib.hid (fun w => pi_stuck (asV (couV s) fault kp) fault w)
  have HO := Lib.hid (fun x w => pi_out x fault kp w)
  unfold piO
  cases h : stB (asV (couV s) fault kp) fault
  · rw [show piS s fault kp ki = suV (couV s) fault ki by unfold piS; rw [if_neg (by rw [h]; simp)]]
    rw [h] at HK
    clear h
    generalize couV s = c at *
    have HS := Lib.hid (fun w => pi_summed c fault ki w)
    generalize suV c fault ki = x at *
    go_enter Try.func107, Try.ntmps107
    go_wp2_with ((go_at_call 125; refine (HC.out _).mono ?_; rintro e w' ⟨rfl, rfl⟩))
    refine (pi_asked _ _ _ _).mono ?_
    rintro e w1 ⟨rfl, hb⟩
    replace A : Below w.heap.size w w1 := by (refine below_call ?_ hb; (repeat (first | (with_reducible exact Below.refl _ _) | (with_reducible assumption) | (with_reducible refine Near.up _ ?_) | (with_reducible refine Below.drew ?_) | (with_reducible refine below_alloc_on ?_ _) | (with_reducible refine below_set_on ?_ (by first | (simp; done) | (simp; omega) | omega) _))))
    replace R := Box.below (g := w.heap.size + 1) (by (repeat (first | (with_reducible assumption) | (with_reducible exact box_new _ _ _) | ((with_reducible apply box_at); (first | (with_reducible rfl) | (simp <;> omega))) | (with_reducible apply Box.drew) | (with_reducible apply Box.drewN) | (with_reducible apply Box.near) | (with_reducible apply Box.alloc) | ((with_reducible apply box_far); (first | assumption | omega | (simp <;> omega))) | ((with_reducible apply Box.one_set); (with_reducible assumption)) | ((with_reducible apply Box.two_set); (with_reducible assumption)) | ((with_reducible apply Box.three_set); (with_reducible assumption)) | (with_reducible apply Box.set) | (simp only [List.size_toArray, List.length_cons, List.length_nil, Array.size_setIfInBounds] <;> omega)))) hb
    (try simp only [List.setIfInBounds_toArray, List.set_cons_zero, List.set_cons_succ] at R)
    (try clear cR fR)
    replace N := Box.below (g := w.heap.size + 1 + 1) (by (repeat (first | (with_reducible assumption) | (with_reducible exact box_new _ _ _) | ((with_reducible apply box_at); (first | (with_reducible rfl) | (simp <;> omega))) | (with_reducible apply Box.drew) | (with_reducible apply Box.drewN) | (with_reducible apply Box.near) | (with_reducible apply Box.alloc) | ((with_reducible apply box_far); (first | assumption | omega | (simp <;> omega))) | ((with_reducible apply Box.one_set); (with_reducible assumption)) | ((with_reducible apply Box.two_set); (with_reducible assumption)) | ((with_reducible apply Box.three_set); (with_reducible assumption)) | (with_reducible apply Box.set) | (simp only [List.size_toArray, List.length_cons, List.length_nil, Array.size_setIfInBounds] <;> omega)))) hb
    (try simp only [List.setIfInBounds_toArray, List.set_cons_zero, List.set_cons_succ] at N)
    (try clear cN fN)
    clear hb
    have z_w1 : w.heap.size ≤ w1.heap.size := A.size
    obtain ⟨lR_w1, cR, fR⟩ := id R
    obtain ⟨lN_w1, cN, fN⟩ := id N
    go_upto_region 4 with (first | (go_at_call 126; refine (HK.out _).mono ?_; rintro e w' ⟨rfl, rfl⟩) | (go_at_call 128; refine (HS.out _).mono ?_; rintro e w' ⟨rfl, rfl⟩))
    have A2 := below_set_on A (p := ⟨w.heap.size + 1 + 1, 0, none⟩) (by simp <;> omega) (.int .i64 x)
    have N2 := N.set (i := 0) (by simp) (.int .i64 x)
    have R2 := R.far (p := ⟨w.heap.size + 1 + 1, 0, none⟩) (by simp) (.int .i64 x)
    simp only [List.setIfInBounds_toArray, List.set_cons_zero] at N2
    generalize w1.setCell ⟨w.heap.size + 1 + 1, 0, none⟩ (.int .i64 x) = w2 at *
    have X1 : Bx w (w.heap.size + 1 + 1) #[.int .i64 x] w2 := ⟨N2, A2, by omega⟩
    clear A N R cR fR cN fN
    go_region_held3 (fun w' => w'.cell? ⟨(w.heap.size + 1 + 1), 0, none⟩ = some (.int .i64 x) ∧ (w.heap.size + 1 + 1) < w'.heap.size ∧ Bx w (w.heap.size + 1 + 1) #[.int .i64 x] w')
      ((exact ⟨Bx.cell (W := w) (g := (w.heap.size + 1 + 1)) (cs := #[.int .i64 x]) (by (repeat (first | assumption | (exact (by assumption : (_ : World).cell? ⟨(w.heap.size + 1 + 1), 0, none⟩ = some (.int .i64 x) ∧ (w.heap.size + 1 + 1) < (_ : World).heap.size ∧ Bx w (w.heap.size + 1 + 1) #[.int .i64 x] (_ : World)).2.2) | (refine Bx.call ?_ hb) | (refine Bx.drew ?_) | (refine Bx.alloc ?_ _) | (refine Bx.far2 ?_ (by first | (simp; done) | (simp; omega) | omega) (by first | (simp; done) | (simp; omega) | omega) _)))) 0 _ rfl, Bx.lt (W := w) (g := (w.heap.size + 1 + 1)) (cs := #[.int .i64 x]) (by (repeat (first | assumption | (exact (by assumption : (_ : World).cell? ⟨(w.heap.size + 1 + 1), 0, none⟩ = some (.int .i64 x) ∧ (w.heap.size + 1 + 1) < (_ : World).heap.size ∧ Bx w (w.heap.size + 1 + 1) #[.int .i64 x] (_ : World)).2.2) | (refine Bx.call ?_ hb) | (refine Bx.drew ?_) | (refine Bx.alloc ?_ _) | (refine Bx.far2 ?_ (by first | (simp; done) | (simp; omega) | omega) (by first | (simp; done) | (simp; omega) | omega) _)))), (by (repeat (first | assumption | (exact (by assumption : (_ : World).cell? ⟨(w.heap.size + 1 + 1), 0, none⟩ = some (.int .i64 x) ∧ (w.heap.size + 1 + 1) < (_ : World).heap.size ∧ Bx w (w.heap.size + 1 + 1) #[.int .i64 x] (_ : World)).2.2) | (refine Bx.call ?_ hb) | (refine Bx.drew ?_) | (refine Bx.alloc ?_ _) | (refine Bx.far2 ?_ (by first | (simp; done) | (simp; omega) | omega) (by first | (simp; done) | (simp; omega) | omega) _))))⟩))
      (first | (go_at_call 129; refine (HO.out _ _).mono ?_; rintro e w4 ⟨rfl, hb⟩; have R4 := R2.drew.below hb; have r0 := R4.one.1; have rf := R4.one.2.1; have rl := R4.1; have A4 := below_call (Below.drew A2) hb))
    go_wp2
    exact bodyPost_ret (v := .tuple #[.agg #[.int .i64 x], .int .i64 (ouV x fault kp)]) (by simp [results, Try.results107, go_sem, r0]) rfl ⟨rfl, by (repeat (first | (with_reducible exact Below.refl _ _) | (with_reducible assumption) | (with_reducible refine Near.up _ ?_) | (with_reducible refine Below.drew ?_) | (with_reducible refine below_alloc_on ?_ _) | (with_reducible refine below_set_on ?_ (by first | (simp; done) | (simp; omega) | omega) _)))⟩
  · rw [show piS s fault kp ki = couV s by unfold piS; rw [if_pos h]]
    rw [h] at HK
    clear h
    generalize couV s = c at *
    go_enter Try.func107, Try.ntmps107
    go_wp2_with ((go_at_call 125; refine (HC.out _).mono ?_; rintro e w' ⟨rfl, rfl⟩))
    refine (pi_asked _ _ _ _).mono ?_
    rintro e w1 ⟨rfl, hb⟩
    replace A : Below w.heap.size w w1 := by (refine below_call ?_ hb; (repeat (first | (with_reducible exact Below.refl _ _) | (with_reducible assumption) | (with_reducible refine Near.up _ ?_) | (with_reducible refine Below.drew ?_) | (with_reducible refine below_alloc_on ?_ _) | (with_reducible refine below_set_on ?_ (by first | (simp; done) | (simp; omega) | omega) _))))
    replace R := Box.below (g := w.heap.size + 1) (by (repeat (first | (with_reducible assumption) | (with_reducible exact box_new _ _ _) | ((with_reducible apply box_at); (first | (with_reducible rfl) | (simp <;> omega))) | (with_reducible apply Box.drew) | (with_reducible apply Box.drewN) | (with_reducible apply Box.near) | (with_reducible apply Box.alloc) | ((with_reducible apply box_far); (first | assumption | omega | (simp <;> omega))) | ((with_reducible apply Box.one_set); (with_reducible assumption)) | ((with_reducible apply Box.two_set); (with_reducible assumption)) | ((with_reducible apply Box.three_set); (with_reducible assumption)) | (with_reducible apply Box.set) | (simp only [List.size_toArray, List.length_cons, List.length_nil, Array.size_setIfInBounds] <;> omega)))) hb
    (try simp only [List.setIfInBounds_toArray, List.set_cons_zero, List.set_cons_succ] at R)
    (try clear cR fR)
    replace N := Box.below (g := w.heap.size + 1 + 1) (by (repeat (first | (with_reducible assumption) | (with_reducible exact box_new _ _ _) | ((with_reducible apply box_at); (first | (with_reducible rfl) | (simp <;> omega))) | (with_reducible apply Box.drew) | (with_reducible apply Box.drewN) | (with_reducible apply Box.near) | (with_reducible apply Box.alloc) | ((with_reducible apply box_far); (first | assumption | omega | (simp <;> omega))) | ((with_reducible apply Box.one_set); (with_reducible assumption)) | ((with_reducible apply Box.two_set); (with_reducible assumption)) | ((with_reducible apply Box.three_set); (with_reducible assumption)) | (with_reducible apply Box.set) | (simp only [List.size_toArray, List.length_cons, List.length_nil, Array.size_setIfInBounds] <;> omega)))) hb
    (try simp only [List.setIfInBounds_toArray, List.set_cons_zero, List.set_cons_succ] at N)
    (try clear cN fN)
    clear hb
    have z_w1 : w.heap.size ≤ w1.heap.size := A.size
    obtain ⟨lR_w1, cR, fR⟩ := id R
    obtain ⟨lN_w1, cN, fN⟩ := id N
    go_upto_region 4 with (first | (go_at_call 126; refine (HK.out _).mono ?_; rintro e w' ⟨rfl, rfl⟩))
    have X1 : Bx w (w.heap.size + 1 + 1) #[.int .i64 c] w1 := ⟨N, A, by omega⟩
    go_region_held3 (fun w' => w'.cell? ⟨(w.heap.size + 1 + 1), 0, none⟩ = some (.int .i64 c) ∧ (w.heap.size + 1 + 1) < w'.heap.size ∧ Bx w (w.heap.size + 1 + 1) #[.int .i64 c] w')
      ((exact ⟨Bx.cell (W := w) (g := (w.heap.size + 1 + 1)) (cs := #[.int .i64 c]) (by (repeat (first | assumption | (exact (by assumption : (_ : World).cell? ⟨(w.heap.size + 1 + 1), 0, none⟩ = some (.int .i64 c) ∧ (w.heap.size + 1 + 1) < (_ : World).heap.size ∧ Bx w (w.heap.size + 1 + 1) #[.int .i64 c] (_ : World)).2.2) | (refine Bx.call ?_ hb) | (refine Bx.drew ?_) | (refine Bx.alloc ?_ _) | (refine Bx.far2 ?_ (by first | (simp; done) | (simp; omega) | omega) (by first | (simp; done) | (simp; omega) | omega) _)))) 0 _ rfl, Bx.lt (W := w) (g := (w.heap.size + 1 + 1)) (cs := #[.int .i64 c]) (by (repeat (first | assumption | (exact (by assumption : (_ : World).cell? ⟨(w.heap.size + 1 + 1), 0, none⟩ = some (.int .i64 c) ∧ (w.heap.size + 1 + 1) < (_ : World).heap.size ∧ Bx w (w.heap.size + 1 + 1) #[.int .i64 c] (_ : World)).2.2) | (refine Bx.call ?_ hb) | (refine Bx.drew ?_) | (refine Bx.alloc ?_ _) | (refine Bx.far2 ?_ (by first | (simp; done) | (simp; omega) | omega) (by first | (simp; done) | (simp; omega) | omega) _)))), (by (repeat (first | assumption | (exact (by assumption : (_ : World).cell? ⟨(w.heap.size + 1 + 1), 0, none⟩ = some (.int .i64 c) ∧ (w.heap.size + 1 + 1) < (_ : World).heap.size ∧ Bx w (w.heap.size + 1 + 1) #[.int .i64 c] (_ : World)).2.2) | (refine Bx.call ?_ hb) | (refine Bx.drew ?_) | (refine Bx.alloc ?_ _) | (refine Bx.far2 ?_ (by first | (simp; done) | (simp; omega) | omega) (by first | (simp; done) | (simp; omega) | omega) _))))⟩))
      (first | (go_at_call 129; refine (HO.out _ _).mono ?_; rintro e w4 ⟨rfl, hb⟩; have R4 := R.drew.below hb; have r0 := R4.one.1; have rf := R4.one.2.1; have rl := R4.1; have A4 := below_call (Below.drew A) hb))
    go_wp2
    exact bodyPost_ret (v := .tuple #[.agg #[.int .i64 c], .int .i64 (ouV c fault kp)]) (by simp [results, Try.results107, go_sem, r0]) rfl ⟨rfl, by (repeat (first | (with_reducible exact Below.refl _ _) | (with_reducible assumption) | (with_reducible refine Near.up _ ?_) | (with_reducible refine Below.drew ?_) | (with_reducible refine below_alloc_on ?_ _) | (with_reducible refine below_set_on ?_ (by first | (simp; done) | (simp; omega) | omega) _)))⟩

/-! ### Where all is small. -/
theorem add_sm {a b : Int} (ha : a.natAbs ≤ 4503599627370496) (hb : b.natAbs ≤ 4503599627370496) : addV a b = a + b := by
  unfold addV; rw [clV_in (n := a) (by omega), clV_in (n := b) (by omega), clV_in (by omega)]
theorem mul_sm2 {a b : Int} (ha : a.natAbs ≤ 4503599627370496) (hb : b.natAbs ≤ 4503599627370496) (h : (a * b).natAbs ≤ 4503599627370496) : mulV a b = a * b := by
  unfold mulV; rw [clV_in (n := a) (by omega), clV_in (n := b) (by omega), clV_in (by omega)]
theorem fl_pos {a b : Int} (a0 : a.natAbs ≤ 9007199254740992) (b0 : 0 < b) (b1 : b ≤ 9007199254740992) : flV a b = a / b := by
  unfold flV; rw [clV_in (n := b) (by omega), if_neg (by omega), clV_in a0]; unfold flo; rw [if_pos b0]
theorem as_sm {s f : Int} (s0 : 0 ≤ s) (s1 : s ≤ 19660800) (f0 : -5000000 ≤ f) (f1 : f ≤ 5000000) : asV s f 16 = (16 * f + s) / 65536 := by
  unfold asV
  rw [cou_in s0 s1, mul_sm2 (by omega) (by omega) (by omega), add_sm (by omega) (by omega), fl_pos (by omega) (by omega) (by omega)]
theorem pi_sm {s f k : Int} (s0 : 0 ≤ s) (s1 : s ≤ 19660800) (f0 : -5000000 ≤ f) (f1 : f ≤ 5000000) (hk : k = 2 ∨ k = 4) :
    piS s f 16 k = if (300 < (16 * f + s) / 65536 ∧ 0 < f) ∨ ((16 * f + s) / 65536 < 0 ∧ f < 0) then s else couV (s + k * f) := by
  have hm : mulV k f = k * f := mul_sm2 (by omega) (by omega) (by rcases hk with rfl | rfl <;> omega)
  have ha : addV s (k * f) = s + k * f := add_sm (by omega) (by rcases hk with rfl | rfl <;> omega)
  unfold piS suV
  rw [cou_in s0 s1, as_sm s0 s1 f0 f1, hm, ha]
  by_cases h : (300 < (16 * f + s) / 65536 ∧ 0 < f) ∨ ((16 * f + s) / 65536 < 0 ∧ f < 0)
  · rw [if_pos h, if_pos (show stB ((16 * f + s) / 65536) f = true from decide_eq_true h)]
  · rw [if_neg h, if_neg (by rw [show stB ((16 * f + s) / 65536) f = false from decide_eq_false h]; simp)]
end Go.Proofs.Ytippdbbfdbnnfaa
