/- Contracts of package revive: what is found in the flash. Contracts of package revive: what is begun with; the law package's own. -/
import Derived.Test.YthibaehiponfnaaJour3
import Derived.Test.YthibaehiponfnaaFlash3
import Derived.Test.YthibaehiponfnaaFlashN
import Derived.Deep.LoopGhost
import Derived.Deep.CutBlock

namespace Go.Proofs.Ythibaehiponfnaa
open Go.RowKit
set_option linter.unusedVariables false
set_option linter.unusedSimpArgs false
set_option maxRecDepth 100000
attribute [local go_sem] cell_set_ite Near.cell Near.frozen

/-- Can the programme of an entry go on? -/
def lsB (m r v k : Int) : Bool := decide (m = 3 ∨ m = 4 ∨ m = 5 ∨ m = 7) && decide (ckV r v k = 0)
theorem re_lasts (e0 e1 e2 e3 e4 e5 e6 e7 : Int) (w : World) : Calls Try.prog 18 #[.agg #[.int .i64 e0, .int .i64 e1, .int .i64 e2, .int .i64 e3, .int .i64 e4, .int .i64 e5, .int .i64 e6, .int .i64 e7]] w fun e w' => e = .returned (.bool (lsB e1 e2 e3 e4)) ∧ Below w.heap.size w w' := by
  have HC := Lib.hid (fun w => pr_check e2 e3 e4 w)
  have A : Below w.heap.size w w := Below.refl _ _
  unfold lsB
  generalize ckV e2 e3 e4 = c at *
  rcases (by omega : e1 = 3 ∨ e1 = 4 ∨ e1 = 5 ∨ e1 = 7 ∨ (e1 ≠ 3 ∧ e1 ≠ 4 ∧ e1 ≠ 5 ∧ e1 ≠ 7)) with rfl | rfl | rfl | rfl | ⟨h3, h4, h5, h7⟩
  · rw [decide_eq_true (by omega), Bool.true_and]
    rcases (by omega : c = 0 ∨ c ≠ 0) with rfl | hc
    · go_enter Try.func18, Try.ntmps18
      go_wp2_with (fail)
      refine (HC.out _).mono ?_
      rintro e w1 ⟨rfl, hb⟩
      replace A : Below w.heap.size w w1 := by (refine below_call ?_ hb; (repeat (first | (with_reducible exact Below.refl _ _) | (with_reducible assumption) | (with_reducible refine Near.up _ ?_) | (with_reducible refine Below.drew ?_) | (with_reducible refine below_alloc_on ?_ _) | (with_reducible refine below_set_on ?_ (by first | (simp; done) | (simp; omega) | omega) _))))
      clear hb
      have z_w1 : w.heap.size ≤ w1.heap.size := A.size
      go_wp2
      all_goals go_ret
      all_goals exact ⟨rfl, A⟩
    · have q1 : (c == 0) = false := by simpa using hc
      rw [decide_eq_false hc]
      clear hc
      go_enter Try.func18, Try.ntmps18
      go_wp2_with (fail)
      refine (HC.out _).mono ?_
      rintro e w1 ⟨rfl, hb⟩
      replace A : Below w.heap.size w w1 := by (refine below_call ?_ hb; (repeat (first | (with_reducible exact Below.refl _ _) | (with_reducible assumption) | (with_reducible refine Near.up _ ?_) | (with_reducible refine Below.drew ?_) | (with_reducible refine below_alloc_on ?_ _) | (with_reducible refine below_set_on ?_ (by first | (simp; done) | (simp; omega) | omega) _))))
      clear hb
      have z_w1 : w.heap.size ≤ w1.heap.size := A.size
      go_wp2
      all_goals go_ret
      all_goals exact ⟨rfl, A⟩
  · rw [decide_eq_true (by omega), Bool.true_and]
    rcases (by omega : c = 0 ∨ c ≠ 0) with rfl | hc
    · go_enter Try.func18, Try.ntmps18
      go_wp2_with (fail)
      refine (HC.out _).mono ?_
      rintro e w1 ⟨rfl, hb⟩
      replace A : Below w.heap.size w w1 := by (refine below_call ?_ hb; (repeat (first | (with_reducible exact Below.refl _ _) | (with_reducible assumption) | (with_reducible refine Near.up _ ?_) | (with_reducible refine Below.drew ?_) | (with_reducible refine below_alloc_on ?_ _) | (with_reducible refine below_set_on ?_ (by first | (simp; done) | (simp; omega) | omega) _))))
      clear hb
      have z_w1 : w.heap.size ≤ w1.heap.size := A.size
      go_wp2
      all_goals go_ret
      all_goals exact ⟨rfl, A⟩
    · have q1 : (c == 0) = false := by simpa using hc
      rw [decide_eq_false hc]
      clear hc
      go_enter Try.func18, Try.ntmps18
      go_wp2_with (fail)
      refine (HC.out _).mono ?_
      rintro e w1 ⟨rfl, hb⟩
      replace A : Below w.heap.size w w1 := by (refine below_call ?_ hb; (repeat (first | (with_reducible exact Below.refl _ _) | (with_reducible assumption) | (with_reducible refine Near.up _ ?_) | (with_reducible refine Below.drew ?_) | (with_reducible refine below_alloc_on ?_ _) | (with_reducible refine below_set_on ?_ (by first | (simp; done) | (simp; omega) | omega) _))))
      clear hb
      have z_w1 : w.heap.size ≤ w1.heap.size := A.size
      go_wp2
      all_goals go_ret
      all_goals exact ⟨rfl, A⟩
  · rw [decide_eq_true (by omega), Bool.true_and]
    rcases (by omega : c = 0 ∨ c ≠ 0) with rfl | hc
    · go_enter Try.func18, Try.ntmps18
      go_wp2_with (fail)
      refine (HC.out _).mono ?_
      rintro e w1 ⟨rfl, hb⟩
      replace A : Below w.heap.size w w1 := by (refine below_call ?_ hb; (repeat (first | (with_reducible exact Below.refl _ _) | (with_reducible assumption) | (with_reducible refine Near.up _ ?_) | (with_reducible refine Below.drew ?_) | (with_reducible refine below_alloc_on ?_ _) | (with_reducible refine below_set_on ?_ (by first | (simp; done) | (simp; omega) | omega) _))))
      clear hb
      have z_w1 : w.heap.size ≤ w1.heap.size := A.size
      go_wp2
      all_goals go_ret
      all_goals exact ⟨rfl, A⟩
    · have q1 : (c == 0) = false := by simpa using hc
      rw [decide_eq_false hc]
      clear hc
      go_enter Try.func18, Try.ntmps18
      go_wp2_with (fail)
      refine (HC.out _).mono ?_
      rintro e w1 ⟨rfl, hb⟩
      replace A : Below w.heap.size w w1 := by (refine below_call ?_ hb; (repeat (first | (with_reducible exact Below.refl _ _) | (with_reducible assumption) | (with_reducible refine Near.up _ ?_) | (with_reducible refine Below.drew ?_) | (with_reducible refine below_alloc_on ?_ _) | (with_reducible refine below_set_on ?_ (by first | (simp; done) | (simp; omega) | omega) _))))
      clear hb
      have z_w1 : w.heap.size ≤ w1.heap.size := A.size
      go_wp2
      all_goals go_ret
      all_goals exact ⟨rfl, A⟩
  · rw [decide_eq_true (by omega), Bool.true_and]
    rcases (by omega : c = 0 ∨ c ≠ 0) with rfl | hc
    · go_enter Try.func18, Try.ntmps18
      go_wp2_with (fail)
      refine (HC.out _).mono ?_
      rintro e w1 ⟨rfl, hb⟩
      replace A : Below w.heap.size w w1 := by (refine below_call ?_ hb; (repeat (first | (with_reducible exact Below.refl _ _) | (with_reducible assumption) | (with_reducible refine Near.up _ ?_) | (with_reducible refine Below.drew ?_) | (with_reducible refine below_alloc_on ?_ _) | (with_reducible refine below_set_on ?_ (by first | (simp; done) | (simp; omega) | omega) _))))
      clear hb
      have z_w1 : w.heap.size ≤ w1.heap.size := A.size
      go_wp2
      all_goals go_ret
      all_goals exact ⟨rfl, A⟩
    · have q1 : (c == 0) = false := by simpa using hc
      rw [decide_eq_false hc]
      clear hc
      go_enter Try.func18, Try.ntmps18
      go_wp2_with (fail)
      refine (HC.out _).mono ?_
      rintro e w1 ⟨rfl, hb⟩
      replace A : Below w.heap.size w w1 := by (refine below_call ?_ hb; (repeat (first | (with_reducible exact Below.refl _ _) | (with_reducible assumption) | (with_reducible refine Near.up _ ?_) | (with_reducible refine Below.drew ?_) | (with_reducible refine below_alloc_on ?_ _) | (with_reducible refine below_set_on ?_ (by first | (simp; done) | (simp; omega) | omega) _))))
      clear hb
      have z_w1 : w.heap.size ≤ w1.heap.size := A.size
      go_wp2
      all_goals go_ret
      all_goals exact ⟨rfl, A⟩
  · have q3 : (e1 == 3) = false := by simpa using h3
    have q4 : (e1 == 4) = false := by simpa using h4
    have q5 : (e1 == 5) = false := by simpa using h5
    have q7 : (e1 == 7) = false := by simpa using h7
    rw [decide_eq_false (by omega), Bool.false_and]
    clear h3 h4 h5 h7
    go_enter Try.func18, Try.ntmps18
    go_wp2
    all_goals go_ret
    all_goals exact ⟨rfl, by (repeat (first | (with_reducible exact Below.refl _ _) | (with_reducible assumption) | (with_reducible refine Near.up _ ?_) | (with_reducible refine Below.drew ?_) | (with_reducible refine below_alloc_on ?_ _) | (with_reducible refine below_set_on ?_ (by first | (simp; done) | (simp; omega) | omega) _)))⟩

set_option maxHeartbeats 4000000 in
theorem bo_lost (a b c : ByteArray) (q : Bool) (i n : Int) (e0 e1 e2 e3 e4 e5 e6 e7 sl : Int) (w : World)
    (HN : Hid (∀ w, Calls Try.prog 17 #[.agg #[.string a, .string b]] w fun e w' => e = .returned (.tuple #[.agg #[.int .i64 e0, .int .i64 e1, .int .i64 e2, .int .i64 e3, .int .i64 e4, .int .i64 e5, .int .i64 e6, .int .i64 e7], .int .i64 sl, .bool false]) ∧ Below w.heap.size w w')) :
    Calls Try.prog 8 #[.agg #[.string a, .string b, .bool q, .int .i64 i, .string c, .int .i64 n]] w fun e w' => e = .returned (.agg #[.int .i64 1, .int .i64 0, .int .i64 0, .int .i64 0, .int .i64 0, .int .i64 0, .int .i64 0, .int .i64 0, .int .i64 0, .bool true]) ∧ Below w.heap.size w w' := by
  have A : Below w.heap.size w w := Below.refl _ _
  go_enter Try.func8, Try.ntmps8
  go_wp2_with (fail)
  refine (HN.out _).mono ?_
  rintro e w1 ⟨rfl, hb⟩
  replace A : Below w.heap.size w w1 := by (refine below_call ?_ hb; (repeat (first | (with_reducible exact Below.refl _ _) | (with_reducible assumption) | (with_reducible refine Near.up _ ?_) | (with_reducible refine Below.drew ?_) | (with_reducible refine below_alloc_on ?_ _) | (with_reducible refine below_set_on ?_ (by first | (simp; done) | (simp; omega) | omega) _))))
  replace P := Box.below (g := w.heap.size) (by (repeat (first | (with_reducible assumption) | (with_reducible exact box_new _ _ _) | ((with_reducible apply box_at); (first | (with_reducible rfl) | (simp <;> omega))) | (with_reducible apply Box.drew) | (with_reducible apply Box.drewN) | (with_reducible apply Box.near) | (with_reducible apply Box.alloc) | ((with_reducible apply box_far); (first | assumption | omega | (simp <;> omega))) | ((with_reducible apply Box.one_set); (with_reducible assumption)) | ((with_reducible apply Box.two_set); (with_reducible assumption)) | ((with_reducible apply Box.three_set); (with_reducible assumption)) | (with_reducible apply Box.set) | (simp only [List.size_toArray, List.length_cons, List.length_nil, Array.size_setIfInBounds] <;> omega)))) hb
  (try simp only [List.setIfInBounds_toArray, List.set_cons_zero, List.set_cons_succ] at P)
  (try clear cP fP)
  replace R := Box.below (g := w.heap.size + 1) (by (repeat (first | (with_reducible assumption) | (with_reducible exact box_new _ _ _) | ((with_reducible apply box_at); (first | (with_reducible rfl) | (simp <;> omega))) | (with_reducible apply Box.drew) | (with_reducible apply Box.drewN) | (with_reducible apply Box.near) | (with_reducible apply Box.alloc) | ((with_reducible apply box_far); (first | assumption | omega | (simp <;> omega))) | ((with_reducible apply Box.one_set); (with_reducible assumption)) | ((with_reducible apply Box.two_set); (with_reducible assumption)) | ((with_reducible apply Box.three_set); (with_reducible assumption)) | (with_reducible apply Box.set) | (simp only [List.size_toArray, List.length_cons, List.length_nil, Array.size_setIfInBounds] <;> omega)))) hb
  (try simp only [List.setIfInBounds_toArray, List.set_cons_zero, List.set_cons_succ] at R)
  (try clear cR fR)
  clear hb
  have z_w1 : w.heap.size ≤ w1.heap.size := A.size
  obtain ⟨lP_w1, cP, fP⟩ := id P
  obtain ⟨lR_w1, cR, fR⟩ := id R
  go_upto_region 2 with (fail)
  refine at_world (fun W => Below w.heap.size w W ∧ Box W (w.heap.size + 1) #[.int .i64 0, .int .i64 0, .int .i64 0, .int .i64 0, .int .i64 0, .int .i64 0, .int .i64 0, .int .i64 0, .int .i64 0, .bool false] ∧ Box W w1.heap.size #[.int .i64 e0, .int .i64 e1, .int .i64 e2, .int .i64 e3, .int .i64 e4, .int .i64 e5, .int .i64 e6, .int .i64 e7]) ⟨by (repeat (first | (with_reducible exact Below.refl _ _) | (with_reducible assumption) | (with_reducible refine Near.up _ ?_) | (with_reducible refine Below.drew ?_) | (with_reducible refine below_alloc_on ?_ _) | (with_reducible refine below_set_on ?_ (by first | (simp; done) | (simp; omega) | omega) _))), by (repeat (first | (with_reducible assumption) | (with_reducible exact box_new _ _ _) | ((with_reducible apply box_at); (first | (with_reducible rfl) | (simp <;> omega))) | (with_reducible apply Box.drew) | (with_reducible apply Box.drewN) | (with_reducible apply Box.near) | (with_reducible apply Box.alloc) | ((with_reducible apply box_far); (first | assumption | omega | (simp <;> omega))) | ((with_reducible apply Box.one_set); (with_reducible assumption)) | ((with_reducible apply Box.two_set); (with_reducible assumption)) | ((with_reducible apply Box.three_set); (with_reducible assumption)) | (with_reducible apply Box.set) | (simp only [List.size_toArray, List.length_cons, List.length_nil, Array.size_setIfInBounds] <;> omega))), by (repeat (first | (with_reducible assumption) | (with_reducible exact box_new _ _ _) | ((with_reducible apply box_at); (first | (with_reducible rfl) | (simp <;> omega))) | (with_reducible apply Box.drew) | (with_reducible apply Box.drewN) | (with_reducible apply Box.near) | (with_reducible apply Box.alloc) | ((with_reducible apply box_far); (first | assumption | omega | (simp <;> omega))) | ((with_reducible apply Box.one_set); (with_reducible assumption)) | ((with_reducible apply Box.two_set); (with_reducible assumption)) | ((with_reducible apply Box.three_set); (with_reducible assumption)) | (with_reducible apply Box.set) | (simp only [List.size_toArray, List.length_cons, List.length_nil, Array.size_setIfInBounds] <;> omega)))⟩ ?_
  rintro w2 ⟨A2, R2, E2⟩
  have n1 : ¬ w.heap.size + 1 = w1.heap.size := by omega
  have n0 : w.heap.size ≤ w.heap.size + 1 := by omega
  have n3 : w.heap.size ≤ w1.heap.size := by omega
  clear A R P cP fP cR fR lP_w1 lR_w1 z_w1 HN
  generalize w1.heap.size = g at *
  generalize w.heap.size + 1 = r at *
  have n1' : ¬ g = r := fun h => n1 h.symm
  have A := A2
  have R := R2
  have E := E2
  obtain ⟨lR, cR, fR⟩ := id R2
  obtain ⟨lE, cE, fE⟩ := id E2
  clear A2 R2 E2
  go_wp2
  all_goals refine bodyPost_ret (v := .agg #[.int .i64 1, .int .i64 0, .int .i64 0, .int .i64 0, .int .i64 0, .int .i64 0, .int .i64 0, .int .i64 0, .int .i64 0, .bool true]) (by simp [results, Try.results8, go_sem, cR]) rfl ⟨rfl, by (repeat (first | (with_reducible exact Below.refl _ _) | (with_reducible assumption) | (with_reducible refine Near.up _ ?_) | (with_reducible refine Below.drew ?_) | (with_reducible refine below_alloc_on ?_ _) | (with_reducible refine below_set_on ?_ (by first | (simp; done) | (simp; omega) | omega) _)))⟩

set_option maxHeartbeats 4000000 in
theorem bo_idle (a b c : ByteArray) (q : Bool) (i n : Int) (e0 e1 e2 e3 e4 e5 e6 e7 sl : Int) (w : World)
    (HN : Hid (∀ w, Calls Try.prog 17 #[.agg #[.string a, .string b]] w fun e w' => e = .returned (.tuple #[.agg #[.int .i64 e0, .int .i64 e1, .int .i64 e2, .int .i64 e3, .int .i64 e4, .int .i64 e5, .int .i64 e6, .int .i64 e7], .int .i64 sl, .bool true]) ∧ Below w.heap.size w w')) (HL : Hid (∀ w, Calls Try.prog 18 #[.agg #[.int .i64 e0, .int .i64 e1, .int .i64 e2, .int .i64 e3, .int .i64 e4, .int .i64 e5, .int .i64 e6, .int .i64 e7]] w fun e w' => e = .returned (.bool false) ∧ Below w.heap.size w w')) :
    Calls Try.prog 8 #[.agg #[.string a, .string b, .bool q, .int .i64 i, .string c, .int .i64 n]] w fun e w' => e = .returned (.agg #[.int .i64 1, .int .i64 0, .int .i64 0, .int .i64 0, .int .i64 e5, .int .i64 e6, .int .i64 e7, .int .i64 e0, .int .i64 sl, .bool false]) ∧ Below w.heap.size w w' := by
  have A : Below w.heap.size w w := Below.refl _ _
  go_enter Try.func8, Try.ntmps8
  go_wp2_with (fail)
  refine (HN.out _).mono ?_
  rintro e w1 ⟨rfl, hb⟩
  replace A : Below w.heap.size w w1 := by (refine below_call ?_ hb; (repeat (first | (with_reducible exact Below.refl _ _) | (with_reducible assumption) | (with_reducible refine Near.up _ ?_) | (with_reducible refine Below.drew ?_) | (with_reducible refine below_alloc_on ?_ _) | (with_reducible refine below_set_on ?_ (by first | (simp; done) | (simp; omega) | omega) _))))
  replace P := Box.below (g := w.heap.size) (by (repeat (first | (with_reducible assumption) | (with_reducible exact box_new _ _ _) | ((with_reducible apply box_at); (first | (with_reducible rfl) | (simp <;> omega))) | (with_reducible apply Box.drew) | (with_reducible apply Box.drewN) | (with_reducible apply Box.near) | (with_reducible apply Box.alloc) | ((with_reducible apply box_far); (first | assumption | omega | (simp <;> omega))) | ((with_reducible apply Box.one_set); (with_reducible assumption)) | ((with_reducible apply Box.two_set); (with_reducible assumption)) | ((with_reducible apply Box.three_set); (with_reducible assumption)) | (with_reducible apply Box.set) | (simp only [List.size_toArray, List.length_cons, List.length_nil, Array.size_setIfInBounds] <;> omega)))) hb
  (try simp only [List.setIfInBounds_toArray, List.set_cons_zero, List.set_cons_succ] at P)
  (try clear cP fP)
  replace R := Box.below (g := w.heap.size + 1) (by (repeat (first | (with_reducible assumption) | (with_reducible exact box_new _ _ _) | ((with_reducible apply box_at); (first | (with_reducible rfl) | (simp <;> omega))) | (with_reducible apply Box.drew) | (with_reducible apply Box.drewN) | (with_reducible apply Box.near) | (with_reducible apply Box.alloc) | ((with_reducible apply box_far); (first | assumption | omega | (simp <;> omega))) | ((with_reducible apply Box.one_set); (with_reducible assumption)) | ((with_reducible apply Box.two_set); (with_reducible assumption)) | ((with_reducible apply Box.three_set); (with_reducible assumption)) | (with_reducible apply Box.set) | (simp only [List.size_toArray, List.length_cons, List.length_nil, Array.size_setIfInBounds] <;> omega)))) hb
  (try simp only [List.setIfInBounds_toArray, List.set_cons_zero, List.set_cons_succ] at R)
  (try clear cR fR)
  clear hb
  have z_w1 : w.heap.size ≤ w1.heap.size := A.size
  obtain ⟨lP_w1, cP, fP⟩ := id P
  obtain ⟨lR_w1, cR, fR⟩ := id R
  go_upto_region 2 with (fail)
  refine at_world (fun W => Below w.heap.size w W ∧ Box W (w.heap.size + 1) #[.int .i64 0, .int .i64 0, .int .i64 0, .int .i64 0, .int .i64 0, .int .i64 0, .int .i64 0, .int .i64 0, .int .i64 0, .bool false] ∧ Box W w1.heap.size #[.int .i64 e0, .int .i64 e1, .int .i64 e2, .int .i64 e3, .int .i64 e4, .int .i64 e5, .int .i64 e6, .int .i64 e7]) ⟨by (repeat (first | (with_reducible exact Below.refl _ _) | (with_reducible assumption) | (with_reducible refine Near.up _ ?_) | (with_reducible refine Below.drew ?_) | (with_reducible refine below_alloc_on ?_ _) | (with_reducible refine below_set_on ?_ (by first | (simp; done) | (simp; omega) | omega) _))), by (repeat (first | (with_reducible assumption) | (with_reducible exact box_new _ _ _) | ((with_reducible apply box_at); (first | (with_reducible rfl) | (simp <;> omega))) | (with_reducible apply Box.drew) | (with_reducible apply Box.drewN) | (with_reducible apply Box.near) | (with_reducible apply Box.alloc) | ((with_reducible apply box_far); (first | assumption | omega | (simp <;> omega))) | ((with_reducible apply Box.one_set); (with_reducible assumption)) | ((with_reducible apply Box.two_set); (with_reducible assumption)) | ((with_reducible apply Box.three_set); (with_reducible assumption)) | (with_reducible apply Box.set) | (simp only [List.size_toArray, List.length_cons, List.length_nil, Array.size_setIfInBounds] <;> omega))), by (repeat (first | (with_reducible assumption) | (with_reducible exact box_new _ _ _) | ((with_reducible apply box_at); (first | (with_reducible rfl) | (simp <;> omega))) | (with_reducible apply Box.drew) | (with_reducible apply Box.drewN) | (with_reducible apply Box.near) | (with_reducible apply Box.alloc) | ((with_reducible apply box_far); (first | assumption | omega | (simp <;> omega))) | ((with_reducible apply Box.one_set); (with_reducible assumption)) | ((with_reducible apply Box.two_set); (with_reducible assumption)) | ((with_reducible apply Box.three_set); (with_reducible assumption)) | (with_reducible apply Box.set) | (simp only [List.size_toArray, List.length_cons, List.length_nil, Array.size_setIfInBounds] <;> omega)))⟩ ?_
  rintro w2 ⟨A2, R2, E2⟩
  have n1 : ¬ w.heap.size + 1 = w1.heap.size := by omega
  have n0 : w.heap.size ≤ w.heap.size + 1 := by omega
  have n3 : w.heap.size ≤ w1.heap.size := by omega
  clear A R P cP fP cR fR lP_w1 lR_w1 z_w1 HN
  generalize w1.heap.size = g at *
  generalize w.heap.size + 1 = r at *
  have n1' : ¬ g = r := fun h => n1 h.symm
  have A := A2
  have R := R2
  have E := E2
  obtain ⟨lR, cR, fR⟩ := id R2
  obtain ⟨lE, cE, fE⟩ := id E2
  clear A2 R2 E2
  go_wp2_with (fail)
  refine (HL.out _).mono ?_
  rintro e w3 ⟨rfl, hb⟩
  replace A : Below w.heap.size w w3 := by (refine below_call ?_ hb; (repeat (first | (with_reducible exact Below.refl _ _) | (with_reducible assumption) | (with_reducible refine Near.up _ ?_) | (with_reducible refine Below.drew ?_) | (with_reducible refine below_alloc_on ?_ _) | (with_reducible refine below_set_on ?_ (by first | (simp; done) | (simp; omega) | omega) _))))
  replace R := Box.below (g := r) (by (repeat (first | (with_reducible assumption) | (with_reducible exact box_new _ _ _) | ((with_reducible apply box_at); (first | (with_reducible rfl) | (simp <;> omega))) | (with_reducible apply Box.drew) | (with_reducible apply Box.drewN) | (with_reducible apply Box.near) | (with_reducible apply Box.alloc) | ((with_reducible apply box_far); (first | assumption | omega | (simp <;> omega))) | ((with_reducible apply Box.one_set); (with_reducible assumption)) | ((with_reducible apply Box.two_set); (with_reducible assumption)) | ((with_reducible apply Box.three_set); (with_reducible assumption)) | (with_reducible apply Box.set) | (simp only [List.size_toArray, List.length_cons, List.length_nil, Array.size_setIfInBounds] <;> omega)))) hb
  (try simp only [List.setIfInBounds_toArray, List.set_cons_zero, List.set_cons_succ] at R)
  (try clear cR fR)
  replace E := Box.below (g := g) (by (repeat (first | (with_reducible assumption) | (with_reducible exact box_new _ _ _) | ((with_reducible apply box_at); (first | (with_reducible rfl) | (simp <;> omega))) | (with_reducible apply Box.drew) | (with_reducible apply Box.drewN) | (with_reducible apply Box.near) | (with_reducible apply Box.alloc) | ((with_reducible apply box_far); (first | assumption | omega | (simp <;> omega))) | ((with_reducible apply Box.one_set); (with_reducible assumption)) | ((with_reducible apply Box.two_set); (with_reducible assumption)) | ((with_reducible apply Box.three_set); (with_reducible assumption)) | (with_reducible apply Box.set) | (simp only [List.size_toArray, List.length_cons, List.length_nil, Array.size_setIfInBounds] <;> omega)))) hb
  (try simp only [List.setIfInBounds_toArray, List.set_cons_zero, List.set_cons_succ] at E)
  (try clear cE fE)
  replace F := Box.below (g := w2.heap.size) (by (repeat (first | (with_reducible assumption) | (with_reducible exact box_new _ _ _) | ((with_reducible apply box_at); (first | (with_reducible rfl) | (simp <;> omega))) | (with_reducible apply Box.drew) | (with_reducible apply Box.drewN) | (with_reducible apply Box.near) | (with_reducible apply Box.alloc) | ((with_reducible apply box_far); (first | assumption | omega | (simp <;> omega))) | ((with_reducible apply Box.one_set); (with_reducible assumption)) | ((with_reducible apply Box.two_set); (with_reducible assumption)) | ((with_reducible apply Box.three_set); (with_reducible assumption)) | (with_reducible apply Box.set) | (simp only [List.size_toArray, List.length_cons, List.length_nil, Array.size_setIfInBounds] <;> omega)))) hb
  (try simp only [List.setIfInBounds_toArray, List.set_cons_zero, List.set_cons_succ] at F)
  (try clear cF fF)
  clear hb
  have z_w3 : w.heap.size ≤ w3.heap.size := A.size
  obtain ⟨lR_w3, cR, fR⟩ := id R
  obtain ⟨lE_w3, cE, fE⟩ := id E
  obtain ⟨lF_w3, cF, fF⟩ := id F
  have m1 : ¬ r = w2.heap.size := by omega
  have m2 : ¬ g = w2.heap.size := by omega
  have m3 : ¬ w2.heap.size = r := by omega
  have m4 : ¬ w2.heap.size = g := by omega
  have m5 : w.heap.size ≤ w2.heap.size := by omega
  generalize w2.heap.size = f at *
  go_wp2
  all_goals refine bodyPost_ret (v := .agg #[.int .i64 1, .int .i64 0, .int .i64 0, .int .i64 0, .int .i64 e5, .int .i64 e6, .int .i64 e7, .int .i64 e0, .int .i64 sl, .bool false]) (by simp [results, Try.results8, go_sem, cR]) rfl ⟨rfl, by (repeat (first | (with_reducible exact Below.refl _ _) | (with_reducible assumption) | (with_reducible refine Near.up _ ?_) | (with_reducible refine Below.drew ?_) | (with_reducible refine below_alloc_on ?_ _) | (with_reducible refine below_set_on ?_ (by first | (simp; done) | (simp; omega) | omega) _)))⟩

set_option maxHeartbeats 4000000 in
theorem bo_pause (a b c : ByteArray) (q : Bool) (i n : Int) (e0 e1 e2 e3 e4 e5 e6 e7 sl : Int) (w : World)
    (HN : Hid (∀ w, Calls Try.prog 17 #[.agg #[.string a, .string b]] w fun e w' => e = .returned (.tuple #[.agg #[.int .i64 e0, .int .i64 e1, .int .i64 e2, .int .i64 e3, .int .i64 e4, .int .i64 e5, .int .i64 e6, .int .i64 e7], .int .i64 sl, .bool true]) ∧ Below w.heap.size w w')) (HL : Hid (∀ w, Calls Try.prog 18 #[.agg #[.int .i64 e0, .int .i64 e1, .int .i64 e2, .int .i64 e3, .int .i64 e4, .int .i64 e5, .int .i64 e6, .int .i64 e7]] w fun e w' => e = .returned (.bool true) ∧ Below w.heap.size w w')) :
    Calls Try.prog 8 #[.agg #[.string a, .string b, .bool q, .int .i64 i, .string c, .int .i64 n]] w fun e w' => e = .returned (.agg #[.int .i64 4, .int .i64 e2, .int .i64 e3, .int .i64 e4, .int .i64 e5, .int .i64 e6, .int .i64 e7, .int .i64 e0, .int .i64 sl, .bool false]) ∧ Below w.heap.size w w' := by
  have A : Below w.heap.size w w := Below.refl _ _
  go_enter Try.func8, Try.ntmps8
  go_wp2_with (fail)
  refine (HN.out _).mono ?_
  rintro e w1 ⟨rfl, hb⟩
  replace A : Below w.heap.size w w1 := by (refine below_call ?_ hb; (repeat (first | (with_reducible exact Below.refl _ _) | (with_reducible assumption) | (with_reducible refine Near.up _ ?_) | (with_reducible refine Below.drew ?_) | (with_reducible refine below_alloc_on ?_ _) | (with_reducible refine below_set_on ?_ (by first | (simp; done) | (simp; omega) | omega) _))))
  replace P := Box.below (g := w.heap.size) (by (repeat (first | (with_reducible assumption) | (with_reducible exact box_new _ _ _) | ((with_reducible apply box_at); (first | (with_reducible rfl) | (simp <;> omega))) | (with_reducible apply Box.drew) | (with_reducible apply Box.drewN) | (with_reducible apply Box.near) | (with_reducible apply Box.alloc) | ((with_reducible apply box_far); (first | assumption | omega | (simp <;> omega))) | ((with_reducible apply Box.one_set); (with_reducible assumption)) | ((with_reducible apply Box.two_set); (with_reducible assumption)) | ((with_reducible apply Box.three_set); (with_reducible assumption)) | (with_reducible apply Box.set) | (simp only [List.size_toArray, List.length_cons, List.length_nil, Array.size_setIfInBounds] <;> omega)))) hb
  (try simp only [List.setIfInBounds_toArray, List.set_cons_zero, List.set_cons_succ] at P)
  (try clear cP fP)
  replace R := Box.below (g := w.heap.size + 1) (by (repeat (first | (with_reducible assumption) | (with_reducible exact box_new _ _ _) | ((with_reducible apply box_at); (first | (with_reducible rfl) | (simp <;> omega))) | (with_reducible apply Box.drew) | (with_reducible apply Box.drewN) | (with_reducible apply Box.near) | (with_reducible apply Box.alloc) | ((with_reducible apply box_far); (first | assumption | omega | (simp <;> omega))) | ((with_reducible apply Box.one_set); (with_reducible assumption)) | ((with_reducible apply Box.two_set); (with_reducible assumption)) | ((with_reducible apply Box.three_set); (with_reducible assumption)) | (with_reducible apply Box.set) | (simp only [List.size_toArray, List.length_cons, List.length_nil, Array.size_setIfInBounds] <;> omega)))) hb
  (try simp only [List.setIfInBounds_toArray, List.set_cons_zero, List.set_cons_succ] at R)
  (try clear cR fR)
  clear hb
  have z_w1 : w.heap.size ≤ w1.heap.size := A.size
  obtain ⟨lP_w1, cP, fP⟩ := id P
  obtain ⟨lR_w1, cR, fR⟩ := id R
  go_upto_region 2 with (fail)
  refine at_world (fun W => Below w.heap.size w W ∧ Box W (w.heap.size + 1) #[.int .i64 0, .int .i64 0, .int .i64 0, .int .i64 0, .int .i64 0, .int .i64 0, .int .i64 0, .int .i64 0, .int .i64 0, .bool false] ∧ Box W w1.heap.size #[.int .i64 e0, .int .i64 e1, .int .i64 e2, .int .i64 e3, .int .i64 e4, .int .i64 e5, .int .i64 e6, .int .i64 e7]) ⟨by (repeat (first | (with_reducible exact Below.refl _ _) | (with_reducible assumption) | (with_reducible refine Near.up _ ?_) | (with_reducible refine Below.drew ?_) | (with_reducible refine below_alloc_on ?_ _) | (with_reducible refine below_set_on ?_ (by first | (simp; done) | (simp; omega) | omega) _))), by (repeat (first | (with_reducible assumption) | (with_reducible exact box_new _ _ _) | ((with_reducible apply box_at); (first | (with_reducible rfl) | (simp <;> omega))) | (with_reducible apply Box.drew) | (with_reducible apply Box.drewN) | (with_reducible apply Box.near) | (with_reducible apply Box.alloc) | ((with_reducible apply box_far); (first | assumption | omega | (simp <;> omega))) | ((with_reducible apply Box.one_set); (with_reducible assumption)) | ((with_reducible apply Box.two_set); (with_reducible assumption)) | ((with_reducible apply Box.three_set); (with_reducible assumption)) | (with_reducible apply Box.set) | (simp only [List.size_toArray, List.length_cons, List.length_nil, Array.size_setIfInBounds] <;> omega))), by (repeat (first | (with_reducible assumption) | (with_reducible exact box_new _ _ _) | ((with_reducible apply box_at); (first | (with_reducible rfl) | (simp <;> omega))) | (with_reducible apply Box.drew) | (with_reducible apply Box.drewN) | (with_reducible apply Box.near) | (with_reducible apply Box.alloc) | ((with_reducible apply box_far); (first | assumption | omega | (simp <;> omega))) | ((with_reducible apply Box.one_set); (with_reducible assumption)) | ((with_reducible apply Box.two_set); (with_reducible assumption)) | ((with_reducible apply Box.three_set); (with_reducible assumption)) | (with_reducible apply Box.set) | (simp only [List.size_toArray, List.length_cons, List.length_nil, Array.size_setIfInBounds] <;> omega)))⟩ ?_
  rintro w2 ⟨A2, R2, E2⟩
  have n1 : ¬ w.heap.size + 1 = w1.heap.size := by omega
  have n0 : w.heap.size ≤ w.heap.size + 1 := by omega
  have n3 : w.heap.size ≤ w1.heap.size := by omega
  clear A R P cP fP cR fR lP_w1 lR_w1 z_w1 HN
  generalize w1.heap.size = g at *
  generalize w.heap.size + 1 = r at *
  have n1' : ¬ g = r := fun h => n1 h.symm
  have A := A2
  have R := R2
  have E := E2
  obtain ⟨lR, cR, fR⟩ := id R2
  obtain ⟨lE, cE, fE⟩ := id E2
  clear A2 R2 E2
  go_wp2_with (fail)
  refine (HL.out _).mono ?_
  rintro e w3 ⟨rfl, hb⟩
  replace A : Below w.heap.size w w3 := by (refine below_call ?_ hb; (repeat (first | (with_reducible exact Below.refl _ _) | (with_reducible assumption) | (with_reducible refine Near.up _ ?_) | (with_reducible refine Below.drew ?_) | (with_reducible refine below_alloc_on ?_ _) | (with_reducible refine below_set_on ?_ (by first | (simp; done) | (simp; omega) | omega) _))))
  replace R := Box.below (g := r) (by (repeat (first | (with_reducible assumption) | (with_reducible exact box_new _ _ _) | ((with_reducible apply box_at); (first | (with_reducible rfl) | (simp <;> omega))) | (with_reducible apply Box.drew) | (with_reducible apply Box.drewN) | (with_reducible apply Box.near) | (with_reducible apply Box.alloc) | ((with_reducible apply box_far); (first | assumption | omega | (simp <;> omega))) | ((with_reducible apply Box.one_set); (with_reducible assumption)) | ((with_reducible apply Box.two_set); (with_reducible assumption)) | ((with_reducible apply Box.three_set); (with_reducible assumption)) | (with_reducible apply Box.set) | (simp only [List.size_toArray, List.length_cons, List.length_nil, Array.size_setIfInBounds] <;> omega)))) hb
  (try simp only [List.setIfInBounds_toArray, List.set_cons_zero, List.set_cons_succ] at R)
  (try clear cR fR)
  replace E := Box.below (g := g) (by (repeat (first | (with_reducible assumption) | (with_reducible exact box_new _ _ _) | ((with_reducible apply box_at); (first | (with_reducible rfl) | (simp <;> omega))) | (with_reducible apply Box.drew) | (with_reducible apply Box.drewN) | (with_reducible apply Box.near) | (with_reducible apply Box.alloc) | ((with_reducible apply box_far); (first | assumption | omega | (simp <;> omega))) | ((with_reducible apply Box.one_set); (with_reducible assumption)) | ((with_reducible apply Box.two_set); (with_reducible assumption)) | ((with_reducible apply Box.three_set); (with_reducible assumption)) | (with_reducible apply Box.set) | (simp only [List.size_toArray, List.length_cons, List.length_nil, Array.size_setIfInBounds] <;> omega)))) hb
  (try simp only [List.setIfInBounds_toArray, List.set_cons_zero, List.set_cons_succ] at E)
  (try clear cE fE)
  replace F := Box.below (g := w2.heap.size) (by (repeat (first | (with_reducible assumption) | (with_reducible exact box_new _ _ _) | ((with_reducible apply box_at); (first | (with_reducible rfl) | (simp <;> omega))) | (with_reducible apply Box.drew) | (with_reducible apply Box.drewN) | (with_reducible apply Box.near) | (with_reducible apply Box.alloc) | ((with_reducible apply box_far); (first | assumption | omega | (simp <;> omega))) | ((with_reducible apply Box.one_set); (with_reducible assumption)) | ((with_reducible apply Box.two_set); (with_reducible assumption)) | ((with_reducible apply Box.three_set); (with_reducible assumption)) | (with_reducible apply Box.set) | (simp only [List.size_toArray, List.length_cons, List.length_nil, Array.size_setIfInBounds] <;> omega)))) hb
  (try simp only [List.setIfInBounds_toArray, List.set_cons_zero, List.set_cons_succ] at F)
  (try clear cF fF)
  clear hb
  have z_w3 : w.heap.size ≤ w3.heap.size := A.size
  obtain ⟨lR_w3, cR, fR⟩ := id R
  obtain ⟨lE_w3, cE, fE⟩ := id E
  obtain ⟨lF_w3, cF, fF⟩ := id F
  have m1 : ¬ r = w2.heap.size := by omega
  have m2 : ¬ g = w2.heap.size := by omega
  have m3 : ¬ w2.heap.size = r := by omega
  have m4 : ¬ w2.heap.size = g := by omega
  have m5 : w.heap.size ≤ w2.heap.size := by omega
  generalize w2.heap.size = f at *
  go_upto_region 6 with (fail)
  go_region
  all_goals go_wp2
  all_goals refine bodyPost_ret (v := .agg #[.int .i64 4, .int .i64 e2, .int .i64 e3, .int .i64 e4, .int .i64 e5, .int .i64 e6, .int .i64 e7, .int .i64 e0, .int .i64 sl, .bool false]) (by simp [results, Try.results8, go_sem, cR]) rfl ⟨rfl, by (repeat (first | (with_reducible exact Below.refl _ _) | (with_reducible assumption) | (with_reducible refine Near.up _ ?_) | (with_reducible refine Below.drew ?_) | (with_reducible refine below_alloc_on ?_ _) | (with_reducible refine below_set_on ?_ (by first | (simp; done) | (simp; omega) | omega) _)))⟩

/-- What is found in two slots: as an entry is lasting, or not. -/
def boB (a b : ByteArray) : Bool := lsB (gtV (nwT a b) 1) (gtV (nwT a b) 2) (gtV (nwT a b) 3) (gtV (nwT a b) 4)
def boI (p : Bool) (x : Int) : Int := if p = true then x else 0
def boM (p : Bool) : Int := if p = true then 4 else 1
theorem re_boot (a b c : ByteArray) (q : Bool) (i n : Int) (w : World) (ha : a.size ≤ 1000000) (hb : b.size ≤ 1000000) :
    Calls Try.prog 8 #[.agg #[.string a, .string b, .bool q, .int .i64 i, .string c, .int .i64 n]] w fun e w' => e = .returned (.agg #[.int .i64 (boM (boB a b)), .int .i64 (boI (boB a b) (gtV (nwT a b) 2)), .int .i64 (boI (boB a b) (gtV (nwT a b) 3)), .int .i64 (boI (boB a b) (gtV (nwT a b) 4)), .int .i64 (gtV (nwT a b) 5), .int .i64 (gtV (nwT a b) 6), .int .i64 (gtV (nwT a b) 7), .int .i64 (gtV (nwT a b) 0), .int .i64 (nwS a b), .bool (!gtB (nwT a b))]) ∧ Below w.heap.size w w' := by
  have HN := fun w => j_newest a b w ha hb
  have HL := fun w => re_lasts (gtV (nwT a b) 0) (gtV (nwT a b) 1) (gtV (nwT a b) 2) (gtV (nwT a b) 3) (gtV (nwT a b) 4) (gtV (nwT a b) 5) (gtV (nwT a b) 6) (gtV (nwT a b) 7) w
  rw [show lsB (gtV (nwT a b) 1) (gtV (nwT a b) 2) (gtV (nwT a b) 3) (gtV (nwT a b) 4) = boB a b from rfl] at HL
  cases hg : gtB (nwT a b)
  · rw [hg] at HN
    have hs : nwS a b = 0 := by
      unfold nwS
      have hF : nwF a b = false := by
        cases hF : nwF a b
        · rfl
        · unfold nwT at hg
          rw [hF, if_pos rfl] at hg
          unfold nwF at hF
          rw [hg] at hF
          cases hF
      rw [hF, if_neg (by simp)]
      unfold nwT at hg
      rw [hF, if_neg (by simp)] at hg
      rw [hg, if_neg (by simp)]
    have hB : boB a b = false := by
      unfold boB lsB
      simp only [gt_none hg]
      rfl
    have h := bo_lost a b c q i n _ _ _ _ _ _ _ _ _ w (Lib.hid HN)
    rw [hB, hs]
    simp only [gt_none hg]
    exact h
  · rw [hg] at HN
    cases hB : boB a b
    · rw [hB] at HL
      exact bo_idle a b c q i n _ _ _ _ _ _ _ _ _ w (Lib.hid HN) (Lib.hid HL)
    · rw [hB] at HL
      exact bo_pause a b c q i n _ _ _ _ _ _ _ _ _ w (Lib.hid HN) (Lib.hid HL)
end Go.Proofs.Ythibaehiponfnaa

namespace Go.Proofs.Ythibaehiponfnaa
open Go.RowKit
set_option linter.unusedVariables false
set_option linter.unusedSimpArgs false
set_option maxRecDepth 100000
attribute [local go_sem] cell_set_ite Near.cell Near.frozen

set_option maxHeartbeats 4000000 in
theorem re_next_form (a b c : ByteArray) (q : Bool) (i n sl : Int) (e0 e1 e2 e3 e4 e5 e6 e7 : Int) (h : enB e0 e1 e2 e3 e4 e5 e6 e7 = false) (w : World) :
    Calls Try.prog 6 #[.agg #[.string a, .string b, .bool q, .int .i64 i, .string c, .int .i64 n], .int .i64 sl, .agg #[.int .i64 e0, .int .i64 e1, .int .i64 e2, .int .i64 e3, .int .i64 e4, .int .i64 e5, .int .i64 e6, .int .i64 e7]] w fun e w' => e = .returned (.tuple #[.agg #[.string ⟨#[]⟩, .string ⟨#[]⟩, .bool false, .int .i64 0, .string ⟨#[]⟩, .int .i64 0], .int .i64 6]) ∧ Below w.heap.size w w' := by
  have A : Below w.heap.size w w := Below.refl _ _
  have HP := fun w => j_put e0 e1 e2 e3 e4 e5 e6 e7 w
  rw [h] at HP
  have HP := Lib.hid HP
  clear h
  go_enter Try.func6, Try.ntmps6
  go_wp2_with (fail)
  refine (HP.out _).mono ?_
  rintro e w1 ⟨rfl, hb⟩
  replace A : Below w.heap.size w w1 := by (refine below_call ?_ hb; (repeat (first | (with_reducible exact Below.refl _ _) | (with_reducible assumption) | (with_reducible refine Near.up _ ?_) | (with_reducible refine Below.drew ?_) | (with_reducible refine below_alloc_on ?_ _) | (with_reducible refine below_set_on ?_ (by first | (simp; done) | (simp; omega) | omega) _))))
  replace R := Box.below (g := w.heap.size + 1 + 1) (by (repeat (first | (with_reducible assumption) | (with_reducible exact box_new _ _ _) | ((with_reducible apply box_at); (first | (with_reducible rfl) | (simp <;> omega))) | (with_reducible apply Box.drew) | (with_reducible apply Box.drewN) | (with_reducible apply Box.near) | (with_reducible apply Box.alloc) | ((with_reducible apply box_far); (first | assumption | omega | (simp <;> omega))) | ((with_reducible apply Box.one_set); (with_reducible assumption)) | ((with_reducible apply Box.two_set); (with_reducible assumption)) | ((with_reducible apply Box.three_set); (with_reducible assumption)) | (with_reducible apply Box.set) | (simp only [List.size_toArray, List.length_cons, List.length_nil, Array.size_setIfInBounds] <;> omega)))) hb
  (try simp only [List.setIfInBounds_toArray, List.set_cons_zero, List.set_cons_succ] at R)
  (try clear cR fR)
  clear hb
  have z_w1 : w.heap.size ≤ w1.heap.size := A.size
  obtain ⟨lR_w1, cR, fR⟩ := id R
  go_wp2
  refine bodyPost_ret (v := .tuple #[.agg #[.string ⟨#[]⟩, .string ⟨#[]⟩, .bool false, .int .i64 0, .string ⟨#[]⟩, .int .i64 0], .int .i64 6]) (by simp [results, Try.results6, go_sem, cR]) rfl ⟨rfl, by (repeat (first | (with_reducible exact Below.refl _ _) | (with_reducible assumption) | (with_reducible refine Near.up _ ?_) | (with_reducible refine Below.drew ?_) | (with_reducible refine below_alloc_on ?_ _) | (with_reducible refine below_set_on ?_ (by first | (simp; done) | (simp; omega) | omega) _)))⟩

set_option maxHeartbeats 4000000 in
theorem re_next_ok (a b c : ByteArray) (i n sl m : Int) (hm : 1 - sl % 2 = m) (e0 e1 e2 e3 e4 e5 e6 e7 : Int) (h : enB e0 e1 e2 e3 e4 e5 e6 e7 = true) (w : World) :
    Calls Try.prog 6 #[.agg #[.string a, .string b, .bool false, .int .i64 i, .string c, .int .i64 n], .int .i64 sl, .agg #[.int .i64 e0, .int .i64 e1, .int .i64 e2, .int .i64 e3, .int .i64 e4, .int .i64 e5, .int .i64 e6, .int .i64 e7]] w fun e w' => e = .returned (.tuple #[.agg #[.string (fz m ⟨#[]⟩ a), .string (fz m b ⟨#[]⟩), .bool true, .int .i64 m, .string (ptS e0 e1 e2 e3 e4 e5 e6 e7), .int .i64 0], .int .i64 0]) ∧ Below w.heap.size w w' := by
  have A : Below w.heap.size w w := Below.refl _ _
  have HP := fun w => j_put e0 e1 e2 e3 e4 e5 e6 e7 w
  have hz := pt_size h
  rw [h] at HP
  have HP := Lib.hid HP
  have hs := fl_and1 sl
  obtain ⟨u, hu⟩ : ∃ u, sl % 2 = u := ⟨_, rfl⟩
  rw [hu] at hs hm
  have u0 : 0 ≤ u := by omega
  have u1 : u ≤ 1 := by omega
  have HB := Lib.hid (fun w => fl_begin_ok a b i c n m (ptS e0 e1 e2 e3 e4 e5 e6 e7) (by omega) (by omega) (by omega) w)
  generalize ptS e0 e1 e2 e3 e4 e5 e6 e7 = S at *
  generalize fz m ⟨#[]⟩ a = fa at *
  generalize fz m b ⟨#[]⟩ = fb at *
  clear h hz hu
  go_enter Try.func6, Try.ntmps6
  go_upto_region 1 with (fail)
  refine at_world (fun W => Below w.heap.size w W ∧ Box W w.heap.size #[.string a, .string b, .bool false, .int .i64 i, .string c, .int .i64 n] ∧ Box W (w.heap.size + 1) #[.int .i64 e0, .int .i64 e1, .int .i64 e2, .int .i64 e3, .int .i64 e4, .int .i64 e5, .int .i64 e6, .int .i64 e7] ∧ Box W (w.heap.size + 1 + 1) #[.string ⟨#[]⟩, .string ⟨#[]⟩, .bool false, .int .i64 0, .string ⟨#[]⟩, .int .i64 0]) ⟨by (repeat (first | (with_reducible exact Below.refl _ _) | (with_reducible assumption) | (with_reducible refine Near.up _ ?_) | (with_reducible refine Below.drew ?_) | (with_reducible refine below_alloc_on ?_ _) | (with_reducible refine below_set_on ?_ (by first | (simp; done) | (simp; omega) | omega) _))), box_cast (by (repeat (first | (with_reducible assumption) | (with_reducible exact box_new _ _ _) | ((with_reducible apply box_at); (first | (with_reducible rfl) | (simp <;> omega))) | (with_reducible apply Box.drew) | (with_reducible apply Box.drewN) | (with_reducible apply Box.near) | (with_reducible apply Box.alloc) | ((with_reducible apply box_far); (first | assumption | omega | (simp <;> omega))) | ((with_reducible apply Box.one_set); (with_reducible assumption)) | ((with_reducible apply Box.two_set); (with_reducible assumption)) | ((with_reducible apply Box.three_set); (with_reducible assumption)) | (with_reducible apply Box.set) | (simp only [List.size_toArray, List.length_cons, List.length_nil, Array.size_setIfInBounds] <;> omega)))) (by first | rfl | simp), box_cast (by (repeat (first | (with_reducible assumption) | (with_reducible exact box_new _ _ _) | ((with_reducible apply box_at); (first | (with_reducible rfl) | (simp <;> omega))) | (with_reducible apply Box.drew) | (with_reducible apply Box.drewN) | (with_reducible apply Box.near) | (with_reducible apply Box.alloc) | ((with_reducible apply box_far); (first | assumption | omega | (simp <;> omega))) | ((with_reducible apply Box.one_set); (with_reducible assumption)) | ((with_reducible apply Box.two_set); (with_reducible assumption)) | ((with_reducible apply Box.three_set); (with_reducible assumption)) | (with_reducible apply Box.set) | (simp only [List.size_toArray, List.length_cons, List.length_nil, Array.size_setIfInBounds] <;> omega)))) (by first | rfl | simp), box_cast (by (repeat (first | (with_reducible assumption) | (with_reducible exact box_new _ _ _) | ((with_reducible apply box_at); (first | (with_reducible rfl) | (simp <;> omega))) | (with_reducible apply Box.drew) | (with_reducible apply Box.drewN) | (with_reducible apply Box.near) | (with_reducible apply Box.alloc) | ((with_reducible apply box_far); (first | assumption | omega | (simp <;> omega))) | ((with_reducible apply Box.one_set); (with_reducible assumption)) | ((with_reducible apply Box.two_set); (with_reducible assumption)) | ((with_reducible apply Box.three_set); (with_reducible assumption)) | (with_reducible apply Box.set) | (simp only [List.size_toArray, List.length_cons, List.length_nil, Array.size_setIfInBounds] <;> omega)))) (by first | rfl | simp)⟩ ?_
  clear A
  rintro w0 ⟨A, F, E, R⟩
  have z1 : w.heap.size ≤ w.heap.size + 1 + 1 := by omega
  have n1 : ¬ w.heap.size = w.heap.size + 1 + 1 := by omega
  have n2 : ¬ w.heap.size + 1 = w.heap.size + 1 + 1 := by omega
  generalize w.heap.size + 1 + 1 = r at *
  generalize w.heap.size + 1 = ep at *
  obtain ⟨lF, cF, fF⟩ := id F
  obtain ⟨lE, cE, fE⟩ := id E
  obtain ⟨lR, cR, fR⟩ := id R
  go_wp2_with (fail)
  refine (HP.out _).mono ?_
  rintro e w1 ⟨rfl, hb⟩
  replace A : Below w.heap.size w w1 := by (refine below_call ?_ hb; (repeat (first | (with_reducible exact Below.refl _ _) | (with_reducible assumption) | (with_reducible refine Near.up _ ?_) | (with_reducible refine Below.drew ?_) | (with_reducible refine below_alloc_on ?_ _) | (with_reducible refine below_set_on ?_ (by first | (simp; done) | (simp; omega) | omega) _))))
  replace F := Box.below (g := w.heap.size) (by (repeat (first | (with_reducible assumption) | (with_reducible exact box_new _ _ _) | ((with_reducible apply box_at); (first | (with_reducible rfl) | (simp <;> omega))) | (with_reducible apply Box.drew) | (with_reducible apply Box.drewN) | (with_reducible apply Box.near) | (with_reducible apply Box.alloc) | ((with_reducible apply box_far); (first | assumption | omega | (simp <;> omega))) | ((with_reducible apply Box.one_set); (with_reducible assumption)) | ((with_reducible apply Box.two_set); (with_reducible assumption)) | ((with_reducible apply Box.three_set); (with_reducible assumption)) | (with_reducible apply Box.set) | (simp only [List.size_toArray, List.length_cons, List.length_nil, Array.size_setIfInBounds] <;> omega)))) hb
  (try simp only [List.setIfInBounds_toArray, List.set_cons_zero, List.set_cons_succ] at F)
  (try clear cF fF)
  replace R := Box.below (g := r) (by (repeat (first | (with_reducible assumption) | (with_reducible exact box_new _ _ _) | ((with_reducible apply box_at); (first | (with_reducible rfl) | (simp <;> omega))) | (with_reducible apply Box.drew) | (with_reducible apply Box.drewN) | (with_reducible apply Box.near) | (with_reducible apply Box.alloc) | ((with_reducible apply box_far); (first | assumption | omega | (simp <;> omega))) | ((with_reducible apply Box.one_set); (with_reducible assumption)) | ((with_reducible apply Box.two_set); (with_reducible assumption)) | ((with_reducible apply Box.three_set); (with_reducible assumption)) | (with_reducible apply Box.set) | (simp only [List.size_toArray, List.length_cons, List.length_nil, Array.size_setIfInBounds] <;> omega)))) hb
  (try simp only [List.setIfInBounds_toArray, List.set_cons_zero, List.set_cons_succ] at R)
  (try clear cR fR)
  clear hb
  have z_w1 : w.heap.size ≤ w1.heap.size := A.size
  obtain ⟨lF_w1, cF, fF⟩ := id F
  obtain ⟨lR_w1, cR, fR⟩ := id R
  clear cE fE lE E
  go_wp2_with (fail)
  refine (HB.out _).mono ?_
  rintro e w2 ⟨rfl, hb⟩
  replace A : Below w.heap.size w w2 := by (refine below_call ?_ hb; (repeat (first | (with_reducible exact Below.refl _ _) | (with_reducible assumption) | (with_reducible refine Near.up _ ?_) | (with_reducible refine Below.drew ?_) | (with_reducible refine below_alloc_on ?_ _) | (with_reducible refine below_set_on ?_ (by first | (simp; done) | (simp; omega) | omega) _))))
  replace R := Box.below (g := r) (by (repeat (first | (with_reducible assumption) | (with_reducible exact box_new _ _ _) | ((with_reducible apply box_at); (first | (with_reducible rfl) | (simp <;> omega))) | (with_reducible apply Box.drew) | (with_reducible apply Box.drewN) | (with_reducible apply Box.near) | (with_reducible apply Box.alloc) | ((with_reducible apply box_far); (first | assumption | omega | (simp <;> omega))) | ((with_reducible apply Box.one_set); (with_reducible assumption)) | ((with_reducible apply Box.two_set); (with_reducible assumption)) | ((with_reducible apply Box.three_set); (with_reducible assumption)) | (with_reducible apply Box.set) | (simp only [List.size_toArray, List.length_cons, List.length_nil, Array.size_setIfInBounds] <;> omega)))) hb
  (try simp only [List.setIfInBounds_toArray, List.set_cons_zero, List.set_cons_succ] at R)
  (try clear cR fR)
  clear hb
  have z_w2 : w.heap.size ≤ w2.heap.size := A.size
  obtain ⟨lR_w2, cR, fR⟩ := id R
  go_wp2
  refine bodyPost_ret (v := .tuple #[.agg #[.string fa, .string fb, .bool true, .int .i64 m, .string S, .int .i64 0], .int .i64 0]) (by simp [results, Try.results6, go_sem, cR]) rfl ⟨rfl, by (repeat (first | (with_reducible exact Below.refl _ _) | (with_reducible assumption) | (with_reducible refine Near.up _ ?_) | (with_reducible refine Below.drew ?_) | (with_reducible refine below_alloc_on ?_ _) | (with_reducible refine below_set_on ?_ (by first | (simp; done) | (simp; omega) | omega) _)))⟩

theorem nx_four {j : Nat} (h : j ≤ 15) : nxV (4 * (j : Int)) = 4 * ((j + 1 : Nat) : Int) := by
  have := nx_bd (4 * (j : Int))
  unfold nxV
  omega

set_option maxHeartbeats 8000000 in
theorem law40_awake (w : World) : Calls Try.prog 5 #[] w fun e w' => e = .returned (.bool true) ∧ Below w.heap.size w w' := by
  have A : Below w.heap.size w w := Below.refl _ _
  have he : enB 7 3 60 100 20 20 9 0 = true := by decide +kernel
  have hz : enB 0 0 0 0 0 0 0 0 = false := by decide +kernel
  have g2 : gtB ⟨#[]⟩ = false := by unfold gtB; rw [show openB ⟨#[]⟩ = false by decide +kernel]; rfl
  have hs := pt_size he
  have hg := gt_put he
  have hV := fun i => gtV_put he i
  have HN := fun w => re_next_ok ⟨#[]⟩ ⟨#[]⟩ ⟨#[]⟩ 0 0 1 0 (by decide) 7 3 60 100 20 20 9 0 he w
  rw [show fz 0 (⟨#[]⟩ : ByteArray) (⟨#[]⟩ : ByteArray) = ⟨#[]⟩ from rfl] at HN
  generalize ptS 7 3 60 100 20 20 9 0 = S at *
  have HM := Lib.hid (fun w => re_next_form S ⟨#[]⟩ ⟨#[]⟩ false 0 0 0 0 0 0 0 0 0 0 0 hz w)
  have HB := fun w => re_boot S ⟨#[]⟩ ⟨#[]⟩ false 0 0 w (by omega) (by decide)
  have e1 : nwT S ⟨#[]⟩ = S := by unfold nwT nwF; rw [hg, g2]; rfl
  have e2 : nwS S ⟨#[]⟩ = 0 := by unfold nwS nwF; rw [hg, g2]; rfl
  have e3 : boB S ⟨#[]⟩ = true := by
    unfold boB
    rw [e1]
    simp only [hV, List.getD_cons_zero, List.getD_cons_succ]
    decide +kernel
  rw [e1, e2, e3, hg] at HB
  simp only [hV, List.getD_cons_zero, List.getD_cons_succ] at HB
  have HC := fun w => re_boot ⟨#[]⟩ ⟨#[]⟩ ⟨#[]⟩ false 0 0 w (by decide) (by decide)
  have f1 : nwT ⟨#[]⟩ ⟨#[]⟩ = ⟨#[]⟩ := by unfold nwT; split <;> rfl
  have f2 : nwS ⟨#[]⟩ ⟨#[]⟩ = 0 := by unfold nwS nwF; rw [g2]; rfl
  have f3 : boB ⟨#[]⟩ ⟨#[]⟩ = false := by
    unfold boB
    rw [f1]
    simp only [gt_none g2]
    decide +kernel
  rw [f1, f2, f3, g2] at HC
  simp only [gt_none g2] at HC
  have HN := Lib.hid HN
  have HB := Lib.hid HB
  have HC := Lib.hid HC
  have HG := Lib.hid hs
  clear he hz g2 hg hV e1 e2 e3 f1 f2 f3
  go_enter Try.func5, Try.ntmps5
  go_wp2_with (fail)
  refine (HN.out _).mono ?_
  rintro e w1 ⟨rfl, hb⟩
  replace A : Below w.heap.size w w1 := by (refine below_call ?_ hb; (repeat (first | (with_reducible exact Below.refl _ _) | (with_reducible assumption) | (with_reducible refine Near.up _ ?_) | (with_reducible refine Below.drew ?_) | (with_reducible refine below_alloc_on ?_ _) | (with_reducible refine below_set_on ?_ (by first | (simp; done) | (simp; omega) | omega) _))))
  replace P := Box.below (g := w.heap.size) (by (repeat (first | (with_reducible assumption) | (with_reducible exact box_new _ _ _) | ((with_reducible apply box_at); (first | (with_reducible rfl) | (simp <;> omega))) | (with_reducible apply Box.drew) | (with_reducible apply Box.drewN) | (with_reducible apply Box.near) | (with_reducible apply Box.alloc) | ((with_reducible apply box_far); (first | assumption | omega | (simp <;> omega))) | ((with_reducible apply Box.one_set); (with_reducible assumption)) | ((with_reducible apply Box.two_set); (with_reducible assumption)) | ((with_reducible apply Box.three_set); (with_reducible assumption)) | (with_reducible apply Box.set) | (simp only [List.size_toArray, List.length_cons, List.length_nil, Array.size_setIfInBounds] <;> omega)))) hb
  (try simp only [List.setIfInBounds_toArray, List.set_cons_zero, List.set_cons_succ] at P)
  (try clear cP fP)
  clear hb
  have z_w1 : w.heap.size ≤ w1.heap.size := A.size
  obtain ⟨lP_w1, cP, fP⟩ := id P
  go_wp2
  refine at_world (fun W => Below w.heap.size w W ∧ Box W w.heap.size #[.int .i64 7, .int .i64 3, .int .i64 60, .int .i64 100, .int .i64 20, .int .i64 20, .int .i64 9, .int .i64 0] ∧ Box W w1.heap.size #[.string ⟨#[]⟩, .string ⟨#[]⟩, .bool true, .int .i64 0, .string S, .int .i64 0]) ⟨by (repeat (first | (with_reducible exact Below.refl _ _) | (with_reducible assumption) | (with_reducible refine Near.up _ ?_) | (with_reducible refine Below.drew ?_) | (with_reducible refine below_alloc_on ?_ _) | (with_reducible refine below_set_on ?_ (by first | (simp; done) | (simp; omega) | omega) _))), by (repeat (first | (with_reducible assumption) | (with_reducible exact box_new _ _ _) | ((with_reducible apply box_at); (first | (with_reducible rfl) | (simp <;> omega))) | (with_reducible apply Box.drew) | (with_reducible apply Box.drewN) | (with_reducible apply Box.near) | (with_reducible apply Box.alloc) | ((with_reducible apply box_far); (first | assumption | omega | (simp <;> omega))) | ((with_reducible apply Box.one_set); (with_reducible assumption)) | ((with_reducible apply Box.two_set); (with_reducible assumption)) | ((with_reducible apply Box.three_set); (with_reducible assumption)) | (with_reducible apply Box.set) | (simp only [List.size_toArray, List.length_cons, List.length_nil, Array.size_setIfInBounds] <;> omega))), by (repeat (first | (with_reducible assumption) | (with_reducible exact box_new _ _ _) | ((with_reducible apply box_at); (first | (with_reducible rfl) | (simp <;> omega))) | (with_reducible apply Box.drew) | (with_reducible apply Box.drewN) | (with_reducible apply Box.near) | (with_reducible apply Box.alloc) | ((with_reducible apply box_far); (first | assumption | omega | (simp <;> omega))) | ((with_reducible apply Box.one_set); (with_reducible assumption)) | ((with_reducible apply Box.two_set); (with_reducible assumption)) | ((with_reducible apply Box.three_set); (with_reducible assumption)) | (with_reducible apply Box.set) | (simp only [List.size_toArray, List.length_cons, List.length_nil, Array.size_setIfInBounds] <;> omega)))⟩ ?_
  rintro w2 ⟨A2, P2, F2⟩
  have npf : ¬ w.heap.size = w1.heap.size := by omega
  have nfp : ¬ w1.heap.size = w.heap.size := by omega
  have zf : w.heap.size ≤ w1.heap.size := by omega
  clear A P cP fP lP_w1 z_w1
  generalize w1.heap.size = f at *
  go_loopg [16] 9 (fun gk i wr => ∃ (j : Nat) (x : ByteArray) (q : Bool) (c : ByteArray) (n : Int), j ≤ 9 ∧ gk = 9 - j ∧ i = .int .i64 j ∧ Below w.heap.size w wr ∧ Box wr w.heap.size #[.int .i64 7, .int .i64 3, .int .i64 60, .int .i64 100, .int .i64 20, .int .i64 20, .int .i64 9, .int .i64 0] ∧ Box wr f #[.string x, .string ⟨#[]⟩, .bool q, .int .i64 0, .string c, .int .i64 n] ∧
    ((j ≤ 5 ∧ q = true ∧ c = S ∧ n = 4 * (j : Int)) ∨ (6 ≤ j ∧ x = S ∧ q = false ∧ c = ⟨#[]⟩ ∧ n = 0)))
  case atStart => exact ⟨0, ⟨#[]⟩, true, S, 0, by omega, rfl, rfl, A2, P2, F2, .inl ⟨by omega, rfl, rfl, by simp⟩⟩
  case round =>
    clear A2 P2 F2
    obtain ⟨j, x, q, c, n, hj, rfl, rfl, A, P, F, hst⟩ := hrel
    by_cases hlt : j < 9
    · obtain ⟨x', q', c', n', HS, hst'⟩ : ∃ x' q' c' n', (∀ w, Calls Try.prog 7 #[.agg #[.string x, .string ⟨#[]⟩, .bool q, .int .i64 0, .string c, .int .i64 n], .bool true] w fun e w' => (∃ r, e = .returned (.tuple #[.agg #[.string x', .string ⟨#[]⟩, .bool q', .int .i64 0, .string c', .int .i64 n'], .int .i64 r])) ∧ Below w.heap.size w w') ∧
          ((j + 1 ≤ 5 ∧ q' = true ∧ c' = S ∧ n' = 4 * ((j + 1 : Nat) : Int)) ∨ (6 ≤ j + 1 ∧ x' = S ∧ q' = false ∧ c' = ⟨#[]⟩ ∧ n' = 0)) := by
        rcases hst with ⟨h1, rfl, rfl, rfl⟩ | ⟨h1, rfl, rfl, rfl, rfl⟩
        · have hn := nx_four (j := j) (by omega)
          have hs := HG.out
          by_cases h5 : j < 5
          · exact ⟨_, _, _, _, fun w => (fl_step_goes x ⟨#[]⟩ 0 c _ (by rw [hn]; omega) w).mono (fun e w' ⟨he, hb⟩ => ⟨⟨_, he⟩, hb⟩), .inl ⟨by omega, rfl, rfl, hn⟩⟩
          · exact ⟨_, _, _, _, fun w => (fl_step_done x ⟨#[]⟩ 0 c _ (by rw [hn]; omega) w).mono (fun e w' ⟨he, hb⟩ => ⟨⟨_, he⟩, hb⟩), .inr ⟨by omega, rfl, rfl, rfl, rfl⟩⟩
        · exact ⟨_, _, _, _, fun w => (fl_step_idle x ⟨#[]⟩ 0 ⟨#[]⟩ 0 true w).mono (fun e w' ⟨he, hb⟩ => ⟨⟨_, he⟩, hb⟩), .inr ⟨by omega, rfl, rfl, rfl, rfl⟩⟩
      have HST := Lib.hid hst'
      have HSX := Lib.hid HS
      clear hst hst' HS
      obtain ⟨lP, cP, fP⟩ := id P
      obtain ⟨lF, cF, fF⟩ := id F
      go_wp2_with (fail)
      refine (HSX.out _).mono ?_
      rintro e w3 ⟨⟨r, rfl⟩, hb⟩
      replace A := below_call A hb
      replace P := P.below hb
      replace F := F.below hb
      clear hb lP cP fP lF cF fF
      obtain ⟨lF, cF, fF⟩ := id F
      have F5 := Lib.hid (Box.six_set F (.string x') (.string ⟨#[]⟩) (.bool q') (.int .i64 0) (.string c') (.int .i64 n'))
      go_wp2
      go_roundg (9 - (j + 1))
      case measure => omega
      case rel => exact ⟨j + 1, x', q', c', n', by omega, by omega, by go_num, by (repeat (first | (with_reducible exact Below.refl _ _) | (with_reducible assumption) | (with_reducible refine Near.up _ ?_) | (with_reducible refine Below.drew ?_) | (with_reducible refine below_alloc_on ?_ _) | (with_reducible refine below_set_on ?_ (by first | (simp; done) | (simp; omega) | omega) _))), by (repeat (first | (with_reducible assumption) | (with_reducible exact box_new _ _ _) | ((with_reducible apply box_at); (first | (with_reducible rfl) | (simp <;> omega))) | (with_reducible apply Box.drew) | (with_reducible apply Box.drewN) | (with_reducible apply Box.near) | (with_reducible apply Box.alloc) | ((with_reducible apply box_far); (first | assumption | omega | (simp <;> omega))) | ((with_reducible apply Box.one_set); (with_reducible assumption)) | ((with_reducible apply Box.two_set); (with_reducible assumption)) | ((with_reducible apply Box.three_set); (with_reducible assumption)) | (with_reducible apply Box.set) | (simp only [List.size_toArray, List.length_cons, List.length_nil, Array.size_setIfInBounds] <;> omega))), F5.out, HST.out⟩
    · obtain rfl : j = 9 := by omega
      have hend : x = S ∧ q = false ∧ c = ⟨#[]⟩ ∧ n = 0 := by
        rcases hst with ⟨h, _⟩ | ⟨_, h⟩
        · omega
        · exact h
      obtain ⟨rfl, rfl, rfl, rfl⟩ := hend
      clear hst
      obtain ⟨lP, cP, fP⟩ := id P
      obtain ⟨lF, cF, fF⟩ := id F
      go_wp2_with (fail)
      refine (HB.out _).mono ?_
      rintro e w4 ⟨rfl, hb⟩
      replace A : Below w.heap.size w w4 := by (refine below_call ?_ hb; (repeat (first | (with_reducible exact Below.refl _ _) | (with_reducible assumption) | (with_reducible refine Near.up _ ?_) | (with_reducible refine Below.drew ?_) | (with_reducible refine below_alloc_on ?_ _) | (with_reducible refine below_set_on ?_ (by first | (simp; done) | (simp; omega) | omega) _))))
      replace P := Box.below (g := w.heap.size) (by (repeat (first | (with_reducible assumption) | (with_reducible exact box_new _ _ _) | ((with_reducible apply box_at); (first | (with_reducible rfl) | (simp <;> omega))) | (with_reducible apply Box.drew) | (with_reducible apply Box.drewN) | (with_reducible apply Box.near) | (with_reducible apply Box.alloc) | ((with_reducible apply box_far); (first | assumption | omega | (simp <;> omega))) | ((with_reducible apply Box.one_set); (with_reducible assumption)) | ((with_reducible apply Box.two_set); (with_reducible assumption)) | ((with_reducible apply Box.three_set); (with_reducible assumption)) | (with_reducible apply Box.set) | (simp only [List.size_toArray, List.length_cons, List.length_nil, Array.size_setIfInBounds] <;> omega)))) hb
      (try simp only [List.setIfInBounds_toArray, List.set_cons_zero, List.set_cons_succ] at P)
      (try clear cP fP)
      replace F := Box.below (g := f) (by (repeat (first | (with_reducible assumption) | (with_reducible exact box_new _ _ _) | ((with_reducible apply box_at); (first | (with_reducible rfl) | (simp <;> omega))) | (with_reducible apply Box.drew) | (with_reducible apply Box.drewN) | (with_reducible apply Box.near) | (with_reducible apply Box.alloc) | ((with_reducible apply box_far); (first | assumption | omega | (simp <;> omega))) | ((with_reducible apply Box.one_set); (with_reducible assumption)) | ((with_reducible apply Box.two_set); (with_reducible assumption)) | ((with_reducible apply Box.three_set); (with_reducible assumption)) | (with_reducible apply Box.set) | (simp only [List.size_toArray, List.length_cons, List.length_nil, Array.size_setIfInBounds] <;> omega)))) hb
      (try simp only [List.setIfInBounds_toArray, List.set_cons_zero, List.set_cons_succ] at F)
      (try clear cF fF)
      clear hb
      have z_w4 : w.heap.size ≤ w4.heap.size := A.size
      obtain ⟨lP_w4, cP, fP⟩ := id P
      obtain ⟨lF_w4, cF, fF⟩ := id F
      have m1 : ¬ w.heap.size = w4.heap.size := by omega
      have m2 : ¬ f = w4.heap.size := by omega
      go_wp2_with (fail)
      refine (HM.out _).mono ?_
      rintro e w5 ⟨rfl, hb⟩
      replace A : Below w.heap.size w w5 := by (refine below_call ?_ hb; (repeat (first | (with_reducible exact Below.refl _ _) | (with_reducible assumption) | (with_reducible refine Near.up _ ?_) | (with_reducible refine Below.drew ?_) | (with_reducible refine below_alloc_on ?_ _) | (with_reducible refine below_set_on ?_ (by first | (simp; done) | (simp; omega) | omega) _))))
      replace P := Box.below (g := w.heap.size) (by (repeat (first | (with_reducible assumption) | (with_reducible exact box_new _ _ _) | ((with_reducible apply box_at); (first | (with_reducible rfl) | (simp <;> omega))) | (with_reducible apply Box.drew) | (with_reducible apply Box.drewN) | (with_reducible apply Box.near) | (with_reducible apply Box.alloc) | ((with_reducible apply box_far); (first | assumption | omega | (simp <;> omega))) | ((with_reducible apply Box.one_set); (with_reducible assumption)) | ((with_reducible apply Box.two_set); (with_reducible assumption)) | ((with_reducible apply Box.three_set); (with_reducible assumption)) | (with_reducible apply Box.set) | (simp only [List.size_toArray, List.length_cons, List.length_nil, Array.size_setIfInBounds] <;> omega)))) hb
      (try simp only [List.setIfInBounds_toArray, List.set_cons_zero, List.set_cons_succ] at P)
      (try clear cP fP)
      replace B := Box.below (g := w4.heap.size) (by (repeat (first | (with_reducible assumption) | (with_reducible exact box_new _ _ _) | ((with_reducible apply box_at); (first | (with_reducible rfl) | (simp <;> omega))) | (with_reducible apply Box.drew) | (with_reducible apply Box.drewN) | (with_reducible apply Box.near) | (with_reducible apply Box.alloc) | ((with_reducible apply box_far); (first | assumption | omega | (simp <;> omega))) | ((with_reducible apply Box.one_set); (with_reducible assumption)) | ((with_reducible apply Box.two_set); (with_reducible assumption)) | ((with_reducible apply Box.three_set); (with_reducible assumption)) | (with_reducible apply Box.set) | (simp only [List.size_toArray, List.length_cons, List.length_nil, Array.size_setIfInBounds] <;> omega)))) hb
      (try simp only [List.setIfInBounds_toArray, List.set_cons_zero, List.set_cons_succ] at B)
      (try clear cB fB)
      clear hb
      have z_w5 : w.heap.size ≤ w5.heap.size := A.size
      obtain ⟨lP_w5, cP, fP⟩ := id P
      obtain ⟨lB_w5, cB, fB⟩ := id B
      have m3 : ¬ w.heap.size = w5.heap.size := by omega
      have m4 : ¬ w4.heap.size = w5.heap.size := by omega
      go_wp2_with (fail)
      refine (HC.out _).mono ?_
      rintro e w6 ⟨rfl, hb⟩
      replace A : Below w.heap.size w w6 := by (refine below_call ?_ hb; (repeat (first | (with_reducible exact Below.refl _ _) | (with_reducible assumption) | (with_reducible refine Near.up _ ?_) | (with_reducible refine Below.drew ?_) | (with_reducible refine below_alloc_on ?_ _) | (with_reducible refine below_set_on ?_ (by first | (simp; done) | (simp; omega) | omega) _))))
      replace P := Box.below (g := w.heap.size) (by (repeat (first | (with_reducible assumption) | (with_reducible exact box_new _ _ _) | ((with_reducible apply box_at); (first | (with_reducible rfl) | (simp <;> omega))) | (with_reducible apply Box.drew) | (with_reducible apply Box.drewN) | (with_reducible apply Box.near) | (with_reducible apply Box.alloc) | ((with_reducible apply box_far); (first | assumption | omega | (simp <;> omega))) | ((with_reducible apply Box.one_set); (with_reducible assumption)) | ((with_reducible apply Box.two_set); (with_reducible assumption)) | ((with_reducible apply Box.three_set); (with_reducible assumption)) | (with_reducible apply Box.set) | (simp only [List.size_toArray, List.length_cons, List.length_nil, Array.size_setIfInBounds] <;> omega)))) hb
      (try simp only [List.setIfInBounds_toArray, List.set_cons_zero, List.set_cons_succ] at P)
      (try clear cP fP)
      clear hb
      have z_w6 : w.heap.size ≤ w6.heap.size := A.size
      obtain ⟨lP_w6, cP, fP⟩ := id P
      go_wp2
      go_ret
      exact ⟨rfl, A⟩
end Go.Proofs.Ythibaehiponfnaa
