/- Contracts of package journal. -/
import Derived.Test.YthibaehiponfnaaJourN
import Derived.Test.YthibaehiponfnaaUnpack
import Derived.Test.YthibaehiponfnaaBx
import Derived.Test.YthibaehiponfnaaWorld
namespace Go.Proofs.Ythibaehiponfnaa
open Go.RowKit
set_option linter.unusedVariables false
set_option linter.unusedSimpArgs false
set_option maxRecDepth 100000
attribute [local go_sem] cell_set_ite Near.cell Near.frozen
attribute [local go_sem ↓] Go.wp_at_zero Go.wp_at_succ

theorem ints_newJ (w : World) (xs : List Int) : Ints (w.alloc (.cells (xs.map (Value.int .i64)).toArray 3)) (some ⟨w.heap.size, 0, none⟩) xs.length xs := by
  refine ⟨rfl, fun _ => ⟨w.heap.size, 0, rfl, by simp, fun i hi => ?_⟩⟩
  rw [World.cell?_alloc_at _ _ _ _ (by simp)]
  simp [List.getD, List.getElem?_eq_getElem hi]

theorem j_widths (w : World) : Calls Try.prog 21 #[] w fun e w' => ∃ B d, e = .returned (.slice B 8 d) ∧ 8 ≤ d ∧ Ints w' B 8 wsL ∧ Below w.heap.size w w' := by
  have H := Lib.hid (ints_newJ w wsL)
  go_enter Try.func21, Try.ntmps21
  go_wp2
  all_goals go_ret
  exact ⟨_, _, rfl, Nat.le_refl _, H.out, by (repeat (first | (with_reducible exact Below.refl _ _) | (with_reducible assumption) | (with_reducible refine Near.up _ ?_) | (with_reducible refine Below.drew ?_) | (with_reducible refine below_alloc_on ?_ _) | (with_reducible refine below_set_on ?_ (by first | (simp; done) | (simp; omega) | omega) _)))⟩
theorem j_numbers (q m r v k t d b : Int) (w : World) : Calls Try.prog 27 #[.agg #[.int .i64 q, .int .i64 m, .int .i64 r, .int .i64 v, .int .i64 k, .int .i64 t, .int .i64 d, .int .i64 b]] w fun e w' => ∃ B c, e = .returned (.slice B 8 c) ∧ 8 ≤ c ∧ Ints w' B 8 [q, m, r, v, k, t, d, b] ∧ Below w.heap.size w w' := by
  have H := Lib.hid (fun w => ints_newJ w [q, m, r, v, k, t, d, b])
  have A0 : Below w.heap.size w w := Below.refl _ _
  go_enter Try.func27, Try.ntmps27
  go_wp2
  all_goals go_ret
  exact ⟨_, _, rfl, Nat.le_refl _, by simpa using H.out (w.alloc (.cells #[.int .i64 q, .int .i64 m, .int .i64 r, .int .i64 v, .int .i64 k, .int .i64 t, .int .i64 d, .int .i64 b] 27)), by (repeat (first | (with_reducible exact Below.refl _ _) | (with_reducible assumption) | (with_reducible refine Near.up _ ?_) | (with_reducible refine Below.drew ?_) | (with_reducible refine below_alloc_on ?_ _) | (with_reducible refine below_set_on ?_ (by first | (simp; done) | (simp; omega) | omega) _)))⟩

theorem j_prog (r v k : Int) (w : World) : Calls Try.prog 11 #[.agg #[.int .i64 r, .int .i64 v, .int .i64 k]] w fun e w' => e = .returned (.bool (pgB r v k)) ∧ Below w.heap.size w w' := by
  have A : Below w.heap.size w w := Below.refl _ _
  have HC := Lib.hid (fun w => pr_check r v k w)
  unfold pgB
  generalize ckV r v k = c at *
  rcases (by omega : r ≠ 0 ∨ (r = 0 ∧ v ≠ 0) ∨ (r = 0 ∧ v = 0 ∧ k ≠ 0) ∨ (r = 0 ∧ v = 0 ∧ k = 0)) with h | ⟨rfl, h⟩ | ⟨rfl, rfl, h⟩ | ⟨rfl, rfl, rfl⟩
  · have q0 : (r == 0) = false := by simpa using h
    rw [decide_eq_false (fun g => h g.1), Bool.false_or]
    clear h
    rcases (by omega : c = 0 ∨ c ≠ 0) with rfl | hc
    · go_enter Try.func11, Try.ntmps11
      go_wp2_with (fail)
      refine (HC.out _).mono ?_
      rintro e w1 ⟨rfl, hb⟩
      replace A : Below w.heap.size w w1 := by (refine below_call ?_ hb; (repeat (first | (with_reducible exact Below.refl _ _) | (with_reducible assumption) | (with_reducible refine Near.up _ ?_) | (with_reducible refine Below.drew ?_) | (with_reducible refine below_alloc_on ?_ _) | (with_reducible refine below_set_on ?_ (by first | (simp; done) | (simp; omega) | omega) _))))
      clear hb
      have z_w1 : w.heap.size ≤ w1.heap.size := A.size
      go_wp2
      all_goals go_ret
      all_goals exact ⟨rfl, A⟩
    · have q1 : (c == 0) = false := by simpa using hc
      rw [decide_eq_false hc]
      clear hc
      go_enter Try.func11, Try.ntmps11
      go_wp2_with (fail)
      refine (HC.out _).mono ?_
      rintro e w1 ⟨rfl, hb⟩
      replace A : Below w.heap.size w w1 := by (refine below_call ?_ hb; (repeat (first | (with_reducible exact Below.refl _ _) | (with_reducible assumption) | (with_reducible refine Near.up _ ?_) | (with_reducible refine Below.drew ?_) | (with_reducible refine below_alloc_on ?_ _) | (with_reducible refine below_set_on ?_ (by first | (simp; done) | (simp; omega) | omega) _))))
      clear hb
      have z_w1 : w.heap.size ≤ w1.heap.size := A.size
      go_wp2
      all_goals go_ret
      all_goals exact ⟨rfl, A⟩
  · have q0 : (v == 0) = false := by simpa using h
    rw [decide_eq_false (fun g => h g.2.1), Bool.false_or]
    clear h
    rcases (by omega : c = 0 ∨ c ≠ 0) with rfl | hc
    · go_enter Try.func11, Try.ntmps11
      go_wp2_with (fail)
      refine (HC.out _).mono ?_
      rintro e w1 ⟨rfl, hb⟩
      replace A : Below w.heap.size w w1 := by (refine below_call ?_ hb; (repeat (first | (with_reducible exact Below.refl _ _) | (with_reducible assumption) | (with_reducible refine Near.up _ ?_) | (with_reducible refine Below.drew ?_) | (with_reducible refine below_alloc_on ?_ _) | (with_reducible refine below_set_on ?_ (by first | (simp; done) | (simp; omega) | omega) _))))
      clear hb
      have z_w1 : w.heap.size ≤ w1.heap.size := A.size
      go_wp2
      all_goals go_ret
      all_goals exact ⟨rfl, A⟩
    · have q1 : (c == 0) = false := by simpa using hc
      rw [decide_eq_false hc]
      clear hc
      go_enter Try.func11, Try.ntmps11
      go_wp2_with (fail)
      refine (HC.out _).mono ?_
      rintro e w1 ⟨rfl, hb⟩
      replace A : Below w.heap.size w w1 := by (refine below_call ?_ hb; (repeat (first | (with_reducible exact Below.refl _ _) | (with_reducible assumption) | (with_reducible refine Near.up _ ?_) | (with_reducible refine Below.drew ?_) | (with_reducible refine below_alloc_on ?_ _) | (with_reducible refine below_set_on ?_ (by first | (simp; done) | (simp; omega) | omega) _))))
      clear hb
      have z_w1 : w.heap.size ≤ w1.heap.size := A.size
      go_wp2
      all_goals go_ret
      all_goals exact ⟨rfl, A⟩
  · have q0 : (k == 0) = false := by simpa using h
    rw [decide_eq_false (fun g => h g.2.2), Bool.false_or]
    clear h
    rcases (by omega : c = 0 ∨ c ≠ 0) with rfl | hc
    · go_enter Try.func11, Try.ntmps11
      go_wp2_with (fail)
      refine (HC.out _).mono ?_
      rintro e w1 ⟨rfl, hb⟩
      replace A : Below w.heap.size w w1 := by (refine below_call ?_ hb; (repeat (first | (with_reducible exact Below.refl _ _) | (with_reducible assumption) | (with_reducible refine Near.up _ ?_) | (with_reducible refine Below.drew ?_) | (with_reducible refine below_alloc_on ?_ _) | (with_reducible refine below_set_on ?_ (by first | (simp; done) | (simp; omega) | omega) _))))
      clear hb
      have z_w1 : w.heap.size ≤ w1.heap.size := A.size
      go_wp2
      all_goals go_ret
      all_goals exact ⟨rfl, A⟩
    · have q1 : (c == 0) = false := by simpa using hc
      rw [decide_eq_false hc]
      clear hc
      go_enter Try.func11, Try.ntmps11
      go_wp2_with (fail)
      refine (HC.out _).mono ?_
      rintro e w1 ⟨rfl, hb⟩
      replace A : Below w.heap.size w w1 := by (refine below_call ?_ hb; (repeat (first | (with_reducible exact Below.refl _ _) | (with_reducible assumption) | (with_reducible refine Near.up _ ?_) | (with_reducible refine Below.drew ?_) | (with_reducible refine below_alloc_on ?_ _) | (with_reducible refine below_set_on ?_ (by first | (simp; done) | (simp; omega) | omega) _))))
      clear hb
      have z_w1 : w.heap.size ≤ w1.heap.size := A.size
      go_wp2
      all_goals go_ret
      all_goals exact ⟨rfl, A⟩
  · rw [decide_eq_true ⟨rfl, rfl, rfl⟩, Bool.true_or]
    go_enter Try.func11, Try.ntmps11
    go_wp2
    all_goals go_ret
    all_goals exact ⟨rfl, by (repeat (first | (with_reducible exact Below.refl _ _) | (with_reducible assumption) | (with_reducible refine Near.up _ ?_) | (with_reducible refine Below.drew ?_) | (with_reducible refine below_alloc_on ?_ _) | (with_reducible refine below_set_on ?_ (by first | (simp; done) | (simp; omega) | omega) _)))⟩

theorem j_total (t d b : Int) (w : World) : Calls Try.prog 12 #[.agg #[.int .i64 t, .int .i64 d, .int .i64 b]] w fun e w' => e = .returned (.bool (tlB t d b)) ∧ Below w.heap.size w w' := by
  have HC := Lib.hid (fun w => ds_knB t w)
  unfold tlB
  have A : Below w.heap.size w w := Below.refl _ _
  rcases (by omega : t = 0 ∨ t ≠ 0) with rfl | ht
  · rw [decide_eq_true rfl, Bool.true_or, Bool.true_and]
    clear HC
    rcases (by omega : d < 0 ∨ (0 ≤ d ∧ 4294967295 < d) ∨ (0 ≤ d ∧ d ≤ 4294967295 ∧ b < 0) ∨ (0 ≤ d ∧ d ≤ 4294967295 ∧ 0 ≤ b ∧ 99999999 < b) ∨ (0 ≤ d ∧ d ≤ 4294967295 ∧ 0 ≤ b ∧ b ≤ 99999999)) with h | ⟨h0, h⟩ | ⟨h0, h1, h⟩ | ⟨h0, h1, h2, h⟩ | ⟨h0, h1, h2, h⟩
    · rw [decide_eq_false (by omega)]; skip
      go_enter Try.func12, Try.ntmps12
      go_wp2
      all_goals go_ret
      all_goals exact ⟨ret_b (by first | rfl | (rw [dh])), by (repeat (first | (with_reducible exact Below.refl _ _) | (with_reducible assumption) | (with_reducible refine Near.up _ ?_) | (with_reducible refine Below.drew ?_) | (with_reducible refine below_alloc_on ?_ _) | (with_reducible refine below_set_on ?_ (by first | (simp; done) | (simp; omega) | omega) _)))⟩
    · rw [decide_eq_false (by omega)]; skip
      go_enter Try.func12, Try.ntmps12
      go_wp2
      all_goals go_ret
      all_goals exact ⟨ret_b (by first | rfl | (rw [dh])), by (repeat (first | (with_reducible exact Below.refl _ _) | (with_reducible assumption) | (with_reducible refine Near.up _ ?_) | (with_reducible refine Below.drew ?_) | (with_reducible refine below_alloc_on ?_ _) | (with_reducible refine below_set_on ?_ (by first | (simp; done) | (simp; omega) | omega) _)))⟩
    · rw [decide_eq_false (by omega)]; skip
      go_enter Try.func12, Try.ntmps12
      go_wp2
      all_goals go_ret
      all_goals exact ⟨ret_b (by first | rfl | (rw [dh])), by (repeat (first | (with_reducible exact Below.refl _ _) | (with_reducible assumption) | (with_reducible refine Near.up _ ?_) | (with_reducible refine Below.drew ?_) | (with_reducible refine below_alloc_on ?_ _) | (with_reducible refine below_set_on ?_ (by first | (simp; done) | (simp; omega) | omega) _)))⟩
    · rw [decide_eq_false (by omega)]; have dh : decide (b ≤ 99999999) = false := decide_eq_false (by omega)
      go_enter Try.func12, Try.ntmps12
      go_wp2
      all_goals go_ret
      all_goals exact ⟨ret_b (by first | rfl | (rw [dh])), by (repeat (first | (with_reducible exact Below.refl _ _) | (with_reducible assumption) | (with_reducible refine Near.up _ ?_) | (with_reducible refine Below.drew ?_) | (with_reducible refine below_alloc_on ?_ _) | (with_reducible refine below_set_on ?_ (by first | (simp; done) | (simp; omega) | omega) _)))⟩
    · rw [decide_eq_true ⟨h0, h1, h2, h⟩]; have dh := decide_eq_true h
      go_enter Try.func12, Try.ntmps12
      go_wp2
      all_goals go_ret
      all_goals exact ⟨ret_b (by first | rfl | (rw [dh])), by (repeat (first | (with_reducible exact Below.refl _ _) | (with_reducible assumption) | (with_reducible refine Near.up _ ?_) | (with_reducible refine Below.drew ?_) | (with_reducible refine below_alloc_on ?_ _) | (with_reducible refine below_set_on ?_ (by first | (simp; done) | (simp; omega) | omega) _)))⟩
  · have q0 : (t == 0) = false := by simpa using ht
    rw [decide_eq_false ht, Bool.false_or]
    clear ht
    generalize knB t = kb at *
    cases kb
    · rw [Bool.false_and]
      go_enter Try.func12, Try.ntmps12
      go_wp2_with (go_at_call 25; refine (HC.out _).mono ?_; rintro e w' ⟨rfl, rfl⟩)
      all_goals go_ret
      all_goals exact ⟨ret_b (by first | rfl | (rw [dh])), by (repeat (first | (with_reducible exact Below.refl _ _) | (with_reducible assumption) | (with_reducible refine Near.up _ ?_) | (with_reducible refine Below.drew ?_) | (with_reducible refine below_alloc_on ?_ _) | (with_reducible refine below_set_on ?_ (by first | (simp; done) | (simp; omega) | omega) _)))⟩
    · rw [Bool.true_and]
      rcases (by omega : d < 0 ∨ (0 ≤ d ∧ 4294967295 < d) ∨ (0 ≤ d ∧ d ≤ 4294967295 ∧ b < 0) ∨ (0 ≤ d ∧ d ≤ 4294967295 ∧ 0 ≤ b ∧ 99999999 < b) ∨ (0 ≤ d ∧ d ≤ 4294967295 ∧ 0 ≤ b ∧ b ≤ 99999999)) with h | ⟨h0, h⟩ | ⟨h0, h1, h⟩ | ⟨h0, h1, h2, h⟩ | ⟨h0, h1, h2, h⟩
      · rw [decide_eq_false (by omega)]; skip
        go_enter Try.func12, Try.ntmps12
        go_wp2_with (go_at_call 25; refine (HC.out _).mono ?_; rintro e w' ⟨rfl, rfl⟩)
        all_goals go_ret
        all_goals exact ⟨ret_b (by first | rfl | (rw [dh])), by (repeat (first | (with_reducible exact Below.refl _ _) | (with_reducible assumption) | (with_reducible refine Near.up _ ?_) | (with_reducible refine Below.drew ?_) | (with_reducible refine below_alloc_on ?_ _) | (with_reducible refine below_set_on ?_ (by first | (simp; done) | (simp; omega) | omega) _)))⟩
      · rw [decide_eq_false (by omega)]; skip
        go_enter Try.func12, Try.ntmps12
        go_wp2_with (go_at_call 25; refine (HC.out _).mono ?_; rintro e w' ⟨rfl, rfl⟩)
        all_goals go_ret
        all_goals exact ⟨ret_b (by first | rfl | (rw [dh])), by (repeat (first | (with_reducible exact Below.refl _ _) | (with_reducible assumption) | (with_reducible refine Near.up _ ?_) | (with_reducible refine Below.drew ?_) | (with_reducible refine below_alloc_on ?_ _) | (with_reducible refine below_set_on ?_ (by first | (simp; done) | (simp; omega) | omega) _)))⟩
      · rw [decide_eq_false (by omega)]; skip
        go_enter Try.func12, Try.ntmps12
        go_wp2_with (go_at_call 25; refine (HC.out _).mono ?_; rintro e w' ⟨rfl, rfl⟩)
        all_goals go_ret
        all_goals exact ⟨ret_b (by first | rfl | (rw [dh])), by (repeat (first | (with_reducible exact Below.refl _ _) | (with_reducible assumption) | (with_reducible refine Near.up _ ?_) | (with_reducible refine Below.drew ?_) | (with_reducible refine below_alloc_on ?_ _) | (with_reducible refine below_set_on ?_ (by first | (simp; done) | (simp; omega) | omega) _)))⟩
      · rw [decide_eq_false (by omega)]; have dh : decide (b ≤ 99999999) = false := decide_eq_false (by omega)
        go_enter Try.func12, Try.ntmps12
        go_wp2_with (go_at_call 25; refine (HC.out _).mono ?_; rintro e w' ⟨rfl, rfl⟩)
        all_goals go_ret
        all_goals exact ⟨ret_b (by first | rfl | (rw [dh])), by (repeat (first | (with_reducible exact Below.refl _ _) | (with_reducible assumption) | (with_reducible refine Near.up _ ?_) | (with_reducible refine Below.drew ?_) | (with_reducible refine below_alloc_on ?_ _) | (with_reducible refine below_set_on ?_ (by first | (simp; done) | (simp; omega) | omega) _)))⟩
      · rw [decide_eq_true ⟨h0, h1, h2, h⟩]; have dh := decide_eq_true h
        go_enter Try.func12, Try.ntmps12
        go_wp2_with (go_at_call 25; refine (HC.out _).mono ?_; rintro e w' ⟨rfl, rfl⟩)
        all_goals go_ret
        all_goals exact ⟨ret_b (by first | rfl | (rw [dh])), by (repeat (first | (with_reducible exact Below.refl _ _) | (with_reducible assumption) | (with_reducible refine Near.up _ ?_) | (with_reducible refine Below.drew ?_) | (with_reducible refine below_alloc_on ?_ _) | (with_reducible refine below_set_on ?_ (by first | (simp; done) | (simp; omega) | omega) _)))⟩

theorem j_right (q m r v k t d b : Int) (w : World) : Calls Try.prog 4 #[.agg #[.int .i64 q, .int .i64 m, .int .i64 r, .int .i64 v, .int .i64 k, .int .i64 t, .int .i64 d, .int .i64 b]] w fun e w' => e = .returned (.bool (enB q m r v k t d b)) ∧ Below w.heap.size w w' := by
  have HP := Lib.hid (fun w => j_prog r v k w)
  have HT := Lib.hid (fun w => j_total t d b w)
  have A : Below w.heap.size w w := Below.refl _ _
  unfold enB
  generalize pgB r v k = p at *
  generalize tlB t d b = u at *
  rcases (by omega : q < 1 ∨ (1 ≤ q ∧ 4294967295 < q) ∨ (1 ≤ q ∧ q ≤ 4294967295 ∧ m < 1) ∨ (1 ≤ q ∧ q ≤ 4294967295 ∧ 1 ≤ m ∧ 7 < m) ∨ (1 ≤ q ∧ q ≤ 4294967295 ∧ 1 ≤ m ∧ m ≤ 7)) with h | ⟨h0, h⟩ | ⟨h0, h1, h⟩ | ⟨h0, h1, h2, h⟩ | ⟨h0, h1, h2, h⟩
  · rw [decide_eq_false (by omega), Bool.false_and]
    go_enter Try.func4, Try.ntmps4
    go_wp2
    all_goals go_ret
    all_goals exact ⟨rfl, by (repeat (first | (with_reducible exact Below.refl _ _) | (with_reducible assumption) | (with_reducible refine Near.up _ ?_) | (with_reducible refine Below.drew ?_) | (with_reducible refine below_alloc_on ?_ _) | (with_reducible refine below_set_on ?_ (by first | (simp; done) | (simp; omega) | omega) _)))⟩
  · rw [decide_eq_false (by omega), Bool.false_and]
    go_enter Try.func4, Try.ntmps4
    go_wp2
    all_goals go_ret
    all_goals exact ⟨rfl, by (repeat (first | (with_reducible exact Below.refl _ _) | (with_reducible assumption) | (with_reducible refine Near.up _ ?_) | (with_reducible refine Below.drew ?_) | (with_reducible refine below_alloc_on ?_ _) | (with_reducible refine below_set_on ?_ (by first | (simp; done) | (simp; omega) | omega) _)))⟩
  · rw [decide_eq_false (by omega), Bool.false_and]
    go_enter Try.func4, Try.ntmps4
    go_wp2
    all_goals go_ret
    all_goals exact ⟨rfl, by (repeat (first | (with_reducible exact Below.refl _ _) | (with_reducible assumption) | (with_reducible refine Near.up _ ?_) | (with_reducible refine Below.drew ?_) | (with_reducible refine below_alloc_on ?_ _) | (with_reducible refine below_set_on ?_ (by first | (simp; done) | (simp; omega) | omega) _)))⟩
  · rw [decide_eq_false (by omega), Bool.false_and]
    go_enter Try.func4, Try.ntmps4
    go_wp2
    all_goals go_ret
    all_goals exact ⟨rfl, by (repeat (first | (with_reducible exact Below.refl _ _) | (with_reducible assumption) | (with_reducible refine Near.up _ ?_) | (with_reducible refine Below.drew ?_) | (with_reducible refine below_alloc_on ?_ _) | (with_reducible refine below_set_on ?_ (by first | (simp; done) | (simp; omega) | omega) _)))⟩
  · rw [decide_eq_true ⟨h0, h1, h2, h⟩, Bool.true_and]
    cases p
    · go_enter Try.func4, Try.ntmps4
      go_wp2_with (fail)
      refine (HP.out _).mono ?_
      rintro e w1 ⟨rfl, hb⟩
      replace A : Below w.heap.size w w1 := by (refine below_call ?_ hb; (repeat (first | (with_reducible exact Below.refl _ _) | (with_reducible assumption) | (with_reducible refine Near.up _ ?_) | (with_reducible refine Below.drew ?_) | (with_reducible refine below_alloc_on ?_ _) | (with_reducible refine below_set_on ?_ (by first | (simp; done) | (simp; omega) | omega) _))))
      replace B := Box.below (g := w.heap.size) (by (repeat (first | (with_reducible assumption) | (with_reducible exact box_new _ _ _) | ((with_reducible apply box_at); (first | (with_reducible rfl) | (simp <;> omega))) | (with_reducible apply Box.drew) | (with_reducible apply Box.drewN) | (with_reducible apply Box.near) | (with_reducible apply Box.alloc) | ((with_reducible apply box_far); (first | assumption | omega | (simp <;> omega))) | ((with_reducible apply Box.one_set); (with_reducible assumption)) | ((with_reducible apply Box.two_set); (with_reducible assumption)) | ((with_reducible apply Box.three_set); (with_reducible assumption)) | (with_reducible apply Box.set) | (simp only [List.size_toArray, List.length_cons, List.length_nil, Array.size_setIfInBounds] <;> omega)))) hb
      (try simp only [List.setIfInBounds_toArray, List.set_cons_zero, List.set_cons_succ] at B)
      (try clear cB fB)
      clear hb
      have z_w1 : w.heap.size ≤ w1.heap.size := A.size
      obtain ⟨lB_w1, cB, fB⟩ := id B
      go_wp2
      all_goals go_ret
      all_goals exact ⟨rfl, by (repeat (first | (with_reducible exact Below.refl _ _) | (with_reducible assumption) | (with_reducible refine Near.up _ ?_) | (with_reducible refine Below.drew ?_) | (with_reducible refine below_alloc_on ?_ _) | (with_reducible refine below_set_on ?_ (by first | (simp; done) | (simp; omega) | omega) _)))⟩
    · go_enter Try.func4, Try.ntmps4
      go_wp2_with (fail)
      refine (HP.out _).mono ?_
      rintro e w1 ⟨rfl, hb⟩
      replace A : Below w.heap.size w w1 := by (refine below_call ?_ hb; (repeat (first | (with_reducible exact Below.refl _ _) | (with_reducible assumption) | (with_reducible refine Near.up _ ?_) | (with_reducible refine Below.drew ?_) | (with_reducible refine below_alloc_on ?_ _) | (with_reducible refine below_set_on ?_ (by first | (simp; done) | (simp; omega) | omega) _))))
      replace B := Box.below (g := w.heap.size) (by (repeat (first | (with_reducible assumption) | (with_reducible exact box_new _ _ _) | ((with_reducible apply box_at); (first | (with_reducible rfl) | (simp <;> omega))) | (with_reducible apply Box.drew) | (with_reducible apply Box.drewN) | (with_reducible apply Box.near) | (with_reducible apply Box.alloc) | ((with_reducible apply box_far); (first | assumption | omega | (simp <;> omega))) | ((with_reducible apply Box.one_set); (with_reducible assumption)) | ((with_reducible apply Box.two_set); (with_reducible assumption)) | ((with_reducible apply Box.three_set); (with_reducible assumption)) | (with_reducible apply Box.set) | (simp only [List.size_toArray, List.length_cons, List.length_nil, Array.size_setIfInBounds] <;> omega)))) hb
      (try simp only [List.setIfInBounds_toArray, List.set_cons_zero, List.set_cons_succ] at B)
      (try clear cB fB)
      clear hb
      have z_w1 : w.heap.size ≤ w1.heap.size := A.size
      obtain ⟨lB_w1, cB, fB⟩ := id B
      go_wp2_with (fail)
      refine (HT.out _).mono ?_
      rintro e w2 ⟨rfl, hb⟩
      replace A : Below w.heap.size w w2 := by (refine below_call ?_ hb; (repeat (first | (with_reducible exact Below.refl _ _) | (with_reducible assumption) | (with_reducible refine Near.up _ ?_) | (with_reducible refine Below.drew ?_) | (with_reducible refine below_alloc_on ?_ _) | (with_reducible refine below_set_on ?_ (by first | (simp; done) | (simp; omega) | omega) _))))
      replace B := Box.below (g := w.heap.size) (by (repeat (first | (with_reducible assumption) | (with_reducible exact box_new _ _ _) | ((with_reducible apply box_at); (first | (with_reducible rfl) | (simp <;> omega))) | (with_reducible apply Box.drew) | (with_reducible apply Box.drewN) | (with_reducible apply Box.near) | (with_reducible apply Box.alloc) | ((with_reducible apply box_far); (first | assumption | omega | (simp <;> omega))) | ((with_reducible apply Box.one_set); (with_reducible assumption)) | ((with_reducible apply Box.two_set); (with_reducible assumption)) | ((with_reducible apply Box.three_set); (with_reducible assumption)) | (with_reducible apply Box.set) | (simp only [List.size_toArray, List.length_cons, List.length_nil, Array.size_setIfInBounds] <;> omega)))) hb
      (try simp only [List.setIfInBounds_toArray, List.set_cons_zero, List.set_cons_succ] at B)
      (try clear cB fB)
      clear hb
      have z_w2 : w.heap.size ≤ w2.heap.size := A.size
      obtain ⟨lB_w2, cB, fB⟩ := id B
      go_wp2
      all_goals go_ret
      all_goals exact ⟨rfl, by (repeat (first | (with_reducible exact Below.refl _ _) | (with_reducible assumption) | (with_reducible refine Near.up _ ?_) | (with_reducible refine Below.drew ?_) | (with_reducible refine below_alloc_on ?_ _) | (with_reducible refine below_set_on ?_ (by first | (simp; done) | (simp; omega) | omega) _)))⟩

set_option maxHeartbeats 2000000 in
theorem j_put (q m r v k t d b : Int) (w : World) : Calls Try.prog 13 #[.agg #[.int .i64 q, .int .i64 m, .int .i64 r, .int .i64 v, .int .i64 k, .int .i64 t, .int .i64 d, .int .i64 b]] w fun e w' => e = .returned (.tuple #[.string (ptS q m r v k t d b), .bool (enB q m r v k t d b)]) ∧ Below w.heap.size w w' := by
  have HR := Lib.hid (fun w => j_right q m r v k t d b w)
  have A : Below w.heap.size w w := Below.refl _ _
  cases he : enB q m r v k t d b
  · rw [pt_none he]
    rw [he] at HR
    clear he
    go_enter Try.func13, Try.ntmps13
    go_wp2_with (fail)
    refine (HR.out _).mono ?_
    rintro e w1 ⟨rfl, hb⟩
    replace A : Below w.heap.size w w1 := by (refine below_call ?_ hb; (repeat (first | (with_reducible exact Below.refl _ _) | (with_reducible assumption) | (with_reducible refine Near.up _ ?_) | (with_reducible refine Below.drew ?_) | (with_reducible refine below_alloc_on ?_ _) | (with_reducible refine below_set_on ?_ (by first | (simp; done) | (simp; omega) | omega) _))))
    replace B := Box.below (g := w.heap.size) (by (repeat (first | (with_reducible assumption) | (with_reducible exact box_new _ _ _) | ((with_reducible apply box_at); (first | (with_reducible rfl) | (simp <;> omega))) | (with_reducible apply Box.drew) | (with_reducible apply Box.drewN) | (with_reducible apply Box.near) | (with_reducible apply Box.alloc) | ((with_reducible apply box_far); (first | assumption | omega | (simp <;> omega))) | ((with_reducible apply Box.one_set); (with_reducible assumption)) | ((with_reducible apply Box.two_set); (with_reducible assumption)) | ((with_reducible apply Box.three_set); (with_reducible assumption)) | (with_reducible apply Box.set) | (simp only [List.size_toArray, List.length_cons, List.length_nil, Array.size_setIfInBounds] <;> omega)))) hb
    (try simp only [List.setIfInBounds_toArray, List.set_cons_zero, List.set_cons_succ] at B)
    (try clear cB fB)
    clear hb
    have z_w1 : w.heap.size ≤ w1.heap.size := A.size
    obtain ⟨lB_w1, cB, fB⟩ := id B
    go_wp2
    all_goals go_ret2
    all_goals exact ⟨rfl, A⟩
  · have hb := en_bd he
    rw [show ptS q m r v k t d b = sealB (pkS [q, m, r, v, k, t, d, b] wsL) by unfold ptS; rw [if_pos he]]
    have hsz := pkS_size [q, m, r, v, k, t, d, b] wsL
    have HP := Lib.hid (fun w B C c e (h : Ints w B 8 [q, m, r, v, k, t, d, b]) (g : Ints w C 8 wsL) => code_pack B C 8 c 8 e [q, m, r, v, k, t, d, b] wsL w h g (by omega) (by omega) (by
      intro x hx
      simp only [List.mem_cons, List.not_mem_nil, or_false] at hx
      omega))
    have HN := Lib.hid (fun w => j_numbers q m r v k t d b w)
    have HS := Lib.hid (fun w => crc_seal (pkS [q, m, r, v, k, t, d, b] wsL) w (by omega))
    rw [he] at HR
    clear he hb hsz
    generalize pkB [q, m, r, v, k, t, d, b] wsL = pb at *
    generalize pkS [q, m, r, v, k, t, d, b] wsL = ps at *
    generalize sealB ps = ss at *
    go_enter Try.func13, Try.ntmps13
    go_wp2_with (fail)
    refine (HR.out _).mono ?_
    rintro e w1 ⟨rfl, hb⟩
    replace A : Below w.heap.size w w1 := by (refine below_call ?_ hb; (repeat (first | (with_reducible exact Below.refl _ _) | (with_reducible assumption) | (with_reducible refine Near.up _ ?_) | (with_reducible refine Below.drew ?_) | (with_reducible refine below_alloc_on ?_ _) | (with_reducible refine below_set_on ?_ (by first | (simp; done) | (simp; omega) | omega) _))))
    replace B := Box.below (g := w.heap.size) (by (repeat (first | (with_reducible assumption) | (with_reducible exact box_new _ _ _) | ((with_reducible apply box_at); (first | (with_reducible rfl) | (simp <;> omega))) | (with_reducible apply Box.drew) | (with_reducible apply Box.drewN) | (with_reducible apply Box.near) | (with_reducible apply Box.alloc) | ((with_reducible apply box_far); (first | assumption | omega | (simp <;> omega))) | ((with_reducible apply Box.one_set); (with_reducible assumption)) | ((with_reducible apply Box.two_set); (with_reducible assumption)) | ((with_reducible apply Box.three_set); (with_reducible assumption)) | (with_reducible apply Box.set) | (simp only [List.size_toArray, List.length_cons, List.length_nil, Array.size_setIfInBounds] <;> omega)))) hb
    (try simp only [List.setIfInBounds_toArray, List.set_cons_zero, List.set_cons_succ] at B)
    (try clear cB fB)
    clear hb
    have z_w1 : w.heap.size ≤ w1.heap.size := A.size
    obtain ⟨lB_w1, cB, fB⟩ := id B
    go_wp2_with (fail)
    refine (HN.out _).mono ?_
    rintro e w2 ⟨B2, c2, rfl, hc2, hi2, hb⟩
    replace A := below_call A hb
    clear hb
    go_wp2_with (fail)
    refine (j_widths _).mono ?_
    rintro e w3 ⟨B3, c3, rfl, hc3, hi3, hb⟩
    replace A := below_call A hb
    replace hi2 := hi2.below hb
    clear hb
    go_wp2_with (fail)
    refine (HP.out _ _ _ _ _ hi2 hi3).mono ?_
    rintro e w4 ⟨rfl, hb⟩
    replace A : Below w.heap.size w w4 := by (refine below_call ?_ hb; (repeat (first | (with_reducible exact Below.refl _ _) | (with_reducible assumption) | (with_reducible refine Near.up _ ?_) | (with_reducible refine Below.drew ?_) | (with_reducible refine below_alloc_on ?_ _) | (with_reducible refine below_set_on ?_ (by first | (simp; done) | (simp; omega) | omega) _))))
    clear hb
    have z_w4 : w.heap.size ≤ w4.heap.size := A.size
    go_wp2_with (fail)
    refine (HS.out _).mono ?_
    rintro e w5 ⟨rfl, hb⟩
    replace A : Below w.heap.size w w5 := by (refine below_call ?_ hb; (repeat (first | (with_reducible exact Below.refl _ _) | (with_reducible assumption) | (with_reducible refine Near.up _ ?_) | (with_reducible refine Below.drew ?_) | (with_reducible refine below_alloc_on ?_ _) | (with_reducible refine below_set_on ?_ (by first | (simp; done) | (simp; omega) | omega) _))))
    clear hb
    have z_w5 : w.heap.size ≤ w5.heap.size := A.size
    go_wp2
    all_goals go_ret2
    all_goals exact ⟨rfl, A⟩
end Go.Proofs.Ythibaehiponfnaa
