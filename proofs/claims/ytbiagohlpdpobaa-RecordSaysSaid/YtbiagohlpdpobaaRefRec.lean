/- The document's record. -/
import Derived.Test.YtbiagohlpdpobaaRec
import Derived.Test.YtbiagohlpdpobaaRef3
namespace Go.Proofs.Ytbiagohlpdpobaa
open Go.RowKit Ieee
set_option linter.unusedVariables false
attribute [local go_sem] run_store_real

theorem rr_field (x : Nat) (hi mark : Int) (w : World) : Calls Try.prog 17 #[.float .f64 x, .int .i64 hi, .int .i64 mark] w fun e w' => e = .returned (.tuple #[.int .i64 (tkV x 0 hi), .int .i64 (mkV (tkB x 0 hi) mark)]) ∧ w = w' := by
  have h1 := fun w => q_take x 0 hi w
  unfold mkV
  cases hp : tkB x 0 hi
  all_goals
    rw [hp] at h1
    have H1 := Lib.hid h1
    clear h1 hp
    go_enter Try.func17, Try.ntmps17
    go_wp2_with (go_at_call 23; refine (H1.out _).mono ?_; rintro e w' ⟨rfl, rfl⟩)
    all_goals go_ret2
    all_goals exact ⟨rfl, rfl⟩
theorem rr_in (n most : Int) (w : World) : Calls Try.prog 20 #[.int .i64 n, .int .i64 most] w fun e w' => e = .returned (.bool (upB n most)) ∧ w = w' := by
  unfold upB
  go_enter Try.func20, Try.ntmps20
  go_wp2
  all_goals go_ret
  all_goals exact ⟨ret_b (by simp_all <;> omega), rfl⟩

theorem or2 (a t : Bool) : bits .or .i64 (mkV a 1) (mkV t 2) = mkV a 1 + mkV t 2 := by cases a <;> cases t <;> decide +kernel
theorem or3 (a t b : Bool) : bits .or .i64 (mkV a 1 + mkV t 2) (mkV b 4) = mkV a 1 + mkV t 2 + mkV b 4 := by cases a <;> cases t <;> cases b <;> decide +kernel
theorem or4 (a t b e : Bool) : bits .or .i64 (mkV a 1 + mkV t 2 + mkV b 4) (mkV e 8) = mkV a 1 + mkV t 2 + mkV b 4 + mkV e 8 := by cases a <;> cases t <;> cases b <;> cases e <;> decide +kernel
theorem or5 (a t b e : Bool) : bits .or .i64 (mkV a 1 + mkV t 2 + mkV b 4 + mkV e 8) 16 = mkV a 1 + mkV t 2 + mkV b 4 + mkV e 8 + 16 := by cases a <;> cases t <;> cases b <;> cases e <;> decide +kernel

set_option maxRecDepth 100000 in
set_option maxHeartbeats 1000000 in
theorem rr_take (a t b e : Nat) (d : Bool) (k : Int) (z : Bool) (w : World) :
    Calls Try.prog 10 #[.agg #[.float .f64 a, .float .f64 t, .float .f64 b, .float .f64 e, .bool d, .int .i64 k, .bool z]] w fun x w' =>
      x = .returned (.agg #[.int .i64 (tkV a 0 4095), .int .i64 (tkV t 0 180), .int .i64 (tkV b 0 6000), .int .i64 (tkV e 0 300), .bool d, .int .i64 (kyV k), .bool z,
        .int .i64 (badV (tkB a 0 4095) (tkB t 0 180) (tkB b 0 6000) (tkB e 0 300) (!upB k 10))]) ∧ Below w.heap.size w w' := by
  have h1 := fun w => rr_field a 4095 1 w
  have h2 := fun w => rr_field t 180 2 w
  have h3 := fun w => rr_field b 6000 4 w
  have h4 := fun w => rr_field e 300 8 w
  generalize tkV a 0 4095 = A at *
  generalize tkB a 0 4095 = pA at *
  generalize tkV t 0 180 = T at *
  generalize tkB t 0 180 = pT at *
  generalize tkV b 0 6000 = B at *
  generalize tkB b 0 6000 = pB at *
  generalize tkV e 0 300 = E at *
  generalize tkB e 0 300 = pE at *
  have o2 := or2 pA pT
  have o3 := or3 pA pT pB
  have o4 := or4 pA pT pB pE
  have o5 := or5 pA pT pB pE
  have H1 := Lib.hid h1
  have H2 := Lib.hid h2
  have H3 := Lib.hid h3
  have H4 := Lib.hid h4
  clear h1 h2 h3 h4
  unfold badV
  rcases (by omega : k < 0 ∨ (¬ k < 0 ∧ 10 < k) ∨ (¬ k < 0 ∧ ¬ 10 < k)) with g1 | ⟨g1, g2⟩ | ⟨g1, g2⟩
  · rw [show kyV k = 0 by unfold kyV upB; rw [if_neg]; simp; omega, show (!upB k 10) = true by unfold upB; simp; omega, show mkV true 16 = 16 from rfl]
    go_enter Try.func10, Try.ntmps10
    go_wp2_with (first
      | (go_at_call 17; ((with_reducible refine (H1.out _).mono ?_)); rintro x w' ⟨rfl, rfl⟩)
      | (go_at_call 17; ((with_reducible refine (H2.out _).mono ?_)); rintro x w' ⟨rfl, rfl⟩)
      | (go_at_call 17; ((with_reducible refine (H3.out _).mono ?_)); rintro x w' ⟨rfl, rfl⟩)
      | (go_at_call 17; ((with_reducible refine (H4.out _).mono ?_)); rintro x w' ⟨rfl, rfl⟩))
    exact bodyPost_ret (v := .agg #[.int .i64 A, .int .i64 T, .int .i64 B, .int .i64 E, .bool d, .int .i64 0, .bool z, .int .i64 (mkV pA 1 + mkV pT 2 + mkV pB 4 + mkV pE 8 + 16)])
      (by simp [results, Try.results10, go_sem]) rfl ⟨rfl, by (repeat (first | (with_reducible exact Below.refl _ _) | (with_reducible assumption) | (with_reducible refine Near.up _ ?_) | (with_reducible refine below_alloc_on ?_ _) | (with_reducible refine below_set_on ?_ (by first | (simp; done) | (simp; omega) | omega) _)))⟩
  · rw [show kyV k = 0 by unfold kyV upB; rw [if_neg]; simp; omega, show (!upB k 10) = true by unfold upB; simp; omega, show mkV true 16 = 16 from rfl]
    go_enter Try.func10, Try.ntmps10
    go_wp2_with (first
      | (go_at_call 17; ((with_reducible refine (H1.out _).mono ?_)); rintro x w' ⟨rfl, rfl⟩)
      | (go_at_call 17; ((with_reducible refine (H2.out _).mono ?_)); rintro x w' ⟨rfl, rfl⟩)
      | (go_at_call 17; ((with_reducible refine (H3.out _).mono ?_)); rintro x w' ⟨rfl, rfl⟩)
      | (go_at_call 17; ((with_reducible refine (H4.out _).mono ?_)); rintro x w' ⟨rfl, rfl⟩))
    exact bodyPost_ret (v := .agg #[.int .i64 A, .int .i64 T, .int .i64 B, .int .i64 E, .bool d, .int .i64 0, .bool z, .int .i64 (mkV pA 1 + mkV pT 2 + mkV pB 4 + mkV pE 8 + 16)])
      (by simp [results, Try.results10, go_sem]) rfl ⟨rfl, by (repeat (first | (with_reducible exact Below.refl _ _) | (with_reducible assumption) | (with_reducible refine Near.up _ ?_) | (with_reducible refine below_alloc_on ?_ _) | (with_reducible refine below_set_on ?_ (by first | (simp; done) | (simp; omega) | omega) _)))⟩
  · rw [show kyV k = k by unfold kyV upB; rw [if_pos]; simp; omega, show (!upB k 10) = false by unfold upB; simp; omega, show mkV false 16 = 0 from rfl, Int.add_zero]
    go_enter Try.func10, Try.ntmps10
    go_wp2_with (first
      | (go_at_call 17; ((with_reducible refine (H1.out _).mono ?_)); rintro x w' ⟨rfl, rfl⟩)
      | (go_at_call 17; ((with_reducible refine (H2.out _).mono ?_)); rintro x w' ⟨rfl, rfl⟩)
      | (go_at_call 17; ((with_reducible refine (H3.out _).mono ?_)); rintro x w' ⟨rfl, rfl⟩)
      | (go_at_call 17; ((with_reducible refine (H4.out _).mono ?_)); rintro x w' ⟨rfl, rfl⟩))
    exact bodyPost_ret (v := .agg #[.int .i64 A, .int .i64 T, .int .i64 B, .int .i64 E, .bool d, .int .i64 k, .bool z, .int .i64 (mkV pA 1 + mkV pT 2 + mkV pB 4 + mkV pE 8)])
      (by simp [results, Try.results10, go_sem]) rfl ⟨rfl, by (repeat (first | (with_reducible exact Below.refl _ _) | (with_reducible assumption) | (with_reducible refine Near.up _ ?_) | (with_reducible refine below_alloc_on ?_ _) | (with_reducible refine below_set_on ?_ (by first | (simp; done) | (simp; omega) | omega) _)))⟩

theorem rr_raw (a t b e : Int) (d : Bool) (k : Int) (z : Bool) (o : Int) (w : World) :
    Calls Try.prog 8 #[.agg #[.int .i64 a, .int .i64 t, .int .i64 b, .int .i64 e, .bool d, .int .i64 k, .bool z, .int .i64 o]] w fun x w' =>
      x = .returned (.agg #[.float .f64 (floatOfInt .f64 a), .float .f64 (floatOfInt .f64 t), .float .f64 (floatOfInt .f64 b), .float .f64 (floatOfInt .f64 e), .bool d, .int .i64 k, .bool z]) ∧ Below w.heap.size w w' := by
  go_enter Try.func8, Try.ntmps8
  go_wp2
  exact bodyPost_ret (v := .agg #[.float .f64 (floatOfInt .f64 a), .float .f64 (floatOfInt .f64 t), .float .f64 (floatOfInt .f64 b), .float .f64 (floatOfInt .f64 e), .bool d, .int .i64 k, .bool z])
    (by simp [results, Try.results8, go_sem]) rfl ⟨rfl, by (repeat (first | (with_reducible exact Below.refl _ _) | (with_reducible assumption) | (with_reducible refine Near.up _ ?_) | (with_reducible refine below_alloc_on ?_ _) | (with_reducible refine below_set_on ?_ (by first | (simp; done) | (simp; omega) | omega) _)))⟩

theorem rr_clean (a t b e : Int) (d : Bool) (k : Int) (z : Bool) (o : Int) (w : World) :
    Calls Try.prog 12 #[.agg #[.int .i64 a, .int .i64 t, .int .i64 b, .int .i64 e, .bool d, .int .i64 k, .bool z, .int .i64 o]] w fun x w' =>
      x = .returned (.bool (clnB a t b e k o)) ∧ Below w.heap.size w w' := by
  have h1 := fun w => rr_in a 4095 w
  have h2 := fun w => rr_in t 180 w
  have h3 := fun w => rr_in b 6000 w
  have h4 := fun w => rr_in e 300 w
  have h5 := fun w => rr_in k 10 w
  have h6 := fun w => rr_in o 31 w
  unfold clnB
  generalize upB a 4095 = q1 at *
  generalize upB t 180 = q2 at *
  generalize upB b 6000 = q3 at *
  generalize upB e 300 = q4 at *
  generalize upB k 10 = q5 at *
  generalize upB o 31 = q6 at *
  have H1 := Lib.hid h1
  have H2 := Lib.hid h2
  have H3 := Lib.hid h3
  have H4 := Lib.hid h4
  have H5 := Lib.hid h5
  have H6 := Lib.hid h6
  clear h1 h2 h3 h4 h5 h6
  go_enter Try.func12, Try.ntmps12
  go_wp2_with (first
    | (go_at_call 20; ((with_reducible refine (H1.out _).mono ?_)); rintro x w' ⟨rfl, rfl⟩)
    | (go_at_call 20; ((with_reducible refine (H2.out _).mono ?_)); rintro x w' ⟨rfl, rfl⟩)
    | (go_at_call 20; ((with_reducible refine (H3.out _).mono ?_)); rintro x w' ⟨rfl, rfl⟩)
    | (go_at_call 20; ((with_reducible refine (H4.out _).mono ?_)); rintro x w' ⟨rfl, rfl⟩)
    | (go_at_call 20; ((with_reducible refine (H5.out _).mono ?_)); rintro x w' ⟨rfl, rfl⟩)
    | (go_at_call 20; ((with_reducible refine (H6.out _).mono ?_)); rintro x w' ⟨rfl, rfl⟩))
  all_goals go_ret
  all_goals exact ⟨ret_b (by simp_all), by (repeat (first | (with_reducible exact Below.refl _ _) | (with_reducible assumption) | (with_reducible refine Near.up _ ?_) | (with_reducible refine below_alloc_on ?_ _) | (with_reducible refine below_set_on ?_ (by first | (simp; done) | (simp; omega) | omega) _)))⟩
end Go.Proofs.Ytbiagohlpdpobaa
