/- Contracts of package posture, the document's, and the law package's own. -/
import Derived.Test.YtbglkokdnkcknaaMore
namespace Go.Proofs.Ytbglkokdnkcknaa
open Go.RowKit
set_option linter.unusedVariables false
attribute [local go_sem] cell_set_ite Near.cell Near.frozen

def poT (n t : Int) : Int := roV n (decide (30 < t))
def poB (n v : Int) : Int := roV n (decide (v < 3300))
def whB (n : Int) : Bool := decide (20 ≤ n)
def lwB (n : Int) : Bool := decide (n < 3500)

theorem po_run (n : Int) (x : Bool) (w : World) : Calls Try.prog 56 #[.int .i64 n, .bool x] w fun e w' => e = .returned (.int .i64 (roV n x)) ∧ w = w' := by
  cases x
  · go_enter Try.func56, Try.ntmps56
    go_wp2
    all_goals go_ret
    all_goals exact ⟨rfl, rfl⟩
  · go_enter Try.func56, Try.ntmps56
    go_wp2
    all_goals go_ret
    all_goals exact ⟨ret_i (by rw [ro_yes]; unfold moV; omega), rfl⟩
theorem rp_more (n : Int) (x : Bool) (w : World) : Calls Try.prog 57 #[.bool x, .int .i64 n] w fun e w' => e = .returned (.int .i64 (roV n x)) ∧ w = w' := by
  cases x
  · go_enter Try.func57, Try.ntmps57
    go_wp2
    all_goals go_ret
    all_goals exact ⟨rfl, rfl⟩
  · go_enter Try.func57, Try.ntmps57
    go_wp2
    all_goals go_ret
    all_goals exact ⟨ret_i (by rw [ro_yes]; unfold moV; omega), rfl⟩
theorem po_tilted (n v : Int) (w : World) : Calls Try.prog 36 #[.agg #[.int .i64 n, .int .i64 v]] w fun e w' => e = .returned (.bool (whB n)) ∧ Below w.heap.size w w' := by
  go_enter Try.func36, Try.ntmps36
  go_wp2
  all_goals go_ret
  all_goals exact ⟨rfl, by (repeat (first | (with_reducible exact Below.refl _ _) | (with_reducible assumption) | (with_reducible refine Near.up _ ?_) | (with_reducible refine below_alloc_on ?_ _) | (with_reducible refine below_set_on ?_ (by first | (simp; done) | (simp; omega) | omega) _)))⟩
theorem po_flat (n v : Int) (w : World) : Calls Try.prog 38 #[.agg #[.int .i64 n, .int .i64 v]] w fun e w' => e = .returned (.bool (whB v)) ∧ Below w.heap.size w w' := by
  go_enter Try.func38, Try.ntmps38
  go_wp2
  all_goals go_ret
  all_goals exact ⟨rfl, by (repeat (first | (with_reducible exact Below.refl _ _) | (with_reducible assumption) | (with_reducible refine Near.up _ ?_) | (with_reducible refine below_alloc_on ?_ _) | (with_reducible refine below_set_on ?_ (by first | (simp; done) | (simp; omega) | omega) _)))⟩
theorem po_low (n : Int) (w : World) : Calls Try.prog 40 #[.int .i64 n] w fun e w' => e = .returned (.bool (lwB n)) ∧ w = w' := by
  go_enter Try.func40, Try.ntmps40
  go_wp2
  all_goals go_ret
  all_goals exact ⟨rfl, rfl⟩
theorem rp_tilted (n v : Int) (w : World) : Calls Try.prog 37 #[.agg #[.int .i64 n, .int .i64 v]] w fun e w' => e = .returned (.bool (whB n)) ∧ Below w.heap.size w w' := by
  go_enter Try.func37, Try.ntmps37
  go_wp2
  all_goals go_ret
  all_goals exact ⟨rfl, by (repeat (first | (with_reducible exact Below.refl _ _) | (with_reducible assumption) | (with_reducible refine Near.up _ ?_) | (with_reducible refine below_alloc_on ?_ _) | (with_reducible refine below_set_on ?_ (by first | (simp; done) | (simp; omega) | omega) _)))⟩
theorem rp_flat (n v : Int) (w : World) : Calls Try.prog 39 #[.agg #[.int .i64 n, .int .i64 v]] w fun e w' => e = .returned (.bool (whB v)) ∧ Below w.heap.size w w' := by
  go_enter Try.func39, Try.ntmps39
  go_wp2
  all_goals go_ret
  all_goals exact ⟨rfl, by (repeat (first | (with_reducible exact Below.refl _ _) | (with_reducible assumption) | (with_reducible refine Near.up _ ?_) | (with_reducible refine below_alloc_on ?_ _) | (with_reducible refine below_set_on ?_ (by first | (simp; done) | (simp; omega) | omega) _)))⟩
theorem rp_low (n : Int) (w : World) : Calls Try.prog 41 #[.int .i64 n] w fun e w' => e = .returned (.bool (lwB n)) ∧ w = w' := by
  go_enter Try.func41, Try.ntmps41
  go_wp2
  all_goals go_ret
  all_goals exact ⟨rfl, rfl⟩
theorem po_step (n v t b : Int) (w : World) : Calls Try.prog 34 #[.agg #[.int .i64 n, .int .i64 v], .int .i64 t, .int .i64 b] w fun e w' => e = .returned (.agg #[.int .i64 (poT n t), .int .i64 (poB v b)]) ∧ Below w.heap.size w w' := by
  unfold poT poB
  go_enter Try.func34, Try.ntmps34
  go_wp2
  refine wp_region_calm_tail 11 (by kernel_rfl) (by kernel_rfl) ?_
  simp only [List.take_succ_cons, List.take_zero, List.drop_succ_cons, List.drop_zero]
  repeat (go_big_quiet_step (((go_at_call 56; exact calm_same _ (po_run _ _ _)))))
  refine wpQuiet_nil ?_
  intro _ hw'
  obtain ⟨u, rfl⟩ := hw'
  go_wp2
  exact bodyPost_ret (v := .agg #[.int .i64 (roV n (decide (30 < t))), .int .i64 (roV v (decide (b < 3300)))]) (by simp [results, Try.results34, go_sem]) rfl ⟨rfl, by (repeat (first | (with_reducible exact Below.refl _ _) | (with_reducible assumption) | (with_reducible refine Near.up _ ?_) | (with_reducible refine below_alloc_on ?_ _) | (with_reducible refine below_set_on ?_ (by first | (simp; done) | (simp; omega) | omega) _)))⟩
theorem rp_step (n v t b : Int) (w : World) : Calls Try.prog 35 #[.agg #[.int .i64 n, .int .i64 v], .int .i64 t, .int .i64 b] w fun e w' => e = .returned (.agg #[.int .i64 (poT n t), .int .i64 (poB v b)]) ∧ Below w.heap.size w w' := by
  unfold poT poB
  go_enter Try.func35, Try.ntmps35
  go_wp2
  refine wp_region_calm_tail 11 (by kernel_rfl) (by kernel_rfl) ?_
  simp only [List.take_succ_cons, List.take_zero, List.drop_succ_cons, List.drop_zero]
  repeat (go_big_quiet_step (((go_at_call 57; exact calm_same _ (rp_more _ _ _)))))
  refine wpQuiet_nil ?_
  intro _ hw'
  obtain ⟨u, rfl⟩ := hw'
  go_wp2
  exact bodyPost_ret (v := .agg #[.int .i64 (roV n (decide (30 < t))), .int .i64 (roV v (decide (b < 3300)))]) (by simp [results, Try.results35, go_sem]) rfl ⟨rfl, by (repeat (first | (with_reducible exact Below.refl _ _) | (with_reducible assumption) | (with_reducible refine Near.up _ ?_) | (with_reducible refine below_alloc_on ?_ _) | (with_reducible refine below_set_on ?_ (by first | (simp; done) | (simp; omega) | omega) _)))⟩

theorem law33_awake (w : World) : Calls Try.prog 42 #[] w fun e w' => e = .returned (.bool true) ∧ Below w.heap.size w w' := by
  have e1 : poT 19 31 = 20 := by decide +kernel
  have e2 : poB 3 3300 = 0 := by decide +kernel
  have e3 : whB 20 = true := by decide +kernel
  have e4 : whB 0 = false := by decide +kernel
  have e5 : poT 20 30 = 0 := by decide +kernel
  have e6 : poB 0 3299 = 1 := by decide +kernel
  have e7 : lwB 3499 = true := by decide +kernel
  have e8 : lwB 3500 = false := by decide +kernel
  have A : Below w.heap.size w w := Below.refl _ _
  go_enter Try.func42, Try.ntmps42
  go_wp2_with (fail)
  refine (po_step _ _ _ _ _).mono ?_
  rintro e w1 ⟨rfl, hb⟩
  replace A : Below w.heap.size w w1 := by (refine below_call ?_ hb; (repeat (first | (with_reducible exact Below.refl _ _) | (with_reducible assumption) | (with_reducible refine Near.up _ ?_) | (with_reducible refine below_alloc_on ?_ _) | (with_reducible refine below_set_on ?_ (by first | (simp; done) | (simp; omega) | omega) _))))
  clear hb
  have z_w1 : w.heap.size ≤ w1.heap.size := A.size
  go_wp2_with (fail)
  refine (po_tilted _ _ _).mono ?_
  rintro e w2 ⟨rfl, hb⟩
  replace A : Below w.heap.size w w2 := by (refine below_call ?_ hb; (repeat (first | (with_reducible exact Below.refl _ _) | (with_reducible assumption) | (with_reducible refine Near.up _ ?_) | (with_reducible refine below_alloc_on ?_ _) | (with_reducible refine below_set_on ?_ (by first | (simp; done) | (simp; omega) | omega) _))))
  replace B := Box.below (g := w1.heap.size) (by (repeat (first | (with_reducible assumption) | (with_reducible exact box_new _ _ _) | (with_reducible refine Box.near ?_ _) | (with_reducible refine Box.alloc ?_ _) | (with_reducible refine Box.far ?_ (by first | assumption | (simp; done) | (simp; omega) | omega) _) | (with_reducible refine Box.set ?_ ?_ _) | (simp; done)))) hb
  (try clear cB fB)
  clear hb
  have z_w2 : w.heap.size ≤ w2.heap.size := A.size
  obtain ⟨lB_w2, cB, fB⟩ := id B
  go_wp2_with (fail)
  refine (po_flat _ _ _).mono ?_
  rintro e w3 ⟨rfl, hb⟩
  replace A : Below w.heap.size w w3 := by (refine below_call ?_ hb; (repeat (first | (with_reducible exact Below.refl _ _) | (with_reducible assumption) | (with_reducible refine Near.up _ ?_) | (with_reducible refine below_alloc_on ?_ _) | (with_reducible refine below_set_on ?_ (by first | (simp; done) | (simp; omega) | omega) _))))
  replace B := Box.below (g := w1.heap.size) (by (repeat (first | (with_reducible assumption) | (with_reducible exact box_new _ _ _) | (with_reducible refine Box.near ?_ _) | (with_reducible refine Box.alloc ?_ _) | (with_reducible refine Box.far ?_ (by first | assumption | (simp; done) | (simp; omega) | omega) _) | (with_reducible refine Box.set ?_ ?_ _) | (simp; done)))) hb
  (try clear cB fB)
  clear hb
  have z_w3 : w.heap.size ≤ w3.heap.size := A.size
  obtain ⟨lB_w3, cB, fB⟩ := id B
  go_wp2_with (fail)
  refine (po_step _ _ _ _ _).mono ?_
  rintro e w4 ⟨rfl, hb⟩
  replace A : Below w.heap.size w w4 := by (refine below_call ?_ hb; (repeat (first | (with_reducible exact Below.refl _ _) | (with_reducible assumption) | (with_reducible refine Near.up _ ?_) | (with_reducible refine below_alloc_on ?_ _) | (with_reducible refine below_set_on ?_ (by first | (simp; done) | (simp; omega) | omega) _))))
  replace B := Box.below (g := w1.heap.size) (by (repeat (first | (with_reducible assumption) | (with_reducible exact box_new _ _ _) | (with_reducible refine Box.near ?_ _) | (with_reducible refine Box.alloc ?_ _) | (with_reducible refine Box.far ?_ (by first | assumption | (simp; done) | (simp; omega) | omega) _) | (with_reducible refine Box.set ?_ ?_ _) | (simp; done)))) hb
  (try clear cB fB)
  clear hb
  have z_w4 : w.heap.size ≤ w4.heap.size := A.size
  obtain ⟨lB_w4, cB, fB⟩ := id B
  go_wp2_with (go_at_call 40; refine (po_low _ _).mono ?_; rintro e w' ⟨rfl, rfl⟩)
  all_goals go_ret
  all_goals exact ⟨rfl, A⟩
end Go.Proofs.Ytbglkokdnkcknaa
