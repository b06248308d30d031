/- Contracts of package posture, the document's, and the law package's own. -/
import Derived.Test.YtmocppghmdeahaaGreatMore
namespace Go.Proofs.YtmocppghmdeahaaGreat
set_option maxRecDepth 100000
open Go.RowKit
set_option linter.unusedVariables false
set_option linter.unusedSimpArgs false
attribute [local go_sem] cell_set_ite Near.cell Near.frozen

def poT (n t : Int) : Int := roV n (decide (30 < t))
def poB (n v : Int) : Int := roV n (decide (v < 3300))
def whB (n : Int) : Bool := decide (20 ≤ n)
def lwB (n : Int) : Bool := decide (n < 3500)

theorem po_run (n : Int) (x : Bool) (w : World) : Calls Tryz.prog 50 #[.int .i64 n, .bool x] w fun e w' => e = .returned (.int .i64 (roV n x)) ∧ w = w' := by
  cases x
  · go_enter Tryz.func50, Tryz.ntmps50
    go_wp2
    all_goals go_ret
    all_goals exact ⟨rfl, rfl⟩
  · go_enter Tryz.func50, Tryz.ntmps50
    go_wp2
    all_goals go_ret
    all_goals exact ⟨ret_i (by rw [ro_yes]; unfold moV; omega), rfl⟩
theorem rp_more (n : Int) (x : Bool) (w : World) : Calls Tryz.prog 63 #[.bool x, .int .i64 n] w fun e w' => e = .returned (.int .i64 (roV n x)) ∧ w = w' := by
  cases x
  · go_enter Tryz.func63, Tryz.ntmps63
    go_wp2
    all_goals go_ret
    all_goals exact ⟨rfl, rfl⟩
  · go_enter Tryz.func63, Tryz.ntmps63
    go_wp2
    all_goals go_ret
    all_goals exact ⟨ret_i (by rw [ro_yes]; unfold moV; omega), rfl⟩
theorem po_tilted (n v : Int) (w : World) : Calls Tryz.prog 27 #[.agg #[.int .i64 n, .int .i64 v]] w fun e w' => e = .returned (.bool (whB n)) ∧ Below w.heap.size w w' := by
  go_enter Tryz.func27, Tryz.ntmps27
  go_wp2
  all_goals go_ret
  all_goals exact ⟨rfl, by (repeat (first | (with_reducible exact Below.refl _ _) | (with_reducible assumption) | (with_reducible refine Near.up _ ?_) | (with_reducible refine Below.drew ?_) | (with_reducible refine below_alloc_on ?_ _) | (with_reducible refine below_set_on ?_ (by first | (simp; done) | (simp; omega) | omega) _)))⟩
theorem po_flat (n v : Int) (w : World) : Calls Tryz.prog 28 #[.agg #[.int .i64 n, .int .i64 v]] w fun e w' => e = .returned (.bool (whB v)) ∧ Below w.heap.size w w' := by
  go_enter Tryz.func28, Tryz.ntmps28
  go_wp2
  all_goals go_ret
  all_goals exact ⟨rfl, by (repeat (first | (with_reducible exact Below.refl _ _) | (with_reducible assumption) | (with_reducible refine Near.up _ ?_) | (with_reducible refine Below.drew ?_) | (with_reducible refine below_alloc_on ?_ _) | (with_reducible refine below_set_on ?_ (by first | (simp; done) | (simp; omega) | omega) _)))⟩
theorem rp_tilted (n v : Int) (w : World) : Calls Tryz.prog 74 #[.agg #[.int .i64 n, .int .i64 v]] w fun e w' => e = .returned (.bool (whB n)) ∧ Below w.heap.size w w' := by
  go_enter Tryz.func74, Tryz.ntmps74
  go_wp2
  all_goals go_ret
  all_goals exact ⟨rfl, by (repeat (first | (with_reducible exact Below.refl _ _) | (with_reducible assumption) | (with_reducible refine Near.up _ ?_) | (with_reducible refine Below.drew ?_) | (with_reducible refine below_alloc_on ?_ _) | (with_reducible refine below_set_on ?_ (by first | (simp; done) | (simp; omega) | omega) _)))⟩
theorem rp_flat (n v : Int) (w : World) : Calls Tryz.prog 75 #[.agg #[.int .i64 n, .int .i64 v]] w fun e w' => e = .returned (.bool (whB v)) ∧ Below w.heap.size w w' := by
  go_enter Tryz.func75, Tryz.ntmps75
  go_wp2
  all_goals go_ret
  all_goals exact ⟨rfl, by (repeat (first | (with_reducible exact Below.refl _ _) | (with_reducible assumption) | (with_reducible refine Near.up _ ?_) | (with_reducible refine Below.drew ?_) | (with_reducible refine below_alloc_on ?_ _) | (with_reducible refine below_set_on ?_ (by first | (simp; done) | (simp; omega) | omega) _)))⟩
theorem po_step (n v t b : Int) (w : World) : Calls Tryz.prog 19 #[.agg #[.int .i64 n, .int .i64 v], .int .i64 t, .int .i64 b] w fun e w' => e = .returned (.agg #[.int .i64 (poT n t), .int .i64 (poB v b)]) ∧ Below w.heap.size w w' := by
  unfold poT poB
  go_enter Tryz.func19, Tryz.ntmps19
  go_wp2
  refine wp_region_calm_tail 11 (by kernel_rfl) (by kernel_rfl) ?_
  simp only [List.take_succ_cons, List.take_zero, List.drop_succ_cons, List.drop_zero]
  repeat (go_big_quiet_step (((go_at_call 50; exact calm_same _ (po_run _ _ _)))))
  refine wpQuiet_nil ?_
  intro _ hw'
  obtain ⟨u, rfl⟩ := hw'
  go_wp2
  exact bodyPost_ret (v := .agg #[.int .i64 (roV n (decide (30 < t))), .int .i64 (roV v (decide (b < 3300)))]) (by simp [results, Tryz.results19, go_sem]) rfl ⟨rfl, by (repeat (first | (with_reducible exact Below.refl _ _) | (with_reducible assumption) | (with_reducible refine Near.up _ ?_) | (with_reducible refine Below.drew ?_) | (with_reducible refine below_alloc_on ?_ _) | (with_reducible refine below_set_on ?_ (by first | (simp; done) | (simp; omega) | omega) _)))⟩
theorem rp_step (n v t b : Int) (w : World) : Calls Tryz.prog 35 #[.agg #[.int .i64 n, .int .i64 v], .int .i64 t, .int .i64 b] w fun e w' => e = .returned (.agg #[.int .i64 (poT n t), .int .i64 (poB v b)]) ∧ Below w.heap.size w w' := by
  unfold poT poB
  go_enter Tryz.func35, Tryz.ntmps35
  go_wp2
  refine wp_region_calm_tail 11 (by kernel_rfl) (by kernel_rfl) ?_
  simp only [List.take_succ_cons, List.take_zero, List.drop_succ_cons, List.drop_zero]
  repeat (go_big_quiet_step (((go_at_call 63; exact calm_same _ (rp_more _ _ _)))))
  refine wpQuiet_nil ?_
  intro _ hw'
  obtain ⟨u, rfl⟩ := hw'
  go_wp2
  exact bodyPost_ret (v := .agg #[.int .i64 (roV n (decide (30 < t))), .int .i64 (roV v (decide (b < 3300)))]) (by simp [results, Tryz.results35, go_sem]) rfl ⟨rfl, by (repeat (first | (with_reducible exact Below.refl _ _) | (with_reducible assumption) | (with_reducible refine Near.up _ ?_) | (with_reducible refine Below.drew ?_) | (with_reducible refine below_alloc_on ?_ _) | (with_reducible refine below_set_on ?_ (by first | (simp; done) | (simp; omega) | omega) _)))⟩

end Go.Proofs.YtmocppghmdeahaaGreat
