/- Contracts of package posture, the document's, and the law package's own. -/
import Derived.Test.YtknhejpomemilaaMore
namespace Go.Proofs.Ytknhejpomemilaa
set_option maxRecDepth 100000
open Go.RowKit
set_option linter.unusedVariables false
set_option linter.unusedSimpArgs false
attribute [local go_sem] cell_set_ite Near.cell Near.frozen

def poT (n t : Int) : Int := roV n (decide (30 < t))
def poB (n v : Int) : Int := roV n (decide (v < 3300))
def whB (n : Int) : Bool := decide (20 ≤ n)
def lwB (n : Int) : Bool := decide (n < 3500)

theorem po_run (n : Int) (x : Bool) (w : World) : Calls Try.prog 42 #[.int .i64 n, .bool x] w fun e w' => e = .returned (.int .i64 (roV n x)) ∧ w = w' := by
  cases x
  · go_enter Try.func42, Try.ntmps42
    go_wp2
    all_goals go_ret
    all_goals exact ⟨rfl, rfl⟩
  · go_enter Try.func42, Try.ntmps42
    go_wp2
    all_goals go_ret
    all_goals exact ⟨ret_i (by rw [ro_yes]; unfold moV; omega), rfl⟩
theorem po_tilted (n v : Int) (w : World) : Calls Try.prog 28 #[.agg #[.int .i64 n, .int .i64 v]] w fun e w' => e = .returned (.bool (whB n)) ∧ Below w.heap.size w w' := by
  go_enter Try.func28, Try.ntmps28
  go_wp2
  all_goals go_ret
  all_goals exact ⟨rfl, by (repeat (first | (with_reducible exact Below.refl _ _) | (with_reducible assumption) | (with_reducible refine Near.up _ ?_) | (with_reducible refine Below.drew ?_) | (with_reducible refine below_alloc_on ?_ _) | (with_reducible refine below_set_on ?_ (by first | (simp; done) | (simp; omega) | omega) _)))⟩
theorem po_flat (n v : Int) (w : World) : Calls Try.prog 29 #[.agg #[.int .i64 n, .int .i64 v]] w fun e w' => e = .returned (.bool (whB v)) ∧ Below w.heap.size w w' := by
  go_enter Try.func29, Try.ntmps29
  go_wp2
  all_goals go_ret
  all_goals exact ⟨rfl, by (repeat (first | (with_reducible exact Below.refl _ _) | (with_reducible assumption) | (with_reducible refine Near.up _ ?_) | (with_reducible refine Below.drew ?_) | (with_reducible refine below_alloc_on ?_ _) | (with_reducible refine below_set_on ?_ (by first | (simp; done) | (simp; omega) | omega) _)))⟩
theorem po_step (n v t b : Int) (w : World) : Calls Try.prog 20 #[.agg #[.int .i64 n, .int .i64 v], .int .i64 t, .int .i64 b] w fun e w' => e = .returned (.agg #[.int .i64 (poT n t), .int .i64 (poB v b)]) ∧ Below w.heap.size w w' := by
  unfold poT poB
  go_enter Try.func20, Try.ntmps20
  go_wp2
  refine wp_region_calm_tail 11 (by kernel_rfl) (by kernel_rfl) ?_
  simp only [List.take_succ_cons, List.take_zero, List.drop_succ_cons, List.drop_zero]
  repeat (go_big_quiet_step (((go_at_call 42; exact calm_same _ (po_run _ _ _)))))
  refine wpQuiet_nil ?_
  intro _ hw'
  obtain ⟨u, rfl⟩ := hw'
  go_wp2
  exact bodyPost_ret (v := .agg #[.int .i64 (roV n (decide (30 < t))), .int .i64 (roV v (decide (b < 3300)))]) (by simp [results, Try.results20, go_sem]) rfl ⟨rfl, by (repeat (first | (with_reducible exact Below.refl _ _) | (with_reducible assumption) | (with_reducible refine Near.up _ ?_) | (with_reducible refine Below.drew ?_) | (with_reducible refine below_alloc_on ?_ _) | (with_reducible refine below_set_on ?_ (by first | (simp; done) | (simp; omega) | omega) _)))⟩
end Go.Proofs.Ytknhejpomemilaa
