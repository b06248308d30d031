/- Contracts of package loss, the document's, and the law package's own. -/
import Derived.Test.YtknhejpomemilaaMore
namespace Go.Proofs.Ytknhejpomemilaa
set_option maxRecDepth 100000
open Go.RowKit
set_option linter.unusedVariables false
set_option linter.unusedSimpArgs false
attribute [local go_sem] cell_set_ite Near.cell Near.frozen

def loS (n : Int) (armed drop : Bool) : Int := if armed = true then roV n (!drop) else 0
def loW (n : Int) (armed wide : Bool) : Int := if armed = true then roV n wide else 0
def ltB (n t : Int) : Bool := decide (max t 1 ≤ n)
def dyB (n : Int) : Bool := decide (500 ≤ n)

theorem lo_run (n : Int) (x : Bool) (w : World) : Calls Try.prog 40 #[.int .i64 n, .bool x] w fun e w' => e = .returned (.int .i64 (roV n x)) ∧ w = w' := by
  cases x
  · go_enter Try.func40, Try.ntmps40
    go_wp2
    all_goals go_ret
    all_goals exact ⟨rfl, rfl⟩
  · go_enter Try.func40, Try.ntmps40
    go_wp2
    all_goals go_ret
    all_goals exact ⟨ret_i (by rw [ro_yes]; unfold moV; omega), rfl⟩
theorem lt_eq {n t : Int} : (decide (1 ≤ t) = true → ltB n t = decide (t ≤ n)) ∧ (decide (1 ≤ t) = false → ltB n t = decide (1 ≤ n)) := by
  unfold ltB
  constructor
  · intro h; have := of_decide_eq_true h; rw [Int.max_eq_left (by omega)]
  · intro h; have := of_decide_eq_false h; rw [Int.max_eq_right (by omega)]
theorem lo_lost (n v t : Int) (w : World) : Calls Try.prog 48 #[.agg #[.int .i64 n, .int .i64 v], .int .i64 t] w fun e w' => e = .returned (.bool (ltB n t)) ∧ Below w.heap.size w w' := by
  go_enter Try.func48, Try.ntmps48
  go_wp2
  all_goals go_ret
  all_goals exact ⟨ret_b (by unfold ltB; rw [Bool.eq_iff_iff]; simp; omega), by (repeat (first | (with_reducible exact Below.refl _ _) | (with_reducible assumption) | (with_reducible refine Near.up _ ?_) | (with_reducible refine Below.drew ?_) | (with_reducible refine below_alloc_on ?_ _) | (with_reducible refine below_set_on ?_ (by first | (simp; done) | (simp; omega) | omega) _)))⟩
theorem lo_empty (n v : Int) (w : World) : Calls Try.prog 27 #[.agg #[.int .i64 n, .int .i64 v]] w fun e w' => e = .returned (.bool (dyB v)) ∧ Below w.heap.size w w' := by
  go_enter Try.func27, Try.ntmps27
  go_wp2
  all_goals go_ret
  all_goals exact ⟨rfl, by (repeat (first | (with_reducible exact Below.refl _ _) | (with_reducible assumption) | (with_reducible refine Near.up _ ?_) | (with_reducible refine Below.drew ?_) | (with_reducible refine below_alloc_on ?_ _) | (with_reducible refine below_set_on ?_ (by first | (simp; done) | (simp; omega) | omega) _)))⟩
theorem lo_step (n v : Int) (a d x : Bool) (w : World) : Calls Try.prog 17 #[.agg #[.int .i64 n, .int .i64 v], .bool a, .bool d, .bool x] w fun e w' => e = .returned (.agg #[.int .i64 (loS n a d), .int .i64 (loW v a x)]) ∧ Below w.heap.size w w' := by
  cases a
  · go_enter Try.func17, Try.ntmps17
    go_wp2
    exact bodyPost_ret (v := .agg #[.int .i64 0, .int .i64 0]) (by simp [results, Try.results17, go_sem]) rfl ⟨rfl, by (repeat (first | (with_reducible exact Below.refl _ _) | (with_reducible assumption) | (with_reducible refine Near.up _ ?_) | (with_reducible refine Below.drew ?_) | (with_reducible refine below_alloc_on ?_ _) | (with_reducible refine below_set_on ?_ (by first | (simp; done) | (simp; omega) | omega) _)))⟩
  · unfold loS loW
    rw [if_pos rfl, if_pos rfl]
    go_enter Try.func17, Try.ntmps17
    go_wp2
    refine wp_region_calm_tail 9 (by kernel_rfl) (by kernel_rfl) ?_
    simp only [List.take_succ_cons, List.take_zero, List.drop_succ_cons, List.drop_zero]
    repeat (go_big_quiet_step (((go_at_call 40; exact calm_same _ (lo_run _ _ _)))))
    refine wpQuiet_nil ?_
    intro _ hw'
    obtain ⟨u, rfl⟩ := hw'
    go_wp2
    exact bodyPost_ret (v := .agg #[.int .i64 (roV n (!d)), .int .i64 (roV v x)]) (by simp [results, Try.results17, go_sem]) rfl ⟨rfl, by (repeat (first | (with_reducible exact Below.refl _ _) | (with_reducible assumption) | (with_reducible refine Near.up _ ?_) | (with_reducible refine Below.drew ?_) | (with_reducible refine below_alloc_on ?_ _) | (with_reducible refine below_set_on ?_ (by first | (simp; done) | (simp; omega) | omega) _)))⟩
end Go.Proofs.Ytknhejpomemilaa
