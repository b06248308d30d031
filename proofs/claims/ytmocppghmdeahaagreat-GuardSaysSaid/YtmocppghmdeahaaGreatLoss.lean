/- Contracts of package loss, the document's, and the law package's own. -/
import Derived.Test.YtmocppghmdeahaaGreatMore
namespace Go.Proofs.YtmocppghmdeahaaGreat
set_option maxRecDepth 100000
open Go.RowKit
set_option linter.unusedVariables false
set_option linter.unusedSimpArgs false
attribute [local go_sem] cell_set_ite Near.cell Near.frozen

def loS (n : Int) (armed drop : Bool) : Int := if armed = true then roV n (!drop) else 0
def loW (n : Int) (armed wide : Bool) : Int := if armed = true then roV n wide else 0
def ltB (n t : Int) : Bool := decide (max t 1 ≤ n)
def dyB (n : Int) : Bool := decide (500 ≤ n)

theorem lo_run (n : Int) (x : Bool) (w : World) : Calls Tryz.prog 48 #[.int .i64 n, .bool x] w fun e w' => e = .returned (.int .i64 (roV n x)) ∧ w = w' := by
  cases x
  · go_enter Tryz.func48, Tryz.ntmps48
    go_wp2
    all_goals go_ret
    all_goals exact ⟨rfl, rfl⟩
  · go_enter Tryz.func48, Tryz.ntmps48
    go_wp2
    all_goals go_ret
    all_goals exact ⟨ret_i (by rw [ro_yes]; unfold moV; omega), rfl⟩
theorem rl_more (n : Int) (w : World) : Calls Tryz.prog 62 #[.int .i64 n] w fun e w' => e = .returned (.int .i64 (moV n)) ∧ w = w' := by
  go_enter Tryz.func62, Tryz.ntmps62
  go_wp2
  all_goals go_ret
  all_goals exact ⟨ret_i (by unfold moV; omega), rfl⟩
theorem lt_eq {n t : Int} : (decide (1 ≤ t) = true → ltB n t = decide (t ≤ n)) ∧ (decide (1 ≤ t) = false → ltB n t = decide (1 ≤ n)) := by
  unfold ltB
  constructor
  · intro h; have := of_decide_eq_true h; rw [Int.max_eq_left (by omega)]
  · intro h; have := of_decide_eq_false h; rw [Int.max_eq_right (by omega)]
theorem lo_lost (n v t : Int) (w : World) : Calls Tryz.prog 56 #[.agg #[.int .i64 n, .int .i64 v], .int .i64 t] w fun e w' => e = .returned (.bool (ltB n t)) ∧ Below w.heap.size w w' := by
  go_enter Tryz.func56, Tryz.ntmps56
  go_wp2
  all_goals go_ret
  all_goals exact ⟨ret_b (by unfold ltB; rw [Bool.eq_iff_iff]; simp; omega), by (repeat (first | (with_reducible exact Below.refl _ _) | (with_reducible assumption) | (with_reducible refine Near.up _ ?_) | (with_reducible refine Below.drew ?_) | (with_reducible refine below_alloc_on ?_ _) | (with_reducible refine below_set_on ?_ (by first | (simp; done) | (simp; omega) | omega) _)))⟩
theorem rl_lost (n v t : Int) (w : World) : Calls Tryz.prog 72 #[.agg #[.int .i64 n, .int .i64 v], .int .i64 t] w fun e w' => e = .returned (.bool (ltB n t)) ∧ Below w.heap.size w w' := by
  go_enter Tryz.func72, Tryz.ntmps72
  go_wp2
  all_goals go_ret
  all_goals exact ⟨ret_b (by unfold ltB; rw [Bool.eq_iff_iff]; simp; omega), by (repeat (first | (with_reducible exact Below.refl _ _) | (with_reducible assumption) | (with_reducible refine Near.up _ ?_) | (with_reducible refine Below.drew ?_) | (with_reducible refine below_alloc_on ?_ _) | (with_reducible refine below_set_on ?_ (by first | (simp; done) | (simp; omega) | omega) _)))⟩
theorem lo_empty (n v : Int) (w : World) : Calls Tryz.prog 26 #[.agg #[.int .i64 n, .int .i64 v]] w fun e w' => e = .returned (.bool (dyB v)) ∧ Below w.heap.size w w' := by
  go_enter Tryz.func26, Tryz.ntmps26
  go_wp2
  all_goals go_ret
  all_goals exact ⟨rfl, by (repeat (first | (with_reducible exact Below.refl _ _) | (with_reducible assumption) | (with_reducible refine Near.up _ ?_) | (with_reducible refine Below.drew ?_) | (with_reducible refine below_alloc_on ?_ _) | (with_reducible refine below_set_on ?_ (by first | (simp; done) | (simp; omega) | omega) _)))⟩
theorem rl_empty (n v : Int) (w : World) : Calls Tryz.prog 73 #[.agg #[.int .i64 n, .int .i64 v]] w fun e w' => e = .returned (.bool (dyB v)) ∧ Below w.heap.size w w' := by
  go_enter Tryz.func73, Tryz.ntmps73
  go_wp2
  all_goals go_ret
  all_goals exact ⟨rfl, by (repeat (first | (with_reducible exact Below.refl _ _) | (with_reducible assumption) | (with_reducible refine Near.up _ ?_) | (with_reducible refine Below.drew ?_) | (with_reducible refine below_alloc_on ?_ _) | (with_reducible refine below_set_on ?_ (by first | (simp; done) | (simp; omega) | omega) _)))⟩
theorem lo_step (n v : Int) (a d x : Bool) (w : World) : Calls Tryz.prog 16 #[.agg #[.int .i64 n, .int .i64 v], .bool a, .bool d, .bool x] w fun e w' => e = .returned (.agg #[.int .i64 (loS n a d), .int .i64 (loW v a x)]) ∧ Below w.heap.size w w' := by
  cases a
  · go_enter Tryz.func16, Tryz.ntmps16
    go_wp2
    exact bodyPost_ret (v := .agg #[.int .i64 0, .int .i64 0]) (by simp [results, Tryz.results16, go_sem]) rfl ⟨rfl, by (repeat (first | (with_reducible exact Below.refl _ _) | (with_reducible assumption) | (with_reducible refine Near.up _ ?_) | (with_reducible refine Below.drew ?_) | (with_reducible refine below_alloc_on ?_ _) | (with_reducible refine below_set_on ?_ (by first | (simp; done) | (simp; omega) | omega) _)))⟩
  · unfold loS loW
    rw [if_pos rfl, if_pos rfl]
    go_enter Tryz.func16, Tryz.ntmps16
    go_wp2
    refine wp_region_calm_tail 9 (by kernel_rfl) (by kernel_rfl) ?_
    simp only [List.take_succ_cons, List.take_zero, List.drop_succ_cons, List.drop_zero]
    repeat (go_big_quiet_step (((go_at_call 48; exact calm_same _ (lo_run _ _ _)))))
    refine wpQuiet_nil ?_
    intro _ hw'
    obtain ⟨u, rfl⟩ := hw'
    go_wp2
    exact bodyPost_ret (v := .agg #[.int .i64 (roV n (!d)), .int .i64 (roV v x)]) (by simp [results, Tryz.results16, go_sem]) rfl ⟨rfl, by (repeat (first | (with_reducible exact Below.refl _ _) | (with_reducible assumption) | (with_reducible refine Near.up _ ?_) | (with_reducible refine Below.drew ?_) | (with_reducible refine below_alloc_on ?_ _) | (with_reducible refine below_set_on ?_ (by first | (simp; done) | (simp; omega) | omega) _)))⟩
theorem rl_step (n v : Int) (a d x : Bool) (w : World) : Calls Tryz.prog 33 #[.agg #[.int .i64 n, .int .i64 v], .bool a, .bool d, .bool x] w fun e w' => e = .returned (.agg #[.int .i64 (loS n a d), .int .i64 (loW v a x)]) ∧ Below w.heap.size w w' := by
  cases a
  · go_enter Tryz.func33, Tryz.ntmps33
    go_wp2
    exact bodyPost_ret (v := .agg #[.int .i64 0, .int .i64 0]) (by simp [results, Tryz.results33, go_sem]) rfl ⟨rfl, by (repeat (first | (with_reducible exact Below.refl _ _) | (with_reducible assumption) | (with_reducible refine Near.up _ ?_) | (with_reducible refine Below.drew ?_) | (with_reducible refine below_alloc_on ?_ _) | (with_reducible refine below_set_on ?_ (by first | (simp; done) | (simp; omega) | omega) _)))⟩
  · cases d <;> cases x
    all_goals
      go_enter Tryz.func33, Tryz.ntmps33
      go_wp2_with (go_at_call 62; refine (rl_more _ _).mono ?_; rintro e w' ⟨rfl, rfl⟩)
      exact bodyPost_ret (v := .agg #[.int .i64 (loS n true _), .int .i64 (loW v true _)]) (by simp [results, Tryz.results33, go_sem, loS, loW, roV]) rfl ⟨rfl, by (repeat (first | (with_reducible exact Below.refl _ _) | (with_reducible assumption) | (with_reducible refine Near.up _ ?_) | (with_reducible refine Below.drew ?_) | (with_reducible refine below_alloc_on ?_ _) | (with_reducible refine below_set_on ?_ (by first | (simp; done) | (simp; omega) | omega) _)))⟩

end Go.Proofs.YtmocppghmdeahaaGreat
