/- Contracts of package drift, the document's, and the law package's own. -/
import Derived.Test.YtknhejpomemilaaMore
import Derived.Test.YtknhejpomemilaaSatLaws
namespace Go.Proofs.Ytknhejpomemilaa
set_option maxRecDepth 100000
open Go.RowKit
set_option linter.unusedVariables false
set_option linter.unusedSimpArgs false
attribute [local go_sem] cell_set_ite Near.cell Near.frozen

theorem mulV_comm (a b : Int) : mulV a b = mulV b a := by unfold mulV; rw [Int.mul_comm]
def drO (o goal seen : Int) (k : Bool) : Int := if k = true then roV o (decide (mulV goal 3 < mulV seen 2)) else 0
def drU (v goal seen : Int) (k : Bool) : Int := if k = true then roV v (decide (mulV seen 2 < clV goal)) else 0
def fiB (n : Int) : Bool := decide (5 ≤ n)

theorem dr_row (n : Int) (x : Bool) (w : World) : Calls Try.prog 61 #[.int .i64 n, .bool x] w fun e w' => e = .returned (.int .i64 (roV n x)) ∧ w = w' := by
  cases x
  · go_enter Try.func61, Try.ntmps61
    go_wp2
    all_goals go_ret
    all_goals exact ⟨rfl, rfl⟩
  · go_enter Try.func61, Try.ntmps61
    go_wp2
    all_goals go_ret
    all_goals exact ⟨ret_i (by rw [ro_yes]; unfold moV; omega), rfl⟩
theorem dr_fast (o v : Int) (w : World) : Calls Try.prog 24 #[.agg #[.int .i64 o, .int .i64 v]] w fun e w' => e = .returned (.bool (fiB o)) ∧ Below w.heap.size w w' := by
  go_enter Try.func24, Try.ntmps24
  go_wp2
  all_goals go_ret
  all_goals exact ⟨rfl, by (repeat (first | (with_reducible exact Below.refl _ _) | (with_reducible assumption) | (with_reducible refine Near.up _ ?_) | (with_reducible refine Below.drew ?_) | (with_reducible refine below_alloc_on ?_ _) | (with_reducible refine below_set_on ?_ (by first | (simp; done) | (simp; omega) | omega) _)))⟩
theorem dr_slow (o v : Int) (w : World) : Calls Try.prog 25 #[.agg #[.int .i64 o, .int .i64 v]] w fun e w' => e = .returned (.bool (fiB v)) ∧ Below w.heap.size w w' := by
  go_enter Try.func25, Try.ntmps25
  go_wp2
  all_goals go_ret
  all_goals exact ⟨rfl, by (repeat (first | (with_reducible exact Below.refl _ _) | (with_reducible assumption) | (with_reducible refine Near.up _ ?_) | (with_reducible refine Below.drew ?_) | (with_reducible refine below_alloc_on ?_ _) | (with_reducible refine below_set_on ?_ (by first | (simp; done) | (simp; omega) | omega) _)))⟩
theorem dr_step (o v goal seen : Int) (k : Bool) (w : World) : Calls Try.prog 39 #[.agg #[.int .i64 o, .int .i64 v], .int .i64 goal, .int .i64 seen, .bool k] w fun e w' => e = .returned (.agg #[.int .i64 (drO o goal seen k), .int .i64 (drU v goal seen k)]) ∧ Below w.heap.size w w' := by
  have A0 : Below w.heap.size w w := Below.refl _ _
  cases k
  · go_enter Try.func39, Try.ntmps39
    go_wp2
    exact bodyPost_ret (v := .agg #[.int .i64 0, .int .i64 0]) (by simp [results, Try.results39, go_sem]) rfl ⟨rfl, by (repeat (first | (with_reducible exact Below.refl _ _) | (with_reducible assumption) | (with_reducible refine Near.up _ ?_) | (with_reducible refine Below.drew ?_) | (with_reducible refine below_alloc_on ?_ _) | (with_reducible refine below_set_on ?_ (by first | (simp; done) | (simp; omega) | omega) _)))⟩
  · unfold drO drU
    rw [if_pos rfl, if_pos rfl]
    go_enter Try.func39, Try.ntmps39
    go_wp2_with (first
      | (go_at_call 41; refine (sat_mul _ _ _).mono ?_; rintro e w' ⟨rfl, rfl⟩)
      | (go_at_call 60; refine (sat_clamp _ _).mono ?_; rintro e w' ⟨rfl, rfl⟩))
    refine wp_region_calm_tail 13 (by kernel_rfl) (by kernel_rfl) ?_
    simp only [List.take_succ_cons, List.take_zero, List.drop_succ_cons, List.drop_zero]
    repeat (go_big_quiet_step (((go_at_call 61; exact calm_same _ (dr_row _ _ _)))))
    refine wpQuiet_nil ?_
    intro _ hw'
    obtain ⟨u, rfl⟩ := hw'
    go_wp2
    exact bodyPost_ret (v := .agg #[.int .i64 (roV o (decide (mulV goal 3 < mulV seen 2))), .int .i64 (roV v (decide (mulV seen 2 < clV goal)))]) (by simp [results, Try.results39, go_sem]) rfl ⟨rfl, by (repeat (first | (with_reducible exact Below.refl _ _) | (with_reducible assumption) | (with_reducible refine Near.up _ ?_) | (with_reducible refine Below.drew ?_) | (with_reducible refine below_alloc_on ?_ _) | (with_reducible refine below_set_on ?_ (by first | (simp; done) | (simp; omega) | omega) _)))⟩

end Go.Proofs.Ytknhejpomemilaa
