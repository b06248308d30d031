/- The document's motor, its step. -/
import Derived.Test.YtjojclgbonhngaaRefMotor
namespace Go.Proofs.Ytjojclgbonhngaa
open Go.RowKit
set_option linter.unusedVariables false
attribute [local go_sem] cell_set_ite

set_option maxHeartbeats 2000000 in
theorem rm_step (p k want : Int) (w : World) : Calls Try.prog 19 #[.agg #[.int .i64 p, .int .i64 k], .int .i64 want] w fun e w' => e = .returned (.agg #[.int .i64 (stP p k want), .int .i64 (stH k)]) ∧ Below w.heap.size w w' := by
  have ⟨p0, p1⟩ := cp_bd p
  have ⟨q0, q1⟩ := ch_bd k
  by_cases hh : 0 < chV k
  · have t1 : decide (0 < chV k) = true := decide_eq_true hh
    by_cases hq : chV k = 1
    · have e1 : stP p k want = 0 := by unfold stP; rw [if_pos hh, if_pos hq]
      have e2 : stH k = 0 := by unfold stH; rw [if_pos hh]; omega
      rw [e1, e2]
      clear e1 e2
      have t2 : (chV k - 1 == 0) = true := by simp; omega
      have t3 : chV k - 1 = 0 := by omega
      go_enter Try.func19, Try.ntmps19
      go_wp2_with (go_at_call 32; refine (rm_right _ _ _).mono ?_; rintro e w' ⟨rfl, hb⟩; obtain ⟨u, rfl⟩ := near_of hb; obtain ⟨c0, c1, f0, l0⟩ := (((box_new w _ _).alloc _).near u).two; obtain ⟨d0, d1, f1, l1⟩ := ((box_at (w.alloc _) _ _ (g := w.heap.size + 1) (by simp)).near u).two)
      all_goals refine bodyPost_ret (v := .agg #[.int .i64 0, .int .i64 0]) (by simp [results, Try.results19, go_sem, d0, d1]) rfl ⟨rfl, by (repeat (first | (with_reducible exact Below.refl _ _) | (with_reducible assumption) | (with_reducible refine Near.up _ ?_) | (with_reducible refine below_alloc_on ?_ _) | (with_reducible refine below_set_on ?_ (by first | (simp; done) | (simp; omega) | omega) _)))⟩
    · have e1 : stP p k want = max (cpV p - 1) 0 := by unfold stP; rw [if_pos hh, if_neg hq]; split <;> omega
      have e2 : stH k = chV k - 1 := by unfold stH; rw [if_pos hh]
      rw [e1, e2]
      clear e1 e2
      have t2 : (chV k - 1 == 0) = false := by simp; omega
      go_enter Try.func19, Try.ntmps19
      go_wp2_with (go_at_call 32; refine (rm_right _ _ _).mono ?_; rintro e w' ⟨rfl, hb⟩; obtain ⟨u, rfl⟩ := near_of hb; obtain ⟨c0, c1, f0, l0⟩ := (((box_new w _ _).alloc _).near u).two; obtain ⟨d0, d1, f1, l1⟩ := ((box_at (w.alloc _) _ _ (g := w.heap.size + 1) (by simp)).near u).two)
      all_goals refine bodyPost_ret (v := .agg #[.int .i64 (max (cpV p - 1) 0), .int .i64 (chV k - 1)]) (by simp [results, Try.results19, go_sem, d0, d1]; omega) rfl ⟨rfl, by (repeat (first | (with_reducible exact Below.refl _ _) | (with_reducible assumption) | (with_reducible refine Near.up _ ?_) | (with_reducible refine below_alloc_on ?_ _) | (with_reducible refine below_set_on ?_ (by first | (simp; done) | (simp; omega) | omega) _)))⟩
  · have t1 : decide (0 < chV k) = false := decide_eq_false hh
    have e1 : stP p k want = neV (cpV p) (min (max want 0) 300) := by unfold stP; rw [if_neg hh, mn_max _ (by omega)]; rfl
    have e2 : stH k = 0 := by unfold stH; rw [if_neg hh]
    have e3 : chV k = 0 := by omega
    rw [e1, e2]
    clear e1 e2
    obtain ⟨v, hv⟩ : ∃ v, min (max want 0) 300 = v := ⟨_, rfl⟩
    rw [hv]
    unfold neV
    by_cases t4 : cpV p < v
    · rw [if_pos t4]
      have t2 := decide_eq_true t4
      go_enter Try.func19, Try.ntmps19
      go_wp2_with (go_at_call 32; refine (rm_right _ _ _).mono ?_; rintro e w' ⟨rfl, hb⟩; obtain ⟨u, rfl⟩ := near_of hb; obtain ⟨c0, c1, f0, l0⟩ := (((box_new w _ _).alloc _).near u).two; obtain ⟨d0, d1, f1, l1⟩ := ((box_at (w.alloc _) _ _ (g := w.heap.size + 1) (by simp)).near u).two)
      all_goals refine bodyPost_ret (v := .agg #[.int .i64 (cpV p + 1), .int .i64 0]) (by simp [results, Try.results19, go_sem, d0, d1]) rfl ⟨rfl, by (repeat (first | (with_reducible exact Below.refl _ _) | (with_reducible assumption) | (with_reducible refine Near.up _ ?_) | (with_reducible refine below_alloc_on ?_ _) | (with_reducible refine below_set_on ?_ (by first | (simp; done) | (simp; omega) | omega) _)))⟩
    · rw [if_neg t4]
      have t2 := decide_eq_false t4
      by_cases t5 : v < cpV p
      · rw [if_pos t5]
        have t3 := decide_eq_true t5
        go_enter Try.func19, Try.ntmps19
        go_wp2_with (go_at_call 32; refine (rm_right _ _ _).mono ?_; rintro e w' ⟨rfl, hb⟩; obtain ⟨u, rfl⟩ := near_of hb; obtain ⟨c0, c1, f0, l0⟩ := (((box_new w _ _).alloc _).near u).two; obtain ⟨d0, d1, f1, l1⟩ := ((box_at (w.alloc _) _ _ (g := w.heap.size + 1) (by simp)).near u).two)
        all_goals refine bodyPost_ret (v := .agg #[.int .i64 (cpV p - 1), .int .i64 0]) (by simp [results, Try.results19, go_sem, d0, d1]) rfl ⟨rfl, by (repeat (first | (with_reducible exact Below.refl _ _) | (with_reducible assumption) | (with_reducible refine Near.up _ ?_) | (with_reducible refine below_alloc_on ?_ _) | (with_reducible refine below_set_on ?_ (by first | (simp; done) | (simp; omega) | omega) _)))⟩
      · rw [if_neg t5]
        have t3 := decide_eq_false t5
        go_enter Try.func19, Try.ntmps19
        go_wp2_with (go_at_call 32; refine (rm_right _ _ _).mono ?_; rintro e w' ⟨rfl, hb⟩; obtain ⟨u, rfl⟩ := near_of hb; obtain ⟨c0, c1, f0, l0⟩ := (((box_new w _ _).alloc _).near u).two; obtain ⟨d0, d1, f1, l1⟩ := ((box_at (w.alloc _) _ _ (g := w.heap.size + 1) (by simp)).near u).two)
        all_goals refine bodyPost_ret (v := .agg #[.int .i64 (cpV p), .int .i64 0]) (by simp [results, Try.results19, go_sem, d0, d1]) rfl ⟨rfl, by (repeat (first | (with_reducible exact Below.refl _ _) | (with_reducible assumption) | (with_reducible refine Near.up _ ?_) | (with_reducible refine below_alloc_on ?_ _) | (with_reducible refine below_set_on ?_ (by first | (simp; done) | (simp; omega) | omega) _)))⟩
end Go.Proofs.Ytjojclgbonhngaa
