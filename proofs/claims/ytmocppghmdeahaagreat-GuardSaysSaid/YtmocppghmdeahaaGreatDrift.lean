/- Contracts of package drift, the document's, and the law package's own. -/
import Derived.Test.YtmocppghmdeahaaGreatMore
import Derived.Test.YtmocppghmdeahaaGreatSatLaws
namespace Go.Proofs.YtmocppghmdeahaaGreat
set_option maxRecDepth 100000
open Go.RowKit
set_option linter.unusedVariables false
set_option linter.unusedSimpArgs false
attribute [local go_sem] cell_set_ite Near.cell Near.frozen

theorem mulV_comm (a b : Int) : mulV a b = mulV b a := by unfold mulV; rw [Int.mul_comm]
def drO (o goal seen : Int) (k : Bool) : Int := if k = true then roV o (decide (mulV goal 3 < mulV seen 2)) else 0
def drU (v goal seen : Int) (k : Bool) : Int := if k = true then roV v (decide (mulV seen 2 < clV goal)) else 0
def fiB (n : Int) : Bool := decide (5 ≤ n)

theorem dr_row (n : Int) (x : Bool) (w : World) : Calls Tryz.prog 83 #[.int .i64 n, .bool x] w fun e w' => e = .returned (.int .i64 (roV n x)) ∧ w = w' := by
  cases x
  · go_enter Tryz.func83, Tryz.ntmps83
    go_wp2
    all_goals go_ret
    all_goals exact ⟨rfl, rfl⟩
  · go_enter Tryz.func83, Tryz.ntmps83
    go_wp2
    all_goals go_ret
    all_goals exact ⟨ret_i (by rw [ro_yes]; unfold moV; omega), rfl⟩
theorem rd_more (n : Int) (w : World) : Calls Tryz.prog 92 #[.int .i64 n] w fun e w' => e = .returned (.int .i64 (moV n)) ∧ w = w' := by
  go_enter Tryz.func92, Tryz.ntmps92
  go_wp2
  all_goals go_ret
  all_goals exact ⟨ret_i (by unfold moV; omega), rfl⟩
theorem dr_fast (o v : Int) (w : World) : Calls Tryz.prog 23 #[.agg #[.int .i64 o, .int .i64 v]] w fun e w' => e = .returned (.bool (fiB o)) ∧ Below w.heap.size w w' := by
  go_enter Tryz.func23, Tryz.ntmps23
  go_wp2
  all_goals go_ret
  all_goals exact ⟨rfl, by (repeat (first | (with_reducible exact Below.refl _ _) | (with_reducible assumption) | (with_reducible refine Near.up _ ?_) | (with_reducible refine Below.drew ?_) | (with_reducible refine below_alloc_on ?_ _) | (with_reducible refine below_set_on ?_ (by first | (simp; done) | (simp; omega) | omega) _)))⟩
theorem dr_slow (o v : Int) (w : World) : Calls Tryz.prog 24 #[.agg #[.int .i64 o, .int .i64 v]] w fun e w' => e = .returned (.bool (fiB v)) ∧ Below w.heap.size w w' := by
  go_enter Tryz.func24, Tryz.ntmps24
  go_wp2
  all_goals go_ret
  all_goals exact ⟨rfl, by (repeat (first | (with_reducible exact Below.refl _ _) | (with_reducible assumption) | (with_reducible refine Near.up _ ?_) | (with_reducible refine Below.drew ?_) | (with_reducible refine below_alloc_on ?_ _) | (with_reducible refine below_set_on ?_ (by first | (simp; done) | (simp; omega) | omega) _)))⟩
theorem rd_fast (o v : Int) (w : World) : Calls Tryz.prog 70 #[.agg #[.int .i64 o, .int .i64 v]] w fun e w' => e = .returned (.bool (fiB o)) ∧ Below w.heap.size w w' := by
  go_enter Tryz.func70, Tryz.ntmps70
  go_wp2
  all_goals go_ret
  all_goals exact ⟨rfl, by (repeat (first | (with_reducible exact Below.refl _ _) | (with_reducible assumption) | (with_reducible refine Near.up _ ?_) | (with_reducible refine Below.drew ?_) | (with_reducible refine below_alloc_on ?_ _) | (with_reducible refine below_set_on ?_ (by first | (simp; done) | (simp; omega) | omega) _)))⟩
theorem rd_slow (o v : Int) (w : World) : Calls Tryz.prog 71 #[.agg #[.int .i64 o, .int .i64 v]] w fun e w' => e = .returned (.bool (fiB v)) ∧ Below w.heap.size w w' := by
  go_enter Tryz.func71, Tryz.ntmps71
  go_wp2
  all_goals go_ret
  all_goals exact ⟨rfl, by (repeat (first | (with_reducible exact Below.refl _ _) | (with_reducible assumption) | (with_reducible refine Near.up _ ?_) | (with_reducible refine Below.drew ?_) | (with_reducible refine below_alloc_on ?_ _) | (with_reducible refine below_set_on ?_ (by first | (simp; done) | (simp; omega) | omega) _)))⟩

theorem dr_step (o v goal seen : Int) (k : Bool) (w : World) : Calls Tryz.prog 47 #[.agg #[.int .i64 o, .int .i64 v], .int .i64 goal, .int .i64 seen, .bool k] w fun e w' => e = .returned (.agg #[.int .i64 (drO o goal seen k), .int .i64 (drU v goal seen k)]) ∧ Below w.heap.size w w' := by
  have A0 : Below w.heap.size w w := Below.refl _ _
  cases k
  · go_enter Tryz.func47, Tryz.ntmps47
    go_wp2
    exact bodyPost_ret (v := .agg #[.int .i64 0, .int .i64 0]) (by simp [results, Tryz.results47, go_sem]) rfl ⟨rfl, by (repeat (first | (with_reducible exact Below.refl _ _) | (with_reducible assumption) | (with_reducible refine Near.up _ ?_) | (with_reducible refine Below.drew ?_) | (with_reducible refine below_alloc_on ?_ _) | (with_reducible refine below_set_on ?_ (by first | (simp; done) | (simp; omega) | omega) _)))⟩
  · unfold drO drU
    rw [if_pos rfl, if_pos rfl]
    go_enter Tryz.func47, Tryz.ntmps47
    go_wp2_with (first
      | (go_at_call 49; refine (sat_mul _ _ _).mono ?_; rintro e w' ⟨rfl, rfl⟩)
      | (go_at_call 82; refine (sat_clamp _ _).mono ?_; rintro e w' ⟨rfl, rfl⟩))
    refine wp_region_calm_tail 13 (by kernel_rfl) (by kernel_rfl) ?_
    simp only [List.take_succ_cons, List.take_zero, List.drop_succ_cons, List.drop_zero]
    repeat (go_big_quiet_step (((go_at_call 83; exact calm_same _ (dr_row _ _ _)))))
    refine wpQuiet_nil ?_
    intro _ hw'
    obtain ⟨u, rfl⟩ := hw'
    go_wp2
    exact bodyPost_ret (v := .agg #[.int .i64 (roV o (decide (mulV goal 3 < mulV seen 2))), .int .i64 (roV v (decide (mulV seen 2 < clV goal)))]) (by simp [results, Tryz.results47, go_sem]) rfl ⟨rfl, by (repeat (first | (with_reducible exact Below.refl _ _) | (with_reducible assumption) | (with_reducible refine Near.up _ ?_) | (with_reducible refine Below.drew ?_) | (with_reducible refine below_alloc_on ?_ _) | (with_reducible refine below_set_on ?_ (by first | (simp; done) | (simp; omega) | omega) _)))⟩

theorem rd_step (o v goal seen : Int) (k : Bool) (w : World) : Calls Tryz.prog 61 #[.agg #[.int .i64 o, .int .i64 v], .int .i64 goal, .int .i64 seen, .bool k] w fun e w' => e = .returned (.agg #[.int .i64 (drO o goal seen k), .int .i64 (drU v goal seen k)]) ∧ Below w.heap.size w w' := by
  have A0 : Below w.heap.size w w := Below.refl _ _
  have HS := Lib.hid (fun w => ref_mul 2 seen w)
  have HG := Lib.hid (fun w => ref_mul 3 goal w)
  rw [mulV_comm 2 seen] at HS
  rw [mulV_comm 3 goal] at HG
  cases k
  · go_enter Tryz.func61, Tryz.ntmps61
    go_wp2
    exact bodyPost_ret (v := .agg #[.int .i64 0, .int .i64 0]) (by simp [results, Tryz.results61, go_sem]) rfl ⟨rfl, by (repeat (first | (with_reducible exact Below.refl _ _) | (with_reducible assumption) | (with_reducible refine Near.up _ ?_) | (with_reducible refine Below.drew ?_) | (with_reducible refine below_alloc_on ?_ _) | (with_reducible refine below_set_on ?_ (by first | (simp; done) | (simp; omega) | omega) _)))⟩
  · unfold drO drU
    rw [if_pos rfl, if_pos rfl]
    cases t1 : decide (mulV goal 3 < mulV seen 2)
    · cases t2 : decide (mulV seen 2 < clV goal)
      all_goals
        go_enter Tryz.func61, Tryz.ntmps61
        go_wp2_with (first
          | (go_at_call 31; ((with_reducible refine (HS.out _).mono ?_); rintro e w' ⟨rfl, rfl⟩))
          | (go_at_call 31; ((with_reducible refine (HG.out _).mono ?_); rintro e w' ⟨rfl, rfl⟩))
          | (go_at_call 60; refine (ref_clamp _ _).mono ?_; rintro e w' ⟨rfl, rfl⟩)
          | (go_at_call 92; refine (rd_more _ _).mono ?_; rintro e w' ⟨rfl, rfl⟩))
        first
          | exact bodyPost_ret (v := .agg #[.int .i64 0, .int .i64 0]) (by simp [results, Tryz.results61, go_sem]) rfl ⟨rfl, by (repeat (first | (with_reducible exact Below.refl _ _) | (with_reducible assumption) | (with_reducible refine Near.up _ ?_) | (with_reducible refine Below.drew ?_) | (with_reducible refine below_alloc_on ?_ _) | (with_reducible refine below_set_on ?_ (by first | (simp; done) | (simp; omega) | omega) _)))⟩
          | exact bodyPost_ret (v := .agg #[.int .i64 0, .int .i64 (moV v)]) (by simp [results, Tryz.results61, go_sem]) rfl ⟨rfl, by (repeat (first | (with_reducible exact Below.refl _ _) | (with_reducible assumption) | (with_reducible refine Near.up _ ?_) | (with_reducible refine Below.drew ?_) | (with_reducible refine below_alloc_on ?_ _) | (with_reducible refine below_set_on ?_ (by first | (simp; done) | (simp; omega) | omega) _)))⟩
    · cases t2 : decide (mulV seen 2 < clV goal)
      all_goals
        go_enter Tryz.func61, Tryz.ntmps61
        go_wp2_with (first
          | (go_at_call 31; ((with_reducible refine (HS.out _).mono ?_); rintro e w' ⟨rfl, rfl⟩))
          | (go_at_call 31; ((with_reducible refine (HG.out _).mono ?_); rintro e w' ⟨rfl, rfl⟩))
          | (go_at_call 60; refine (ref_clamp _ _).mono ?_; rintro e w' ⟨rfl, rfl⟩)
          | (go_at_call 92; refine (rd_more _ _).mono ?_; rintro e w' ⟨rfl, rfl⟩))
        first
          | exact bodyPost_ret (v := .agg #[.int .i64 (moV o), .int .i64 0]) (by simp [results, Tryz.results61, go_sem]) rfl ⟨rfl, by (repeat (first | (with_reducible exact Below.refl _ _) | (with_reducible assumption) | (with_reducible refine Near.up _ ?_) | (with_reducible refine Below.drew ?_) | (with_reducible refine below_alloc_on ?_ _) | (with_reducible refine below_set_on ?_ (by first | (simp; done) | (simp; omega) | omega) _)))⟩
          | exact bodyPost_ret (v := .agg #[.int .i64 (moV o), .int .i64 (moV v)]) (by simp [results, Tryz.results61, go_sem]) rfl ⟨rfl, by (repeat (first | (with_reducible exact Below.refl _ _) | (with_reducible assumption) | (with_reducible refine Near.up _ ?_) | (with_reducible refine Below.drew ?_) | (with_reducible refine below_alloc_on ?_ _) | (with_reducible refine below_set_on ?_ (by first | (simp; done) | (simp; omega) | omega) _)))⟩

end Go.Proofs.YtmocppghmdeahaaGreat
