/- Contracts of package drift, the document's, and the law package's own. -/
import Derived.Test.YtbglkokdnkcknaaMore
import Derived.Test.YtbglkokdnkcknaaSatLaws
namespace Go.Proofs.Ytbglkokdnkcknaa
open Go.RowKit
set_option linter.unusedVariables false
attribute [local go_sem] cell_set_ite Near.cell Near.frozen

theorem mulV_comm (a b : Int) : mulV a b = mulV b a := by unfold mulV; rw [Int.mul_comm]
def drO (o goal seen : Int) (k : Bool) : Int := if k = true then roV o (decide (mulV goal 3 < mulV seen 2)) else 0
def drU (v goal seen : Int) (k : Bool) : Int := if k = true then roV v (decide (mulV seen 2 < clV goal)) else 0
def fiB (n : Int) : Bool := decide (5 ≤ n)

theorem dr_row (n : Int) (x : Bool) (w : World) : Calls Try.prog 51 #[.int .i64 n, .bool x] w fun e w' => e = .returned (.int .i64 (roV n x)) ∧ w = w' := by
  cases x
  · go_enter Try.func51, Try.ntmps51
    go_wp2
    all_goals go_ret
    all_goals exact ⟨rfl, rfl⟩
  · go_enter Try.func51, Try.ntmps51
    go_wp2
    all_goals go_ret
    all_goals exact ⟨ret_i (by rw [ro_yes]; unfold moV; omega), rfl⟩
theorem rd_more (n : Int) (w : World) : Calls Try.prog 53 #[.int .i64 n] w fun e w' => e = .returned (.int .i64 (moV n)) ∧ w = w' := by
  go_enter Try.func53, Try.ntmps53
  go_wp2
  all_goals go_ret
  all_goals exact ⟨ret_i (by unfold moV; omega), rfl⟩
theorem dr_fast (o v : Int) (w : World) : Calls Try.prog 22 #[.agg #[.int .i64 o, .int .i64 v]] w fun e w' => e = .returned (.bool (fiB o)) ∧ Below w.heap.size w w' := by
  go_enter Try.func22, Try.ntmps22
  go_wp2
  all_goals go_ret
  all_goals exact ⟨rfl, by (repeat (first | (with_reducible exact Below.refl _ _) | (with_reducible assumption) | (with_reducible refine Near.up _ ?_) | (with_reducible refine below_alloc_on ?_ _) | (with_reducible refine below_set_on ?_ (by first | (simp; done) | (simp; omega) | omega) _)))⟩
theorem dr_slow (o v : Int) (w : World) : Calls Try.prog 24 #[.agg #[.int .i64 o, .int .i64 v]] w fun e w' => e = .returned (.bool (fiB v)) ∧ Below w.heap.size w w' := by
  go_enter Try.func24, Try.ntmps24
  go_wp2
  all_goals go_ret
  all_goals exact ⟨rfl, by (repeat (first | (with_reducible exact Below.refl _ _) | (with_reducible assumption) | (with_reducible refine Near.up _ ?_) | (with_reducible refine below_alloc_on ?_ _) | (with_reducible refine below_set_on ?_ (by first | (simp; done) | (simp; omega) | omega) _)))⟩
theorem rd_fast (o v : Int) (w : World) : Calls Try.prog 23 #[.agg #[.int .i64 o, .int .i64 v]] w fun e w' => e = .returned (.bool (fiB o)) ∧ Below w.heap.size w w' := by
  go_enter Try.func23, Try.ntmps23
  go_wp2
  all_goals go_ret
  all_goals exact ⟨rfl, by (repeat (first | (with_reducible exact Below.refl _ _) | (with_reducible assumption) | (with_reducible refine Near.up _ ?_) | (with_reducible refine below_alloc_on ?_ _) | (with_reducible refine below_set_on ?_ (by first | (simp; done) | (simp; omega) | omega) _)))⟩
theorem rd_slow (o v : Int) (w : World) : Calls Try.prog 25 #[.agg #[.int .i64 o, .int .i64 v]] w fun e w' => e = .returned (.bool (fiB v)) ∧ Below w.heap.size w w' := by
  go_enter Try.func25, Try.ntmps25
  go_wp2
  all_goals go_ret
  all_goals exact ⟨rfl, by (repeat (first | (with_reducible exact Below.refl _ _) | (with_reducible assumption) | (with_reducible refine Near.up _ ?_) | (with_reducible refine below_alloc_on ?_ _) | (with_reducible refine below_set_on ?_ (by first | (simp; done) | (simp; omega) | omega) _)))⟩

theorem dr_step (o v goal seen : Int) (k : Bool) (w : World) : Calls Try.prog 20 #[.agg #[.int .i64 o, .int .i64 v], .int .i64 goal, .int .i64 seen, .bool k] w fun e w' => e = .returned (.agg #[.int .i64 (drO o goal seen k), .int .i64 (drU v goal seen k)]) ∧ Below w.heap.size w w' := by
  have A0 : Below w.heap.size w w := Below.refl _ _
  cases k
  · go_enter Try.func20, Try.ntmps20
    go_wp2
    exact bodyPost_ret (v := .agg #[.int .i64 0, .int .i64 0]) (by simp [results, Try.results20, go_sem]) rfl ⟨rfl, by (repeat (first | (with_reducible exact Below.refl _ _) | (with_reducible assumption) | (with_reducible refine Near.up _ ?_) | (with_reducible refine below_alloc_on ?_ _) | (with_reducible refine below_set_on ?_ (by first | (simp; done) | (simp; omega) | omega) _)))⟩
  · unfold drO drU
    rw [if_pos rfl, if_pos rfl]
    go_enter Try.func20, Try.ntmps20
    go_wp2_with (first
      | (go_at_call 49; refine (sat_mul _ _ _).mono ?_; rintro e w' ⟨rfl, rfl⟩)
      | (go_at_call 50; refine (sat_clamp _ _).mono ?_; rintro e w' ⟨rfl, rfl⟩))
    refine wp_region_calm_tail 13 (by kernel_rfl) (by kernel_rfl) ?_
    simp only [List.take_succ_cons, List.take_zero, List.drop_succ_cons, List.drop_zero]
    repeat (go_big_quiet_step (((go_at_call 51; exact calm_same _ (dr_row _ _ _)))))
    refine wpQuiet_nil ?_
    intro _ hw'
    obtain ⟨u, rfl⟩ := hw'
    go_wp2
    exact bodyPost_ret (v := .agg #[.int .i64 (roV o (decide (mulV goal 3 < mulV seen 2))), .int .i64 (roV v (decide (mulV seen 2 < clV goal)))]) (by simp [results, Try.results20, go_sem]) rfl ⟨rfl, by (repeat (first | (with_reducible exact Below.refl _ _) | (with_reducible assumption) | (with_reducible refine Near.up _ ?_) | (with_reducible refine below_alloc_on ?_ _) | (with_reducible refine below_set_on ?_ (by first | (simp; done) | (simp; omega) | omega) _)))⟩

theorem rd_step (o v goal seen : Int) (k : Bool) (w : World) : Calls Try.prog 21 #[.agg #[.int .i64 o, .int .i64 v], .int .i64 goal, .int .i64 seen, .bool k] w fun e w' => e = .returned (.agg #[.int .i64 (drO o goal seen k), .int .i64 (drU v goal seen k)]) ∧ Below w.heap.size w w' := by
  have A0 : Below w.heap.size w w := Below.refl _ _
  have HS := Lib.hid (fun w => ref_mul 2 seen w)
  have HG := Lib.hid (fun w => ref_mul 3 goal w)
  rw [mulV_comm 2 seen] at HS
  rw [mulV_comm 3 goal] at HG
  cases k
  · go_enter Try.func21, Try.ntmps21
    go_wp2
    exact bodyPost_ret (v := .agg #[.int .i64 0, .int .i64 0]) (by simp [results, Try.results21, go_sem]) rfl ⟨rfl, by (repeat (first | (with_reducible exact Below.refl _ _) | (with_reducible assumption) | (with_reducible refine Near.up _ ?_) | (with_reducible refine below_alloc_on ?_ _) | (with_reducible refine below_set_on ?_ (by first | (simp; done) | (simp; omega) | omega) _)))⟩
  · unfold drO drU
    rw [if_pos rfl, if_pos rfl]
    cases t1 : decide (mulV goal 3 < mulV seen 2)
    · cases t2 : decide (mulV seen 2 < clV goal)
      all_goals
        go_enter Try.func21, Try.ntmps21
        go_wp2_with (first
          | (go_at_call 48; ((with_reducible refine (HS.out _).mono ?_); rintro e w' ⟨rfl, rfl⟩))
          | (go_at_call 48; ((with_reducible refine (HG.out _).mono ?_); rintro e w' ⟨rfl, rfl⟩))
          | (go_at_call 52; refine (ref_clamp _ _).mono ?_; rintro e w' ⟨rfl, rfl⟩)
          | (go_at_call 53; refine (rd_more _ _).mono ?_; rintro e w' ⟨rfl, rfl⟩))
        first
          | exact bodyPost_ret (v := .agg #[.int .i64 0, .int .i64 0]) (by simp [results, Try.results21, go_sem]) rfl ⟨rfl, by (repeat (first | (with_reducible exact Below.refl _ _) | (with_reducible assumption) | (with_reducible refine Near.up _ ?_) | (with_reducible refine below_alloc_on ?_ _) | (with_reducible refine below_set_on ?_ (by first | (simp; done) | (simp; omega) | omega) _)))⟩
          | exact bodyPost_ret (v := .agg #[.int .i64 0, .int .i64 (moV v)]) (by simp [results, Try.results21, go_sem]) rfl ⟨rfl, by (repeat (first | (with_reducible exact Below.refl _ _) | (with_reducible assumption) | (with_reducible refine Near.up _ ?_) | (with_reducible refine below_alloc_on ?_ _) | (with_reducible refine below_set_on ?_ (by first | (simp; done) | (simp; omega) | omega) _)))⟩
    · cases t2 : decide (mulV seen 2 < clV goal)
      all_goals
        go_enter Try.func21, Try.ntmps21
        go_wp2_with (first
          | (go_at_call 48; ((with_reducible refine (HS.out _).mono ?_); rintro e w' ⟨rfl, rfl⟩))
          | (go_at_call 48; ((with_reducible refine (HG.out _).mono ?_); rintro e w' ⟨rfl, rfl⟩))
          | (go_at_call 52; refine (ref_clamp _ _).mono ?_; rintro e w' ⟨rfl, rfl⟩)
          | (go_at_call 53; refine (rd_more _ _).mono ?_; rintro e w' ⟨rfl, rfl⟩))
        first
          | exact bodyPost_ret (v := .agg #[.int .i64 (moV o), .int .i64 0]) (by simp [results, Try.results21, go_sem]) rfl ⟨rfl, by (repeat (first | (with_reducible exact Below.refl _ _) | (with_reducible assumption) | (with_reducible refine Near.up _ ?_) | (with_reducible refine below_alloc_on ?_ _) | (with_reducible refine below_set_on ?_ (by first | (simp; done) | (simp; omega) | omega) _)))⟩
          | exact bodyPost_ret (v := .agg #[.int .i64 (moV o), .int .i64 (moV v)]) (by simp [results, Try.results21, go_sem]) rfl ⟨rfl, by (repeat (first | (with_reducible exact Below.refl _ _) | (with_reducible assumption) | (with_reducible refine Near.up _ ?_) | (with_reducible refine below_alloc_on ?_ _) | (with_reducible refine below_set_on ?_ (by first | (simp; done) | (simp; omega) | omega) _)))⟩

theorem law31_awake (w : World) : Calls Try.prog 26 #[] w fun e w' => e = .returned (.bool true) ∧ Below w.heap.size w w' := by
  have e1 : drO 4 1000 1501 true = 5 := by decide +kernel
  have e2 : drU 3 1000 1501 true = 0 := by decide +kernel
  have e3 : drO 4 1000 499 true = 0 := by decide +kernel
  have e4 : drU 4 1000 499 true = 5 := by decide +kernel
  have e5 : fiB 5 = true := by decide +kernel
  have e6 : fiB 0 = false := by decide +kernel
  have e7 : drO 5 1000 1500 true = 0 := by decide +kernel
  have e8 : drU 0 1000 1500 true = 0 := by decide +kernel
  have e9 : drO 5 1000 9999 false = 0 := by decide +kernel
  have e10 : drU 0 1000 9999 false = 0 := by decide +kernel
  have A0 : Below w.heap.size w w := Below.refl _ _
  go_enter Try.func26, Try.ntmps26
  go_wp2_with (fail)
  refine (dr_step _ _ _ _ _ _).mono ?_
  rintro e w1 ⟨rfl, hb⟩
  have A1 := below_call A0 hb
  clear hb A0
  go_wp2_with (fail)
  refine (dr_step _ _ _ _ _ _).mono ?_
  rintro e w2 ⟨rfl, hb⟩
  have A2 := below_call (below_alloc_on A1 _) hb
  have B1 := (box_new w1 _ _).below hb
  clear hb A1
  generalize w1.heap.size = g1 at *
  obtain ⟨b0, b1, bf, bl⟩ := B1.two
  go_wp2_with (fail)
  refine (dr_fast _ _ _).mono ?_
  rintro e w3 ⟨rfl, hb⟩
  have A3 := below_call (below_alloc_on A2 _) hb
  have C1 := (B1.alloc _).below hb
  have D1 := (box_new w2 _ _).below hb
  clear hb A2 B1 b0 b1 bf bl
  generalize w2.heap.size = g2 at *
  obtain ⟨b0, b1, bf, bl⟩ := C1.two
  go_wp2_with (fail)
  refine (dr_slow _ _ _).mono ?_
  rintro e w4 ⟨rfl, hb⟩
  have A4 := below_call A3 hb
  have C2 := C1.below hb
  have D2 := D1.below hb
  clear hb A3 C1 D1 b0 b1 bf bl
  obtain ⟨b0, b1, bf, bl⟩ := C2.two
  obtain ⟨d0, d1, df, dl⟩ := D2.two
  go_wp2_with (fail)
  refine (dr_slow _ _ _).mono ?_
  rintro e w5 ⟨rfl, hb⟩
  have A5 := below_call A4 hb
  have C3 := C2.below hb
  clear hb A4 C2 D2 b0 b1 bf bl d0 d1 df dl
  obtain ⟨b0, b1, bf, bl⟩ := C3.two
  go_wp2_with (fail)
  refine (dr_step _ _ _ _ _ _).mono ?_
  rintro e w6 ⟨rfl, hb⟩
  have A6 := below_call A5 hb
  have C4 := C3.below hb
  clear hb A5 C3 b0 b1 bf bl
  obtain ⟨b0, b1, bf, bl⟩ := C4.two
  go_wp2_with (fail)
  refine (dr_step _ _ _ _ _ _).mono ?_
  rintro e w7 ⟨rfl, hb⟩
  have A7 := below_call A6 hb
  clear hb A6 C4 b0 b1 bf bl
  go_wp2
  all_goals go_ret
  all_goals exact ⟨rfl, A7⟩
end Go.Proofs.Ytbglkokdnkcknaa
