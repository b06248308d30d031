/- The document's clamp, and the law package's own check. -/
import Derived.Test.YtjojclgbonhngaaClamp
import Derived.Test.YtjojclgbonhngaaRefStep
namespace Go.Proofs.Ytjojclgbonhngaa
open Go.RowKit
set_option linter.unusedVariables false
attribute [local go_sem] cell_set_ite Near.cell Near.frozen

set_option maxHeartbeats 2000000 in
theorem rc_step (p k r o v : Int) (b : Bool) (x : Int) (w : World) :
    Calls Try.prog 8 #[.agg #[.int .i64 p, .int .i64 k, .int .i64 r, .int .i64 o], .int .i64 v, .bool b, .int .i64 x] w fun e w' =>
      e = .returned (.tuple #[.agg #[.int .i64 (stP p k (waV v b)), .int .i64 (stH k), .int .i64 (apV r p k x), .int .i64 (waV v b)], .bool (slB (apV r p k x))]) ∧ Below w.heap.size w w' := by
  have A0 : Below w.heap.size w w := Below.refl _ _
  cases b
  · rcases (by omega : v < 0 ∨ (¬ v < 0 ∧ 300 < v) ∨ (¬ v < 0 ∧ ¬ 300 < v)) with g1 | ⟨g1, g2⟩ | ⟨g1, g2⟩
    · rw [show waV v false = 0 by unfold waV cpV mnV; rw [if_neg (by simp), if_pos g1]]
      go_enter Try.func8, Try.ntmps8
      go_wp2_with (fail)
      refine (rf_apart _ _ _ _ _).mono ?_
      rintro e w1 ⟨rfl, hb⟩
      have A1 := below_call (below_alloc_on (below_alloc_on A0 _) _) hb
      have B1 := ((box_new w _ _).alloc _).below hb
      have D1 := (box_at (w.alloc _) _ _ (g := w.heap.size + 1) (by simp)).below hb
      clear hb A0
      obtain ⟨b0, b1, b2, b3, bf, bl⟩ := B1.four
      go_wp2_with (fail)
      refine (rm_step _ _ _ _).mono ?_
      rintro e w2 ⟨rfl, hb⟩
      have A2 := below_call A1 hb
      have D2 := D1.below hb
      clear hb A1 B1 D1 b0 b1 b2 b3 bf bl
      obtain ⟨d0, d1, d2, d3, df, dl⟩ := D2.four
      go_wp2_with (go_at_call 20; refine (rf_stalled _ _).mono ?_; rintro e w' ⟨rfl, rfl⟩)
      refine bodyPost_ret (v := .tuple #[.agg #[.int .i64 (stP p k 0), .int .i64 (stH k), .int .i64 (apV r p k x), .int .i64 0], .bool (slB (apV r p k x))]) (by simp [results, Try.results8, go_sem, d0, d1, d2, d3]) rfl ⟨rfl, by (repeat (first | (with_reducible exact Below.refl _ _) | (with_reducible assumption) | (with_reducible refine Near.up _ ?_) | (with_reducible refine below_alloc_on ?_ _) | (with_reducible refine below_set_on ?_ (by first | (simp; done) | (simp; omega) | omega) _)))⟩
    · rw [show waV v false = 300 by unfold waV cpV mnV; rw [if_neg (by simp), if_neg g1, if_pos g2]]
      go_enter Try.func8, Try.ntmps8
      go_wp2_with (fail)
      refine (rf_apart _ _ _ _ _).mono ?_
      rintro e w1 ⟨rfl, hb⟩
      have A1 := below_call (below_alloc_on (below_alloc_on A0 _) _) hb
      have B1 := ((box_new w _ _).alloc _).below hb
      have D1 := (box_at (w.alloc _) _ _ (g := w.heap.size + 1) (by simp)).below hb
      clear hb A0
      obtain ⟨b0, b1, b2, b3, bf, bl⟩ := B1.four
      go_wp2_with (fail)
      refine (rm_step _ _ _ _).mono ?_
      rintro e w2 ⟨rfl, hb⟩
      have A2 := below_call A1 hb
      have D2 := D1.below hb
      clear hb A1 B1 D1 b0 b1 b2 b3 bf bl
      obtain ⟨d0, d1, d2, d3, df, dl⟩ := D2.four
      go_wp2_with (go_at_call 20; refine (rf_stalled _ _).mono ?_; rintro e w' ⟨rfl, rfl⟩)
      refine bodyPost_ret (v := .tuple #[.agg #[.int .i64 (stP p k 300), .int .i64 (stH k), .int .i64 (apV r p k x), .int .i64 300], .bool (slB (apV r p k x))]) (by simp [results, Try.results8, go_sem, d0, d1, d2, d3]) rfl ⟨rfl, by (repeat (first | (with_reducible exact Below.refl _ _) | (with_reducible assumption) | (with_reducible refine Near.up _ ?_) | (with_reducible refine below_alloc_on ?_ _) | (with_reducible refine below_set_on ?_ (by first | (simp; done) | (simp; omega) | omega) _)))⟩
    · rw [show waV v false = v by unfold waV cpV mnV; rw [if_neg (by simp), if_neg g1, if_neg g2]]
      go_enter Try.func8, Try.ntmps8
      go_wp2_with (fail)
      refine (rf_apart _ _ _ _ _).mono ?_
      rintro e w1 ⟨rfl, hb⟩
      have A1 := below_call (below_alloc_on (below_alloc_on A0 _) _) hb
      have B1 := ((box_new w _ _).alloc _).below hb
      have D1 := (box_at (w.alloc _) _ _ (g := w.heap.size + 1) (by simp)).below hb
      clear hb A0
      obtain ⟨b0, b1, b2, b3, bf, bl⟩ := B1.four
      go_wp2_with (fail)
      refine (rm_step _ _ _ _).mono ?_
      rintro e w2 ⟨rfl, hb⟩
      have A2 := below_call A1 hb
      have D2 := D1.below hb
      clear hb A1 B1 D1 b0 b1 b2 b3 bf bl
      obtain ⟨d0, d1, d2, d3, df, dl⟩ := D2.four
      go_wp2_with (go_at_call 20; refine (rf_stalled _ _).mono ?_; rintro e w' ⟨rfl, rfl⟩)
      refine bodyPost_ret (v := .tuple #[.agg #[.int .i64 (stP p k v), .int .i64 (stH k), .int .i64 (apV r p k x), .int .i64 v], .bool (slB (apV r p k x))]) (by simp [results, Try.results8, go_sem, d0, d1, d2, d3]) rfl ⟨rfl, by (repeat (first | (with_reducible exact Below.refl _ _) | (with_reducible assumption) | (with_reducible refine Near.up _ ?_) | (with_reducible refine below_alloc_on ?_ _) | (with_reducible refine below_set_on ?_ (by first | (simp; done) | (simp; omega) | omega) _)))⟩
  · rw [show waV v true = 0 by unfold waV; rw [if_pos rfl]]
    obtain ⟨V, hV⟩ : ∃ V, min (max v 0) 300 = V := ⟨_, rfl⟩
    rcases (by omega : v < 0 ∨ (¬ v < 0 ∧ 300 < v) ∨ (¬ v < 0 ∧ ¬ 300 < v)) with g1 | ⟨g1, g2⟩ | ⟨g1, g2⟩
    all_goals
      clear hV
      go_enter Try.func8, Try.ntmps8
      go_wp2_with (fail)
      refine (rf_apart _ _ _ _ _).mono ?_
      rintro e w1 ⟨rfl, hb⟩
      have A1 := below_call (below_alloc_on (below_alloc_on A0 _) _) hb
      have B1 := ((box_new w _ _).alloc _).below hb
      have D1 := (box_at (w.alloc _) _ _ (g := w.heap.size + 1) (by simp)).below hb
      clear hb A0
      obtain ⟨b0, b1, b2, b3, bf, bl⟩ := B1.four
      go_wp2_with (fail)
      refine (rm_step _ _ _ _).mono ?_
      rintro e w2 ⟨rfl, hb⟩
      have A2 := below_call A1 hb
      have D2 := D1.below hb
      clear hb A1 B1 D1 b0 b1 b2 b3 bf bl
      obtain ⟨d0, d1, d2, d3, df, dl⟩ := D2.four
      go_wp2_with (go_at_call 20; refine (rf_stalled _ _).mono ?_; rintro e w' ⟨rfl, rfl⟩)
      refine bodyPost_ret (v := .tuple #[.agg #[.int .i64 (stP p k 0), .int .i64 (stH k), .int .i64 (apV r p k x), .int .i64 0], .bool (slB (apV r p k x))]) (by simp [results, Try.results8, go_sem, d0, d1, d2, d3]) rfl ⟨rfl, by (repeat (first | (with_reducible exact Below.refl _ _) | (with_reducible assumption) | (with_reducible refine Near.up _ ?_) | (with_reducible refine below_alloc_on ?_ _) | (with_reducible refine below_set_on ?_ (by first | (simp; done) | (simp; omega) | omega) _)))⟩

theorem rc_start (w : World) : Calls Try.prog 10 #[] w fun e w' => e = .returned (.agg #[.int .i64 300, .int .i64 320, .int .i64 0, .int .i64 0]) ∧ Below w.heap.size w w' := by
  have A0 : Below w.heap.size w w := Below.refl _ _
  go_enter Try.func10, Try.ntmps10
  go_wp2_with (fail)
  refine (rm_start _).mono ?_
  rintro e w1 ⟨rfl, hb⟩
  have A1 := below_call (below_alloc_on A0 _) hb
  have B1 := (box_new w _ _).below hb
  clear hb A0
  obtain ⟨b0, b1, b2, b3, bf, bl⟩ := B1.four
  go_wp2
  refine bodyPost_ret (v := .agg #[.int .i64 300, .int .i64 320, .int .i64 0, .int .i64 0]) (by simp [results, Try.results10, go_sem, b0, b1, b2, b3]) rfl ⟨rfl, by (repeat (first | (with_reducible exact Below.refl _ _) | (with_reducible assumption) | (with_reducible refine Near.up _ ?_) | (with_reducible refine below_alloc_on ?_ _) | (with_reducible refine below_set_on ?_ (by first | (simp; done) | (simp; omega) | omega) _)))⟩

theorem rc_shut (p k r o : Int) (w : World) : Calls Try.prog 12 #[.agg #[.int .i64 p, .int .i64 k, .int .i64 r, .int .i64 o]] w fun e w' => e = .returned (.bool (cdB p k)) ∧ Below w.heap.size w w' := by
  have A0 : Below w.heap.size w w := Below.refl _ _
  go_enter Try.func12, Try.ntmps12
  go_wp2_with (fail)
  refine (rm_closed _ _ _).mono ?_
  rintro e w1 ⟨rfl, hb⟩
  have A1 := below_call (below_alloc_on A0 _) hb
  go_wp2
  all_goals go_ret
  all_goals exact ⟨rfl, A1⟩
end Go.Proofs.Ytjojclgbonhngaa
