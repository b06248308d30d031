/- Contracts of package clamp, the document's, and the law package's own. -/
import Derived.Test.YtjojclgbonhngaaFollow
namespace Go.Proofs.Ytjojclgbonhngaa
open Go.RowKit
set_option linter.unusedVariables false
attribute [local go_sem] cell_set_ite Near.cell Near.frozen

def waV (v : Int) (b : Bool) : Int := if b = true then 0 else cpV v
theorem wa_bd (v : Int) (b : Bool) : 0 ≤ waV v b ∧ waV v b ≤ 300 := by
  have := cp_bd v
  unfold waV; split <;> omega

theorem mn_min (n : Int) {most : Int} (h : 0 ≤ most) : min (max n 0) most = mnV n most := by
  unfold mnV; split <;> (try split) <;> omega
theorem cl_wanted (v : Int) (b : Bool) (w : World) : Calls Try.prog 14 #[.int .i64 v, .bool b] w fun e w' => e = .returned (.int .i64 (waV v b)) ∧ w = w' := by
  have hm := mn_min v (most := 300) (by omega)
  cases b
  · go_enter Try.func14, Try.ntmps14
    go_wp2
    all_goals go_ret
    all_goals exact ⟨ret_n (by unfold waV cpV; simp; omega), rfl⟩
  · go_enter Try.func14, Try.ntmps14
    go_wp2
    all_goals go_ret
    all_goals exact ⟨ret_n (by unfold waV; simp), rfl⟩

theorem cl_step (p k r o v : Int) (b : Bool) (x : Int) (w : World) :
    Calls Try.prog 7 #[.agg #[.int .i64 p, .int .i64 k, .int .i64 r, .int .i64 o], .int .i64 v, .bool b, .int .i64 x] w fun e w' =>
      e = .returned (.tuple #[.agg #[.int .i64 (stP p k (waV v b)), .int .i64 (stH k), .int .i64 (apV r p k x), .int .i64 (waV v b)], .bool (slB (apV r p k x))]) ∧ Below w.heap.size w w' := by
  have A0 : Below w.heap.size w w := Below.refl _ _
  go_enter Try.func7, Try.ntmps7
  go_wp2_with (go_at_call 14; refine (cl_wanted _ _ _).mono ?_; rintro e w' ⟨rfl, rfl⟩)
  refine (fo_apart _ _ _ _ _).mono ?_
  rintro e w1 ⟨rfl, hb⟩
  have A1 := below_call (below_alloc_on (below_alloc_on A0 _) _) hb
  have B1 := ((box_new w _ _).alloc _).below hb
  have D1 := (box_at (w.alloc _) _ _ (g := w.heap.size + 1) (by simp)).below hb
  clear hb A0
  obtain ⟨b0, b1, b2, b3, bf, bl⟩ := B1.four
  go_wp2_with (fail)
  refine (mo_step _ _ _ _).mono ?_
  rintro e w2 ⟨rfl, hb⟩
  have A2 := below_call A1 hb
  have D2 := D1.below hb
  clear hb A1 B1 D1 b0 b1 b2 b3 bf bl
  obtain ⟨d0, d1, d2, d3, df, dl⟩ := D2.four
  go_wp2_with (go_at_call 17; refine (fo_stalled _ _).mono ?_; rintro e w' ⟨rfl, rfl⟩)
  refine bodyPost_ret (v := .tuple #[.agg #[.int .i64 (stP p k (waV v b)), .int .i64 (stH k), .int .i64 (apV r p k x), .int .i64 (waV v b)], .bool (slB (apV r p k x))]) (by simp [results, Try.results7, go_sem, d0, d1, d2, d3]) rfl ⟨rfl, by (repeat (first | (with_reducible exact Below.refl _ _) | (with_reducible assumption) | (with_reducible refine Near.up _ ?_) | (with_reducible refine below_alloc_on ?_ _) | (with_reducible refine below_set_on ?_ (by first | (simp; done) | (simp; omega) | omega) _)))⟩

theorem cl_start (w : World) : Calls Try.prog 9 #[] w fun e w' => e = .returned (.agg #[.int .i64 300, .int .i64 320, .int .i64 0, .int .i64 0]) ∧ Below w.heap.size w w' := by
  have A0 : Below w.heap.size w w := Below.refl _ _
  go_enter Try.func9, Try.ntmps9
  go_wp2_with (fail)
  refine (mo_start _).mono ?_
  rintro e w1 ⟨rfl, hb⟩
  have A1 := below_call (below_alloc_on A0 _) hb
  have B1 := (box_new w _ _).below hb
  clear hb A0
  obtain ⟨b0, b1, b2, b3, bf, bl⟩ := B1.four
  go_wp2
  refine bodyPost_ret (v := .agg #[.int .i64 300, .int .i64 320, .int .i64 0, .int .i64 0]) (by simp [results, Try.results9, go_sem, b0, b1, b2, b3]) rfl ⟨rfl, by (repeat (first | (with_reducible exact Below.refl _ _) | (with_reducible assumption) | (with_reducible refine Near.up _ ?_) | (with_reducible refine below_alloc_on ?_ _) | (with_reducible refine below_set_on ?_ (by first | (simp; done) | (simp; omega) | omega) _)))⟩

theorem cl_shut (p k r o : Int) (w : World) : Calls Try.prog 11 #[.agg #[.int .i64 p, .int .i64 k, .int .i64 r, .int .i64 o]] w fun e w' => e = .returned (.bool (cdB p k)) ∧ Below w.heap.size w w' := by
  have A0 : Below w.heap.size w w := Below.refl _ _
  go_enter Try.func11, Try.ntmps11
  go_wp2_with (fail)
  refine (mo_closed _ _ _).mono ?_
  rintro e w1 ⟨rfl, hb⟩
  have A1 := below_call (below_alloc_on A0 _) hb
  go_wp2
  all_goals go_ret
  all_goals exact ⟨rfl, A1⟩
end Go.Proofs.Ytjojclgbonhngaa
