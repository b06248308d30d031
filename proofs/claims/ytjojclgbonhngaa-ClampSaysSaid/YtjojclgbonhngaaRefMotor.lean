/- The document's motor. -/
import Derived.Test.YtjojclgbonhngaaMotor
namespace Go.Proofs.Ytjojclgbonhngaa
open Go.RowKit
set_option linter.unusedVariables false
attribute [local go_sem] Near.cell Near.frozen cell_set_ite

/-! ### The document's. -/
theorem mn_max (n : Int) {most : Int} (h : 0 ≤ most) : min (max n 0) most = mnV n most := by
  unfold mnV; split <;> (try split) <;> omega
theorem rm_right (p k : Int) (w : World) : Calls Try.prog 32 #[.agg #[.int .i64 p, .int .i64 k]] w fun e w' => e = .returned (.agg #[.int .i64 (cpV p), .int .i64 (chV k)]) ∧ Below w.heap.size w w' := by
  unfold cpV chV
  go_enter Try.func32, Try.ntmps32
  go_wp2
  all_goals exact bodyPost_ret (v := .agg #[.int .i64 (mnV p 300), .int .i64 (mnV k 320)]) (by simp [results, Try.results32, go_sem]; unfold mnV; constructor <;> (repeat' split) <;> omega) rfl ⟨rfl, by (repeat (first | (with_reducible exact Below.refl _ _) | (with_reducible assumption) | (with_reducible refine Near.up _ ?_) | (with_reducible refine below_alloc_on ?_ _) | (with_reducible refine below_set_on ?_ (by first | (simp; done) | (simp; omega) | omega) _)))⟩
theorem rm_start (w : World) : Calls Try.prog 22 #[] w fun e w' => e = .returned (.agg #[.int .i64 300, .int .i64 320]) ∧ Below w.heap.size w w' := by
  go_enter Try.func22, Try.ntmps22
  go_wp2
  exact bodyPost_ret (v := .agg #[.int .i64 300, .int .i64 320]) (by simp [results, Try.results22, go_sem]) rfl ⟨rfl, by (repeat (first | (with_reducible exact Below.refl _ _) | (with_reducible assumption) | (with_reducible refine Near.up _ ?_) | (with_reducible refine below_alloc_on ?_ _) | (with_reducible refine below_set_on ?_ (by first | (simp; done) | (simp; omega) | omega) _)))⟩
theorem rm_closed (p h : Int) (w : World) : Calls Try.prog 24 #[.agg #[.int .i64 p, .int .i64 h]] w fun e w' => e = .returned (.bool (cdB p h)) ∧ Below w.heap.size w w' := by
  unfold cdB
  by_cases h0 : cpV p = 0
  · by_cases h1 : chV h = 0
    · rw [decide_eq_true (⟨h0, h1⟩ : cpV p = 0 ∧ chV h = 0)]
      go_enter Try.func24, Try.ntmps24
      go_wp2_with (go_at_call 32; refine (rm_right _ _ _).mono ?_; rintro e w' ⟨rfl, hb⟩; obtain ⟨u, rfl⟩ := near_of hb)
      all_goals go_ret
      all_goals exact ⟨rfl, by (repeat (first | (with_reducible exact Below.refl _ _) | (with_reducible assumption) | (with_reducible refine Near.up _ ?_) | (with_reducible refine below_alloc_on ?_ _) | (with_reducible refine below_set_on ?_ (by first | (simp; done) | (simp; omega) | omega) _)))⟩
    · rw [decide_eq_false (fun g => h1 g.2 : ¬ (cpV p = 0 ∧ chV h = 0))]
      have t1 : (chV h == 0) = false := by simpa using h1
      go_enter Try.func24, Try.ntmps24
      go_wp2_with (go_at_call 32; refine (rm_right _ _ _).mono ?_; rintro e w' ⟨rfl, hb⟩; obtain ⟨u, rfl⟩ := near_of hb)
      all_goals go_ret
      all_goals exact ⟨rfl, by (repeat (first | (with_reducible exact Below.refl _ _) | (with_reducible assumption) | (with_reducible refine Near.up _ ?_) | (with_reducible refine below_alloc_on ?_ _) | (with_reducible refine below_set_on ?_ (by first | (simp; done) | (simp; omega) | omega) _)))⟩
  · rw [decide_eq_false (fun g => h0 g.1 : ¬ (cpV p = 0 ∧ chV h = 0))]
    have t1 : (cpV p == 0) = false := by simpa using h0
    go_enter Try.func24, Try.ntmps24
    go_wp2_with (go_at_call 32; refine (rm_right _ _ _).mono ?_; rintro e w' ⟨rfl, hb⟩; obtain ⟨u, rfl⟩ := near_of hb)
    all_goals go_ret
    all_goals exact ⟨rfl, by (repeat (first | (with_reducible exact Below.refl _ _) | (with_reducible assumption) | (with_reducible refine Near.up _ ?_) | (with_reducible refine below_alloc_on ?_ _) | (with_reducible refine below_set_on ?_ (by first | (simp; done) | (simp; omega) | omega) _)))⟩
end Go.Proofs.Ytjojclgbonhngaa
