/- Contracts of package compare, the document's, and the law package's own. -/
import Derived.Test.YtmgbegmhanbcnaaSatLaws
import Derived.Test.YtmgbegmhanbcnaaAt
namespace Go.Proofs.Ytmgbegmhanbcnaa
set_option maxRecDepth 100000
open Go.RowKit
set_option linter.unusedVariables false
set_option linter.unusedSimpArgs false

/-- Is it shaded? -/
def shdB (l a : Int) (was : Bool) : Bool := decide (400 ≤ subV l a) || (decide (200 < subV l a) && was)
theorem shd_1 {l a : Int} (was : Bool) (h : 400 ≤ subV l a) : shdB l a was = true := by simp [shdB, h]
theorem shd_2 {l a : Int} (was : Bool) (h : ¬ 400 ≤ subV l a) (h2 : subV l a ≤ 200) : shdB l a was = false := by simp [shdB]; omega
theorem shd_3 {l a : Int} (was : Bool) (h : ¬ 400 ≤ subV l a) (h2 : ¬ subV l a ≤ 200) : shdB l a was = was := by simp [shdB, h]; omega

theorem cp_shaded (l a : Int) (was : Bool) (w : World) : Calls Try.prog 32 #[.int .i64 l, .int .i64 a, .bool was] w fun e w' => e = .returned (.bool (shdB l a was)) ∧ w = w' := by
  by_cases h1 : 400 ≤ subV l a
  · rw [shd_1 was h1]
    have t1 := decide_eq_true h1
    go_enter Try.func32, Try.ntmps32
    go_wp2_with (go_at_call 40; refine (sat_sub _ _ _).mono ?_; rintro e w' ⟨rfl, rfl⟩)
    all_goals go_ret
    all_goals exact ⟨rfl, rfl⟩
  · have t1 := decide_eq_false h1
    by_cases h2 : subV l a ≤ 200
    · rw [shd_2 was h1 h2]
      have t2 := decide_eq_true h2
      go_enter Try.func32, Try.ntmps32
      go_wp2_with (go_at_call 40; refine (sat_sub _ _ _).mono ?_; rintro e w' ⟨rfl, rfl⟩)
      all_goals go_ret
      all_goals exact ⟨rfl, rfl⟩
    · rw [shd_3 was h1 h2]
      have t2 := decide_eq_false h2
      go_enter Try.func32, Try.ntmps32
      go_wp2_with (go_at_call 40; refine (sat_sub _ _ _).mono ?_; rintro e w' ⟨rfl, rfl⟩)
      all_goals go_ret
      all_goals exact ⟨rfl, rfl⟩
theorem rc_shaded (l a : Int) (was : Bool) (w : World) : Calls Try.prog 36 #[.int .i64 l, .int .i64 a, .bool was] w fun e w' => e = .returned (.bool (shdB l a was)) ∧ w = w' := by
  by_cases h1 : 400 ≤ subV l a
  · rw [shd_1 was h1]
    have t1 := decide_eq_true h1
    go_enter Try.func36, Try.ntmps36
    go_wp2_with (go_at_call 44; refine (ref_sub _ _ _).mono ?_; rintro e w' ⟨rfl, rfl⟩)
    all_goals go_ret
    all_goals exact ⟨rfl, rfl⟩
  · have t1 := decide_eq_false h1
    by_cases h2 : subV l a ≤ 200
    · rw [shd_2 was h1 h2]
      have t2 := decide_eq_true h2
      go_enter Try.func36, Try.ntmps36
      go_wp2_with (go_at_call 44; refine (ref_sub _ _ _).mono ?_; rintro e w' ⟨rfl, rfl⟩)
      all_goals go_ret
      all_goals exact ⟨rfl, rfl⟩
    · rw [shd_3 was h1 h2]
      have t2 := decide_eq_false h2
      go_enter Try.func36, Try.ntmps36
      go_wp2_with (go_at_call 44; refine (ref_sub _ _ _).mono ?_; rintro e w' ⟨rfl, rfl⟩)
      all_goals go_ret
      all_goals exact ⟨rfl, rfl⟩
end Go.Proofs.Ytmgbegmhanbcnaa
