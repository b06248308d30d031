/- Contracts of package follow, the document's, and the law package's own. -/
import Derived.Test.YtjojclgbonhngaaMotor
import Derived.Test.YtjojclgbonhngaaSatLaws
namespace Go.Proofs.Ytjojclgbonhngaa
open Go.RowKit
set_option linter.unusedVariables false
attribute [local go_sem] cell_set_ite Near.cell Near.frozen

def neB (p enc : Int) : Bool := decide (-6 ≤ subV p enc ∧ subV p enc ≤ 6)
def apV (run p k enc : Int) : Int := if 0 < k then 0 else if neB p enc = true then 0 else withV run 0 1099511627776 + 1
def slB (run : Int) : Bool := decide (40 ≤ run)

theorem withM_bd (n : Int) : 0 ≤ withV n 0 1099511627776 ∧ withV n 0 1099511627776 ≤ 1099511627776 := by unfold withV; split <;> (try split) <;> (try split) <;> omega
theorem fo_near (p x : Int) (w : World) : Calls Try.prog 25 #[.int .i64 p, .int .i64 x] w fun e w' => e = .returned (.bool (neB p x)) ∧ w = w' := by
  unfold neB
  go_enter Try.func25, Try.ntmps25
  go_wp2_with (go_at_call 33; refine (sat_sub _ _ _).mono ?_; rintro e w' ⟨rfl, rfl⟩)
  all_goals go_ret
  all_goals exact ⟨ret_p (by simp_all <;> omega), rfl⟩
theorem fo_apart (run p k x : Int) (w : World) : Calls Try.prog 15 #[.int .i64 run, .agg #[.int .i64 p, .int .i64 k], .int .i64 x] w fun e w' => e = .returned (.int .i64 (apV run p k x)) ∧ Below w.heap.size w w' := by
  have ⟨b0, b1⟩ := withM_bd run
  unfold apV
  by_cases hk : 0 < k
  · rw [if_pos hk]
    have t1 := decide_eq_true hk
    go_enter Try.func15, Try.ntmps15
    go_wp2
    all_goals go_ret
    all_goals exact ⟨rfl, by (repeat (first | (with_reducible exact Below.refl _ _) | (with_reducible assumption) | (with_reducible refine Near.up _ ?_) | (with_reducible refine below_alloc_on ?_ _) | (with_reducible refine below_set_on ?_ (by first | (simp; done) | (simp; omega) | omega) _)))⟩
  · rw [if_neg hk]
    have t1 := decide_eq_false hk
    cases hn : neB p x
    · rw [if_neg (by simp)]
      go_enter Try.func15, Try.ntmps15
      go_wp2_with (first
        | (go_at_call 25; refine (fo_near _ _ _).mono ?_; rintro e w' ⟨rfl, rfl⟩)
        | (go_at_call 26; refine (sat_within _ _ _ _).mono ?_; rintro e w' ⟨rfl, rfl⟩))
      all_goals go_ret
      all_goals exact ⟨rfl, by (repeat (first | (with_reducible exact Below.refl _ _) | (with_reducible assumption) | (with_reducible refine Near.up _ ?_) | (with_reducible refine below_alloc_on ?_ _) | (with_reducible refine below_set_on ?_ (by first | (simp; done) | (simp; omega) | omega) _)))⟩
    · rw [if_pos rfl]
      go_enter Try.func15, Try.ntmps15
      go_wp2_with (go_at_call 25; refine (fo_near _ _ _).mono ?_; rintro e w' ⟨rfl, rfl⟩)
      all_goals go_ret
      all_goals exact ⟨rfl, by (repeat (first | (with_reducible exact Below.refl _ _) | (with_reducible assumption) | (with_reducible refine Near.up _ ?_) | (with_reducible refine below_alloc_on ?_ _) | (with_reducible refine below_set_on ?_ (by first | (simp; done) | (simp; omega) | omega) _)))⟩
theorem fo_stalled (run : Int) (w : World) : Calls Try.prog 17 #[.int .i64 run] w fun e w' => e = .returned (.bool (slB run)) ∧ w = w' := by
  go_enter Try.func17, Try.ntmps17
  go_wp2
  all_goals go_ret
  all_goals exact ⟨ret_p (by unfold slB; simp), rfl⟩
theorem rf_stalled (run : Int) (w : World) : Calls Try.prog 20 #[.int .i64 run] w fun e w' => e = .returned (.bool (slB run)) ∧ w = w' := by
  go_enter Try.func20, Try.ntmps20
  go_wp2
  all_goals go_ret
  all_goals exact ⟨ret_p (by unfold slB; simp), rfl⟩
theorem rf_apart (run p k x : Int) (w : World) : Calls Try.prog 18 #[.int .i64 run, .agg #[.int .i64 p, .int .i64 k], .int .i64 x] w fun e w' => e = .returned (.int .i64 (apV run p k x)) ∧ Below w.heap.size w w' := by
  unfold apV
  by_cases hk : 0 < k
  · rw [if_pos hk]
    have t1 := decide_eq_true hk
    go_enter Try.func18, Try.ntmps18
    go_wp2_with (go_at_call 31; refine (ref_sub _ _ _).mono ?_; rintro e w' ⟨rfl, rfl⟩)
    all_goals go_ret
    all_goals exact ⟨rfl, by (repeat (first | (with_reducible exact Below.refl _ _) | (with_reducible assumption) | (with_reducible refine Near.up _ ?_) | (with_reducible refine below_alloc_on ?_ _) | (with_reducible refine below_set_on ?_ (by first | (simp; done) | (simp; omega) | omega) _)))⟩
  · rw [if_neg hk]
    have t1 := decide_eq_false hk
    have hw : min (max run 0) 1099511627776 = withV run 0 1099511627776 := by unfold withV; split <;> (try split) <;> (try split) <;> omega
    by_cases h1 : subV p x ≤ 6
    · by_cases h2 : -6 ≤ subV p x
      · have hn : neB p x = true := decide_eq_true ⟨h2, h1⟩
        rw [if_pos hn]
        have t2 := decide_eq_true h1
        have t3 := decide_eq_true h2
        clear hn hw
        go_enter Try.func18, Try.ntmps18
        go_wp2_with (go_at_call 31; refine (ref_sub _ _ _).mono ?_; rintro e w' ⟨rfl, rfl⟩)
        all_goals go_ret
        all_goals exact ⟨rfl, by (repeat (first | (with_reducible exact Below.refl _ _) | (with_reducible assumption) | (with_reducible refine Near.up _ ?_) | (with_reducible refine below_alloc_on ?_ _) | (with_reducible refine below_set_on ?_ (by first | (simp; done) | (simp; omega) | omega) _)))⟩
      · have hn : neB p x = false := decide_eq_false fun h => h2 h.1
        rw [if_neg (by rw [hn]; simp), ← hw]
        have t2 := decide_eq_true h1
        have t3 := decide_eq_false h2
        clear hn hw
        go_enter Try.func18, Try.ntmps18
        go_wp2_with (go_at_call 31; refine (ref_sub _ _ _).mono ?_; rintro e w' ⟨rfl, rfl⟩)
        all_goals go_ret
        all_goals exact ⟨ret_n (by omega), by (repeat (first | (with_reducible exact Below.refl _ _) | (with_reducible assumption) | (with_reducible refine Near.up _ ?_) | (with_reducible refine below_alloc_on ?_ _) | (with_reducible refine below_set_on ?_ (by first | (simp; done) | (simp; omega) | omega) _)))⟩
    · have hn : neB p x = false := decide_eq_false fun h => h1 h.2
      rw [if_neg (by rw [hn]; simp), ← hw]
      have t2 := decide_eq_false h1
      clear hn hw
      go_enter Try.func18, Try.ntmps18
      go_wp2_with (go_at_call 31; refine (ref_sub _ _ _).mono ?_; rintro e w' ⟨rfl, rfl⟩)
      all_goals go_ret
      all_goals exact ⟨ret_n (by omega), by (repeat (first | (with_reducible exact Below.refl _ _) | (with_reducible assumption) | (with_reducible refine Near.up _ ?_) | (with_reducible refine below_alloc_on ?_ _) | (with_reducible refine below_set_on ?_ (by first | (simp; done) | (simp; omega) | omega) _)))⟩

end Go.Proofs.Ytjojclgbonhngaa
