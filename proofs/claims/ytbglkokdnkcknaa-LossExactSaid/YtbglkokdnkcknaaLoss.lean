/- Contracts of package loss, the document's, and the law package's own. -/
import Derived.Test.YtbglkokdnkcknaaMore
namespace Go.Proofs.Ytbglkokdnkcknaa
open Go.RowKit
set_option linter.unusedVariables false
attribute [local go_sem] cell_set_ite Near.cell Near.frozen

def loS (n : Int) (armed drop : Bool) : Int := if armed = true then roV n (!drop) else 0
def loW (n : Int) (armed wide : Bool) : Int := if armed = true then roV n wide else 0
def ltB (n t : Int) : Bool := decide (max t 1 ≤ n)
def dyB (n : Int) : Bool := decide (500 ≤ n)

theorem lo_run (n : Int) (x : Bool) (w : World) : Calls Try.prog 54 #[.int .i64 n, .bool x] w fun e w' => e = .returned (.int .i64 (roV n x)) ∧ w = w' := by
  cases x
  · go_enter Try.func54, Try.ntmps54
    go_wp2
    all_goals go_ret
    all_goals exact ⟨rfl, rfl⟩
  · go_enter Try.func54, Try.ntmps54
    go_wp2
    all_goals go_ret
    all_goals exact ⟨ret_i (by rw [ro_yes]; unfold moV; omega), rfl⟩
theorem rl_more (n : Int) (w : World) : Calls Try.prog 55 #[.int .i64 n] w fun e w' => e = .returned (.int .i64 (moV n)) ∧ w = w' := by
  go_enter Try.func55, Try.ntmps55
  go_wp2
  all_goals go_ret
  all_goals exact ⟨ret_i (by unfold moV; omega), rfl⟩
theorem lt_eq {n t : Int} : (decide (1 ≤ t) = true → ltB n t = decide (t ≤ n)) ∧ (decide (1 ≤ t) = false → ltB n t = decide (1 ≤ n)) := by
  unfold ltB
  constructor
  · intro h; have := of_decide_eq_true h; rw [Int.max_eq_left (by omega)]
  · intro h; have := of_decide_eq_false h; rw [Int.max_eq_right (by omega)]
theorem lo_lost (n v t : Int) (w : World) : Calls Try.prog 29 #[.agg #[.int .i64 n, .int .i64 v], .int .i64 t] w fun e w' => e = .returned (.bool (ltB n t)) ∧ Below w.heap.size w w' := by
  go_enter Try.func29, Try.ntmps29
  go_wp2
  all_goals go_ret
  all_goals exact ⟨ret_b (by unfold ltB; rw [Bool.eq_iff_iff]; simp; omega), by (repeat (first | (with_reducible exact Below.refl _ _) | (with_reducible assumption) | (with_reducible refine Near.up _ ?_) | (with_reducible refine below_alloc_on ?_ _) | (with_reducible refine below_set_on ?_ (by first | (simp; done) | (simp; omega) | omega) _)))⟩
theorem rl_lost (n v t : Int) (w : World) : Calls Try.prog 30 #[.agg #[.int .i64 n, .int .i64 v], .int .i64 t] w fun e w' => e = .returned (.bool (ltB n t)) ∧ Below w.heap.size w w' := by
  go_enter Try.func30, Try.ntmps30
  go_wp2
  all_goals go_ret
  all_goals exact ⟨ret_b (by unfold ltB; rw [Bool.eq_iff_iff]; simp; omega), by (repeat (first | (with_reducible exact Below.refl _ _) | (with_reducible assumption) | (with_reducible refine Near.up _ ?_) | (with_reducible refine below_alloc_on ?_ _) | (with_reducible refine below_set_on ?_ (by first | (simp; done) | (simp; omega) | omega) _)))⟩
theorem lo_empty (n v : Int) (w : World) : Calls Try.prog 31 #[.agg #[.int .i64 n, .int .i64 v]] w fun e w' => e = .returned (.bool (dyB v)) ∧ Below w.heap.size w w' := by
  go_enter Try.func31, Try.ntmps31
  go_wp2
  all_goals go_ret
  all_goals exact ⟨rfl, by (repeat (first | (with_reducible exact Below.refl _ _) | (with_reducible assumption) | (with_reducible refine Near.up _ ?_) | (with_reducible refine below_alloc_on ?_ _) | (with_reducible refine below_set_on ?_ (by first | (simp; done) | (simp; omega) | omega) _)))⟩
theorem rl_empty (n v : Int) (w : World) : Calls Try.prog 32 #[.agg #[.int .i64 n, .int .i64 v]] w fun e w' => e = .returned (.bool (dyB v)) ∧ Below w.heap.size w w' := by
  go_enter Try.func32, Try.ntmps32
  go_wp2
  all_goals go_ret
  all_goals exact ⟨rfl, by (repeat (first | (with_reducible exact Below.refl _ _) | (with_reducible assumption) | (with_reducible refine Near.up _ ?_) | (with_reducible refine below_alloc_on ?_ _) | (with_reducible refine below_set_on ?_ (by first | (simp; done) | (simp; omega) | omega) _)))⟩
theorem lo_step (n v : Int) (a d x : Bool) (w : World) : Calls Try.prog 27 #[.agg #[.int .i64 n, .int .i64 v], .bool a, .bool d, .bool x] w fun e w' => e = .returned (.agg #[.int .i64 (loS n a d), .int .i64 (loW v a x)]) ∧ Below w.heap.size w w' := by
  cases a
  · go_enter Try.func27, Try.ntmps27
    go_wp2
    exact bodyPost_ret (v := .agg #[.int .i64 0, .int .i64 0]) (by simp [results, Try.results27, go_sem]) rfl ⟨rfl, by (repeat (first | (with_reducible exact Below.refl _ _) | (with_reducible assumption) | (with_reducible refine Near.up _ ?_) | (with_reducible refine below_alloc_on ?_ _) | (with_reducible refine below_set_on ?_ (by first | (simp; done) | (simp; omega) | omega) _)))⟩
  · unfold loS loW
    rw [if_pos rfl, if_pos rfl]
    go_enter Try.func27, Try.ntmps27
    go_wp2
    refine wp_region_calm_tail 9 (by kernel_rfl) (by kernel_rfl) ?_
    simp only [List.take_succ_cons, List.take_zero, List.drop_succ_cons, List.drop_zero]
    repeat (go_big_quiet_step (((go_at_call 54; exact calm_same _ (lo_run _ _ _)))))
    refine wpQuiet_nil ?_
    intro _ hw'
    obtain ⟨u, rfl⟩ := hw'
    go_wp2
    exact bodyPost_ret (v := .agg #[.int .i64 (roV n (!d)), .int .i64 (roV v x)]) (by simp [results, Try.results27, go_sem]) rfl ⟨rfl, by (repeat (first | (with_reducible exact Below.refl _ _) | (with_reducible assumption) | (with_reducible refine Near.up _ ?_) | (with_reducible refine below_alloc_on ?_ _) | (with_reducible refine below_set_on ?_ (by first | (simp; done) | (simp; omega) | omega) _)))⟩
theorem rl_step (n v : Int) (a d x : Bool) (w : World) : Calls Try.prog 28 #[.agg #[.int .i64 n, .int .i64 v], .bool a, .bool d, .bool x] w fun e w' => e = .returned (.agg #[.int .i64 (loS n a d), .int .i64 (loW v a x)]) ∧ Below w.heap.size w w' := by
  cases a
  · go_enter Try.func28, Try.ntmps28
    go_wp2
    exact bodyPost_ret (v := .agg #[.int .i64 0, .int .i64 0]) (by simp [results, Try.results28, go_sem]) rfl ⟨rfl, by (repeat (first | (with_reducible exact Below.refl _ _) | (with_reducible assumption) | (with_reducible refine Near.up _ ?_) | (with_reducible refine below_alloc_on ?_ _) | (with_reducible refine below_set_on ?_ (by first | (simp; done) | (simp; omega) | omega) _)))⟩
  · cases d <;> cases x
    all_goals
      go_enter Try.func28, Try.ntmps28
      go_wp2_with (go_at_call 55; refine (rl_more _ _).mono ?_; rintro e w' ⟨rfl, rfl⟩)
      exact bodyPost_ret (v := .agg #[.int .i64 (loS n true _), .int .i64 (loW v true _)]) (by simp [results, Try.results28, go_sem, loS, loW, roV]) rfl ⟨rfl, by (repeat (first | (with_reducible exact Below.refl _ _) | (with_reducible assumption) | (with_reducible refine Near.up _ ?_) | (with_reducible refine below_alloc_on ?_ _) | (with_reducible refine below_set_on ?_ (by first | (simp; done) | (simp; omega) | omega) _)))⟩

theorem law32_awake (w : World) : Calls Try.prog 33 #[] w fun e w' => e = .returned (.bool true) ∧ Below w.heap.size w w' := by
  have e1 : loS 0 true false = 1 := by decide +kernel
  have e2 : loW 0 true true = 1 := by decide +kernel
  have e3 : loS 1 true false = 2 := by decide +kernel
  have e4 : loW 1 true true = 2 := by decide +kernel
  have e5 : loS 2 true false = 3 := by decide +kernel
  have e6 : loW 2 true false = 0 := by decide +kernel
  have e7 : ltB 3 3 = true := by decide +kernel
  have e8 : ltB 3 4 = false := by decide +kernel
  have e9 : loS 3 true true = 0 := by decide +kernel
  have e10 : loW 0 true true = 1 := by decide +kernel
  have e11 : loS 3 false false = 0 := by decide +kernel
  have e12 : loW 0 false true = 0 := by decide +kernel
  have e13 : dyB 500 = true := by decide +kernel
  have e14 : dyB 499 = false := by decide +kernel
  have A : Below w.heap.size w w := Below.refl _ _
  go_enter Try.func33, Try.ntmps33
  go_wp2_with (fail)
  refine (lo_step _ _ _ _ _ _).mono ?_
  rintro e w1 ⟨rfl, hb⟩
  replace A : Below w.heap.size w w1 := by (refine below_call ?_ hb; (repeat (first | (with_reducible exact Below.refl _ _) | (with_reducible assumption) | (with_reducible refine Near.up _ ?_) | (with_reducible refine below_alloc_on ?_ _) | (with_reducible refine below_set_on ?_ (by first | (simp; done) | (simp; omega) | omega) _))))
  clear hb
  go_wp2_with (fail)
  refine (lo_step _ _ _ _ _ _).mono ?_
  rintro e w2 ⟨rfl, hb⟩
  replace A : Below w.heap.size w w2 := by (refine below_call ?_ hb; (repeat (first | (with_reducible exact Below.refl _ _) | (with_reducible assumption) | (with_reducible refine Near.up _ ?_) | (with_reducible refine below_alloc_on ?_ _) | (with_reducible refine below_set_on ?_ (by first | (simp; done) | (simp; omega) | omega) _))))
  clear hb
  go_wp2_with (fail)
  refine (lo_step _ _ _ _ _ _).mono ?_
  rintro e w3 ⟨rfl, hb⟩
  replace A : Below w.heap.size w w3 := by (refine below_call ?_ hb; (repeat (first | (with_reducible exact Below.refl _ _) | (with_reducible assumption) | (with_reducible refine Near.up _ ?_) | (with_reducible refine below_alloc_on ?_ _) | (with_reducible refine below_set_on ?_ (by first | (simp; done) | (simp; omega) | omega) _))))
  clear hb
  go_wp2_with (fail)
  refine (lo_lost _ _ _ _).mono ?_
  rintro e w4 ⟨rfl, hb⟩
  replace A : Below w.heap.size w w4 := by (refine below_call ?_ hb; (repeat (first | (with_reducible exact Below.refl _ _) | (with_reducible assumption) | (with_reducible refine Near.up _ ?_) | (with_reducible refine below_alloc_on ?_ _) | (with_reducible refine below_set_on ?_ (by first | (simp; done) | (simp; omega) | omega) _))))
  replace B := Box.below (g := w3.heap.size) (by (repeat (first | (with_reducible assumption) | (with_reducible exact box_new _ _ _) | (with_reducible refine Box.near ?_ _) | (with_reducible refine Box.alloc ?_ _) | (with_reducible refine Box.far ?_ (by first | assumption | (simp; done) | (simp; omega) | omega) _)))) hb
  (try clear lB cB fB)
  clear hb
  obtain ⟨lB, cB, fB⟩ := id B
  go_wp2_with (fail)
  refine (lo_lost _ _ _ _).mono ?_
  rintro e w5 ⟨rfl, hb⟩
  replace A : Below w.heap.size w w5 := by (refine below_call ?_ hb; (repeat (first | (with_reducible exact Below.refl _ _) | (with_reducible assumption) | (with_reducible refine Near.up _ ?_) | (with_reducible refine below_alloc_on ?_ _) | (with_reducible refine below_set_on ?_ (by first | (simp; done) | (simp; omega) | omega) _))))
  replace B := Box.below (g := w3.heap.size) (by (repeat (first | (with_reducible assumption) | (with_reducible exact box_new _ _ _) | (with_reducible refine Box.near ?_ _) | (with_reducible refine Box.alloc ?_ _) | (with_reducible refine Box.far ?_ (by first | assumption | (simp; done) | (simp; omega) | omega) _)))) hb
  (try clear lB cB fB)
  clear hb
  obtain ⟨lB, cB, fB⟩ := id B
  go_wp2_with (fail)
  refine (lo_step _ _ _ _ _ _).mono ?_
  rintro e w6 ⟨rfl, hb⟩
  replace A : Below w.heap.size w w6 := by (refine below_call ?_ hb; (repeat (first | (with_reducible exact Below.refl _ _) | (with_reducible assumption) | (with_reducible refine Near.up _ ?_) | (with_reducible refine below_alloc_on ?_ _) | (with_reducible refine below_set_on ?_ (by first | (simp; done) | (simp; omega) | omega) _))))
  replace B := Box.below (g := w3.heap.size) (by (repeat (first | (with_reducible assumption) | (with_reducible exact box_new _ _ _) | (with_reducible refine Box.near ?_ _) | (with_reducible refine Box.alloc ?_ _) | (with_reducible refine Box.far ?_ (by first | assumption | (simp; done) | (simp; omega) | omega) _)))) hb
  (try clear lB cB fB)
  clear hb
  obtain ⟨lB, cB, fB⟩ := id B
  go_wp2_with (fail)
  refine (lo_step _ _ _ _ _ _).mono ?_
  rintro e w7 ⟨rfl, hb⟩
  replace A : Below w.heap.size w w7 := by (refine below_call ?_ hb; (repeat (first | (with_reducible exact Below.refl _ _) | (with_reducible assumption) | (with_reducible refine Near.up _ ?_) | (with_reducible refine below_alloc_on ?_ _) | (with_reducible refine below_set_on ?_ (by first | (simp; done) | (simp; omega) | omega) _))))
  replace B := Box.below (g := w3.heap.size) (by (repeat (first | (with_reducible assumption) | (with_reducible exact box_new _ _ _) | (with_reducible refine Box.near ?_ _) | (with_reducible refine Box.alloc ?_ _) | (with_reducible refine Box.far ?_ (by first | assumption | (simp; done) | (simp; omega) | omega) _)))) hb
  (try clear lB cB fB)
  clear hb
  obtain ⟨lB, cB, fB⟩ := id B
  go_wp2_with (fail)
  refine (lo_empty _ _ _).mono ?_
  rintro e w8 ⟨rfl, hb⟩
  replace A : Below w.heap.size w w8 := by (refine below_call ?_ hb; (repeat (first | (with_reducible exact Below.refl _ _) | (with_reducible assumption) | (with_reducible refine Near.up _ ?_) | (with_reducible refine below_alloc_on ?_ _) | (with_reducible refine below_set_on ?_ (by first | (simp; done) | (simp; omega) | omega) _))))
  replace B := Box.below (g := w3.heap.size) (by (repeat (first | (with_reducible assumption) | (with_reducible exact box_new _ _ _) | (with_reducible refine Box.near ?_ _) | (with_reducible refine Box.alloc ?_ _) | (with_reducible refine Box.far ?_ (by first | assumption | (simp; done) | (simp; omega) | omega) _)))) hb
  (try clear lB cB fB)
  clear hb
  obtain ⟨lB, cB, fB⟩ := id B
  go_wp2_with (fail)
  refine (lo_empty _ _ _).mono ?_
  rintro e w9 ⟨rfl, hb⟩
  replace A : Below w.heap.size w w9 := by (refine below_call ?_ hb; (repeat (first | (with_reducible exact Below.refl _ _) | (with_reducible assumption) | (with_reducible refine Near.up _ ?_) | (with_reducible refine below_alloc_on ?_ _) | (with_reducible refine below_set_on ?_ (by first | (simp; done) | (simp; omega) | omega) _))))
  clear hb
  go_wp2
  all_goals go_ret
  all_goals exact ⟨rfl, A⟩
end Go.Proofs.Ytbglkokdnkcknaa
