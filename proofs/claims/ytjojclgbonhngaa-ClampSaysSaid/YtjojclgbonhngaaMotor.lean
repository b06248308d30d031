/- Contracts of package motor, the document's, and the law package's own. -/
import Derived.Test.YtjojclgbonhngaaMotorN
import Derived.Test.YtjojclgbonhngaaBox
import Derived.WalkKit
import Derived.ProofKit
import Derived.OpenShut
import Derived.Handy
import Derived.Lib.Hide
namespace Go.Proofs.Ytjojclgbonhngaa
open Go.RowKit
set_option linter.unusedVariables false

theorem ret_n {k : IntKind} {a b : Int} (h : a = b) : Ending.returned (.int k a) = Ending.returned (.int k b) := by rw [h]
theorem ret_p {p q : Bool} (g : p = q) : Ending.returned (.bool p) = Ending.returned (.bool q) := by rw [g]
theorem ret_2 {a b c d : Int} (h : a = b) (g : c = d) : Ending.returned (.agg #[.int .i64 a, .int .i64 c]) = Ending.returned (.agg #[.int .i64 b, .int .i64 d]) := by rw [h, g]

theorem mo_within (n most : Int) (h0 : 0 ≤ most) (w : World) : Calls Try.prog 30 #[.int .i64 n, .int .i64 most] w fun e w' => e = .returned (.int .i64 (mnV n most)) ∧ w = w' := by
  go_enter Try.func30, Try.ntmps30
  go_wp2
  all_goals go_ret
  all_goals exact ⟨ret_n (by unfold mnV; (try split) <;> (try split) <;> (try split) <;> omega), rfl⟩
theorem mo_nearer (a b : Int) (a0 : 0 ≤ a) (a1 : a ≤ 300) (w : World) : Calls Try.prog 29 #[.int .i64 a, .int .i64 b] w fun e w' => e = .returned (.int .i64 (neV a b)) ∧ w = w' := by
  go_enter Try.func29, Try.ntmps29
  go_wp2
  all_goals go_ret
  all_goals exact ⟨ret_n (by unfold neV; (try split) <;> (try split) <;> omega), rfl⟩
attribute [local go_sem] Near.cell Near.frozen
/-- A field of a motor by value. -/
theorem fld_motor0 (a b : Int) (w : World) : (Instr.field 23 (.agg #[.int .i64 a, .int .i64 b]) 0).run Try.prog w = .ok (.int .i64 a) w := by kernel_rfl
theorem fld_motor1 (a b : Int) (w : World) : (Instr.field 23 (.agg #[.int .i64 a, .int .i64 b]) 1).run Try.prog w = .ok (.int .i64 b) w := by kernel_rfl

theorem mo_counted (p h : Int) (w : World) : Calls Try.prog 27 #[.agg #[.int .i64 p, .int .i64 h]] w fun e w' => e = .returned (.agg #[.int .i64 (cpV p), .int .i64 (chV h)]) ∧ Below w.heap.size w w' := by
  unfold cpV chV
  go_enter Try.func27, Try.ntmps27
  go_wp2
  refine wp_region_calm_tail 7 (by kernel_rfl) (by kernel_rfl) ?_
  simp only [List.take_succ_cons, List.take_zero, List.drop_succ_cons, List.drop_zero]
  repeat (go_big_quiet_step (((go_at_call 30; exact calm_same _ (mo_within _ _ (by omega) _)))))
  refine wpQuiet_nil ?_
  intro _ hw'
  obtain ⟨u, rfl⟩ := hw'
  go_wp2
  refine bodyPost_ret (v := .agg #[.int .i64 (mnV p 300), .int .i64 (mnV h 320)]) (by simp [results, Try.results27, go_sem]) rfl ⟨rfl, ?_⟩
  exact ((u.up (((Below.refl _ _).alloc (Nat.le_refl _) _).alloc (by simp) _)).setCell (by simp) _).setCell (by simp) _

theorem mo_homeward (p h : Int) (p0 : 0 ≤ p) (p1 : p ≤ 300) (h0 : 1 ≤ h) (h1 : h ≤ 320) (w : World) :
    Calls Try.prog 28 #[.agg #[.int .i64 p, .int .i64 h]] w fun e w' => e = .returned (.agg #[.int .i64 (if h = 1 then 0 else if p < 1 then 0 else p - 1), .int .i64 (h - 1)]) ∧ Below w.heap.size w w' := by
  by_cases hh : h = 1
  · subst hh
    go_enter Try.func28, Try.ntmps28
    go_wp2
    exact bodyPost_ret (v := .agg #[.int .i64 0, .int .i64 0]) (by simp [results, Try.results28, go_sem]) rfl ⟨rfl, by (repeat (first | (with_reducible exact Below.refl _ _) | (with_reducible assumption) | (with_reducible refine Near.up _ ?_) | (with_reducible refine below_alloc_on ?_ _) | (with_reducible refine below_set_on ?_ (by first | (simp; done) | (simp; omega) | omega) _)))⟩
  · have t1 : (h == 1) = false := by simpa using hh
    by_cases hp : p < 1
    · obtain rfl : p = 0 := by omega
      rw [if_neg hh, if_pos (by omega)]
      clear hh
      go_enter Try.func28, Try.ntmps28
      go_wp2
      exact bodyPost_ret (v := .agg #[.int .i64 0, .int .i64 (h - 1)]) (by simp [results, Try.results28, go_sem]) rfl ⟨rfl, by (repeat (first | (with_reducible exact Below.refl _ _) | (with_reducible assumption) | (with_reducible refine Near.up _ ?_) | (with_reducible refine below_alloc_on ?_ _) | (with_reducible refine below_set_on ?_ (by first | (simp; done) | (simp; omega) | omega) _)))⟩
    · have m1 : max (p - 1) 0 = p - 1 := by omega
      rw [if_neg hh, if_neg hp]
      clear hh
      go_enter Try.func28, Try.ntmps28
      go_wp2
      exact bodyPost_ret (v := .agg #[.int .i64 (p - 1), .int .i64 (h - 1)]) (by simp [results, Try.results28, go_sem]) rfl ⟨rfl, by (repeat (first | (with_reducible exact Below.refl _ _) | (with_reducible assumption) | (with_reducible refine Near.up _ ?_) | (with_reducible refine below_alloc_on ?_ _) | (with_reducible refine below_set_on ?_ (by first | (simp; done) | (simp; omega) | omega) _)))⟩

theorem mo_step (p h want : Int) (w : World) : Calls Try.prog 16 #[.agg #[.int .i64 p, .int .i64 h], .int .i64 want] w fun e w' => e = .returned (.agg #[.int .i64 (stP p h want), .int .i64 (stH h)]) ∧ Below w.heap.size w w' := by
  have ⟨c0, c1⟩ := cp_bd p
  have ⟨d0, d1⟩ := ch_bd h
  by_cases hh : 0 < chV h
  · have t1 : decide (0 < chV h) = true := decide_eq_true hh
    have e1 : stP p h want = (if chV h = 1 then 0 else if cpV p < 1 then 0 else cpV p - 1) := by unfold stP; rw [if_pos hh]
    have e2 : stH h = chV h - 1 := by unfold stH; rw [if_pos hh]
    rw [e1, e2]
    have HW := Lib.hid (fun w => mo_homeward (cpV p) (chV h) c0 c1 (by omega) d1 w)
    clear e1 e2
    generalize (if chV h = 1 then 0 else if cpV p < 1 then 0 else cpV p - 1) = R at *
    go_enter Try.func16, Try.ntmps16
    go_wp2_with (first
      | (go_at_call 27; refine (mo_counted _ _ _).mono ?_; rintro e w' ⟨rfl, hb⟩; obtain ⟨u, rfl⟩ := near_of hb; have hs1 := u.size; simp at hs1; have z0 : w.heap.size < u.at_.heap.size := (by omega); have z1 : w.heap.size + 1 < u.at_.heap.size := (by omega))
      | (go_at_call 28; refine (HW.out _).mono ?_; rintro e w' ⟨rfl, hb⟩; obtain ⟨u2, rfl⟩ := near_of hb; have hs2 := u2.size; simp at hs2))
    refine bodyPost_ret (v := .agg #[.int .i64 R, .int .i64 (chV h - 1)]) (by simp [results, Try.results16, go_sem, z0, z1]) rfl ⟨rfl, by (repeat (first | (with_reducible exact Below.refl _ _) | (with_reducible assumption) | (with_reducible refine Near.up _ ?_) | (with_reducible refine below_alloc_on ?_ _) | (with_reducible refine below_set_on ?_ (by first | (simp; done) | (simp; omega) | omega) _)))⟩
  · have t1 : decide (0 < chV h) = false := decide_eq_false hh
    have e1 : stP p h want = neV (cpV p) (mnV want 300) := by unfold stP; rw [if_neg hh]; rfl
    have e2 : stH h = 0 := by unfold stH; rw [if_neg hh]
    rw [e1, e2]
    clear e1 e2
    go_enter Try.func16, Try.ntmps16
    go_wp2_with (first
      | (go_at_call 27; refine (mo_counted _ _ _).mono ?_; rintro e w' ⟨rfl, hb⟩; obtain ⟨u, rfl⟩ := near_of hb; have hs1 := u.size; simp at hs1; have z0 : w.heap.size < u.at_.heap.size := (by omega); have z1 : w.heap.size + 1 < u.at_.heap.size := (by omega)))
    refine wp_region_calm_tail 6 (by kernel_rfl) (by kernel_rfl) ?_
    simp only [List.take_succ_cons, List.take_zero, List.drop_succ_cons, List.drop_zero]
    repeat (go_big_quiet_step ((first | ((go_at_call 30; exact calm_same _ (mo_within _ _ (by omega) _))) | ((go_at_call 29; exact calm_same _ (mo_nearer _ _ c0 c1 _))))))
    refine wpQuiet_nil ?_
    intro _ hw'
    obtain ⟨u, rfl⟩ := hw'
    go_wp2
    refine bodyPost_ret (v := .agg #[.int .i64 (neV (cpV p) (mnV want 300)), .int .i64 0]) (by simp [results, Try.results16, go_sem, z0, z1]) rfl ⟨rfl, by (repeat (first | (with_reducible exact Below.refl _ _) | (with_reducible assumption) | (with_reducible refine Near.up _ ?_) | (with_reducible refine below_alloc_on ?_ _) | (with_reducible refine below_set_on ?_ (by first | (simp; done) | (simp; omega) | omega) _)))⟩

theorem mo_closed (p h : Int) (w : World) : Calls Try.prog 23 #[.agg #[.int .i64 p, .int .i64 h]] w fun e w' => e = .returned (.bool (cdB p h)) ∧ Below w.heap.size w w' := by
  unfold cdB
  by_cases h0 : cpV p = 0
  · by_cases h1 : chV h = 0
    · rw [decide_eq_true (⟨h0, h1⟩ : cpV p = 0 ∧ chV h = 0)]
      go_enter Try.func23, Try.ntmps23
      go_wp2_with (go_at_call 27; refine (mo_counted _ _ _).mono ?_; rintro e w' ⟨rfl, hb⟩; obtain ⟨u, rfl⟩ := near_of hb)
      all_goals go_ret
      all_goals exact ⟨rfl, by (repeat (first | (with_reducible exact Below.refl _ _) | (with_reducible assumption) | (with_reducible refine Near.up _ ?_) | (with_reducible refine below_alloc_on ?_ _) | (with_reducible refine below_set_on ?_ (by first | (simp; done) | (simp; omega) | omega) _)))⟩
    · rw [decide_eq_false (fun g => h1 g.2 : ¬ (cpV p = 0 ∧ chV h = 0))]
      have t1 : (chV h == 0) = false := by simpa using h1
      go_enter Try.func23, Try.ntmps23
      go_wp2_with (go_at_call 27; refine (mo_counted _ _ _).mono ?_; rintro e w' ⟨rfl, hb⟩; obtain ⟨u, rfl⟩ := near_of hb)
      all_goals go_ret
      all_goals exact ⟨rfl, by (repeat (first | (with_reducible exact Below.refl _ _) | (with_reducible assumption) | (with_reducible refine Near.up _ ?_) | (with_reducible refine below_alloc_on ?_ _) | (with_reducible refine below_set_on ?_ (by first | (simp; done) | (simp; omega) | omega) _)))⟩
  · rw [decide_eq_false (fun g => h0 g.1 : ¬ (cpV p = 0 ∧ chV h = 0))]
    have t1 : (cpV p == 0) = false := by simpa using h0
    go_enter Try.func23, Try.ntmps23
    go_wp2_with (go_at_call 27; refine (mo_counted _ _ _).mono ?_; rintro e w' ⟨rfl, hb⟩; obtain ⟨u, rfl⟩ := near_of hb)
    all_goals go_ret
    all_goals exact ⟨rfl, by (repeat (first | (with_reducible exact Below.refl _ _) | (with_reducible assumption) | (with_reducible refine Near.up _ ?_) | (with_reducible refine below_alloc_on ?_ _) | (with_reducible refine below_set_on ?_ (by first | (simp; done) | (simp; omega) | omega) _)))⟩

theorem mo_start (w : World) : Calls Try.prog 21 #[] w fun e w' => e = .returned (.agg #[.int .i64 300, .int .i64 320]) ∧ Below w.heap.size w w' := by
  go_enter Try.func21, Try.ntmps21
  go_wp2
  exact bodyPost_ret (v := .agg #[.int .i64 300, .int .i64 320]) (by simp [results, Try.results21, go_sem]) rfl ⟨rfl, by (repeat (first | (with_reducible exact Below.refl _ _) | (with_reducible assumption) | (with_reducible refine Near.up _ ?_) | (with_reducible refine below_alloc_on ?_ _) | (with_reducible refine below_set_on ?_ (by first | (simp; done) | (simp; omega) | omega) _)))⟩
end Go.Proofs.Ytjojclgbonhngaa
