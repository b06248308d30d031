/- Contracts of package monitor: alone, unary, binary. -/
import Derived.Test.YtmemhlhjkpijpaaMonD
namespace Go.Proofs.Ytmemhlhjkpijpaa
open Go.RowKit
set_option linter.unusedVariables false
set_option linter.unusedSimpArgs false
set_option maxRecDepth 100000
attribute [local go_sem] cell_set_ite Near.cell Near.frozen

def alB (t : Tm) (o : Ou) : Bool := if t.op = 1 then true else if t.a = 11 then !(bits .and .i64 o.latch t.b == 0) else decide (t.b ≤ askV o t.a)
set_option maxHeartbeats 4000000 in
theorem mo_alone (t : Tm) (o : Ou) (w : World) : Calls Try.prog 49 #[t.val, .agg o.cells] w fun e w' => e = .returned (.bool (alB t o)) ∧ Below w.heap.size w w' := by
  have A0 : Below w.heap.size w w := Below.refl _ _
  have HA := Lib.hid (fun w => ho_ask o t.a w)
  obtain ⟨op, a, b⟩ := t
  by_cases h1 : op = 1
  · subst h1
    rw [show alB ⟨1, a, b⟩ o = true from rfl]
    unfold Tm.val Ou.cells
    clear HA
    go_enter Try.func49, Try.ntmps49
    go_wp2
    all_goals go_ret
    all_goals exact ⟨rfl, by (repeat (first | (with_reducible exact Below.refl _ _) | (with_reducible assumption) | (with_reducible refine Near.up _ ?_) | (with_reducible refine Below.drew ?_) | (with_reducible refine below_alloc_on ?_ _) | (with_reducible refine below_set_on ?_ (by first | (simp; done) | (simp; omega) | omega) _)))⟩
  · have t1 : (op == 1) = false := by simpa using h1
    by_cases h2 : a = 11
    · subst h2
      have hv : alB ⟨op, 11, b⟩ o = !(bits .and .i64 o.latch b == 0) := by unfold alB; rw [if_neg h1, if_pos rfl]
      rw [hv]
      unfold Tm.val Ou.cells
      clear HA hv h1
      cases hz : bits .and .i64 o.latch b == 0
      · have hz0 : ¬ bits .and .i64 o.latch b = 0 := by simpa using hz
        have hz1 : (bits .and .i64 o.latch b != 0) = true := by simpa using hz0
        go_enter Try.func49, Try.ntmps49
        go_wp2
        all_goals go_ret
        all_goals exact ⟨rfl, by (repeat (first | (with_reducible exact Below.refl _ _) | (with_reducible assumption) | (with_reducible refine Near.up _ ?_) | (with_reducible refine Below.drew ?_) | (with_reducible refine below_alloc_on ?_ _) | (with_reducible refine below_set_on ?_ (by first | (simp; done) | (simp; omega) | omega) _)))⟩
      · have hz0 : bits .and .i64 o.latch b = 0 := by simpa using hz
        have hz1 : (bits .and .i64 o.latch b != 0) = false := by simpa using hz0
        go_enter Try.func49, Try.ntmps49
        go_wp2
        all_goals go_ret
        all_goals exact ⟨rfl, by (repeat (first | (with_reducible exact Below.refl _ _) | (with_reducible assumption) | (with_reducible refine Near.up _ ?_) | (with_reducible refine Below.drew ?_) | (with_reducible refine below_alloc_on ?_ _) | (with_reducible refine below_set_on ?_ (by first | (simp; done) | (simp; omega) | omega) _)))⟩
    · have t2 : (a == 11) = false := by simpa using h2
      have hv : alB ⟨op, a, b⟩ o = decide (b ≤ askV o a) := by unfold alB; rw [if_neg h1, if_neg h2]
      rw [hv]
      generalize askV o a = v at *
      unfold Tm.val
      unfold Ou.cells at HA ⊢
      clear hv h1 h2
      go_enter Try.func49, Try.ntmps49
      go_wp2
      have A2 : Below w.heap.size w ((w.alloc (.cells #[.int .i64 op, .int .i64 a, .int .i64 b] 36)).alloc (.cells #[.int .i64 o.tick, .int .i64 o.mode, .int .i64 o.latch, .int .i64 o.notes, .int .i64 o.level, .int .i64 o.buzzer, .int .i64 o.opn, .int .i64 o.pos, .int .i64 o.volume, .bool o.drop, .string o.frame] 29)) := by (repeat (first | (with_reducible exact Below.refl _ _) | (with_reducible assumption) | (with_reducible refine Near.up _ ?_) | (with_reducible refine Below.drew ?_) | (with_reducible refine below_alloc_on ?_ _) | (with_reducible refine below_set_on ?_ (by first | (simp; done) | (simp; omega) | omega) _)))
      refine wp_region_calm (by kernel_rfl) (by kernel_rfl) ?_
      repeat (go_big_quiet_step (((go_at_call 9; exact calm_of _ (HA.out _)))))
      refine wpQuiet_nil ?_
      intro _ hw'
      obtain ⟨u, rfl⟩ := hw'
      go_wp2
      all_goals go_ret
      all_goals exact ⟨rfl, below_call A2 u.below⟩

def unB (t : Tm) (so : Bool) (kept : Int) : Bool := if t.op = 6 then decide (agoV kept so ≠ -1) && decide (agoV kept so ≤ t.a) else if t.op = 7 then decide (agoV kept (!so) = -1) || decide (t.a < agoV kept (!so)) else !so
def unV (t : Tm) (so : Bool) (kept : Int) : Int := if t.op = 6 then agoV kept so else if t.op = 7 then agoV kept (!so) else 0
set_option maxHeartbeats 4000000 in
theorem mo_unary (t : Tm) (so : Bool) (kept : Int) (w : World) : Calls Try.prog 50 #[t.val, .bool so, .int .i64 kept] w fun e w' => e = .returned (.tuple #[.bool (unB t so kept), .int .i64 (unV t so kept)]) ∧ Below w.heap.size w w' := by
  have A0 : Below w.heap.size w w := Below.refl _ _
  obtain ⟨op, a, b⟩ := t
  by_cases h6 : op = 6
  · subst h6
    rw [show unB ⟨6, a, b⟩ so kept = (decide (agoV kept so ≠ -1) && decide (agoV kept so ≤ a)) from rfl, show unV ⟨6, a, b⟩ so kept = agoV kept so from rfl]
    have H := Lib.hid (fun w => mo_ago kept so w)
    generalize agoV kept so = v at *
    unfold Tm.val
    by_cases hv : v = -1
    · subst hv
      go_enter Try.func50, Try.ntmps50
      go_wp2_with (go_at_call 60; refine (H.out _).mono ?_; rintro e w' ⟨rfl, rfl⟩)
      refine bodyPost_ret (v := .tuple #[.bool false, .int .i64 (-1)]) (by simp [results, Try.results50, go_sem]) rfl ⟨rfl, by (repeat (first | (with_reducible exact Below.refl _ _) | (with_reducible assumption) | (with_reducible refine Near.up _ ?_) | (with_reducible refine Below.drew ?_) | (with_reducible refine below_alloc_on ?_ _) | (with_reducible refine below_set_on ?_ (by first | (simp; done) | (simp; omega) | omega) _)))⟩
    · have t1 : (v != -1) = true := by simpa using hv
      rw [decide_eq_true hv, Bool.true_and]
      clear hv
      go_enter Try.func50, Try.ntmps50
      go_wp2_with (go_at_call 60; refine (H.out _).mono ?_; rintro e w' ⟨rfl, rfl⟩)
      refine bodyPost_ret (v := .tuple #[.bool (decide (v ≤ a)), .int .i64 v]) (by simp [results, Try.results50, go_sem]) rfl ⟨rfl, by (repeat (first | (with_reducible exact Below.refl _ _) | (with_reducible assumption) | (with_reducible refine Near.up _ ?_) | (with_reducible refine Below.drew ?_) | (with_reducible refine below_alloc_on ?_ _) | (with_reducible refine below_set_on ?_ (by first | (simp; done) | (simp; omega) | omega) _)))⟩
  · have t6 : (op == 6) = false := by simpa using h6
    by_cases h7 : op = 7
    · subst h7
      rw [show unB ⟨7, a, b⟩ so kept = (decide (agoV kept (!so) = -1) || decide (a < agoV kept (!so))) from rfl, show unV ⟨7, a, b⟩ so kept = agoV kept (!so) from rfl]
      have H := Lib.hid (fun w => mo_ago kept (!so) w)
      generalize agoV kept (!so) = v at *
      unfold Tm.val
      by_cases hv : v = -1
      · subst hv
        go_enter Try.func50, Try.ntmps50
        go_wp2_with (go_at_call 60; refine (H.out _).mono ?_; rintro e w' ⟨rfl, rfl⟩)
        refine bodyPost_ret (v := .tuple #[.bool true, .int .i64 (-1)]) (by simp [results, Try.results50, go_sem]) rfl ⟨rfl, by (repeat (first | (with_reducible exact Below.refl _ _) | (with_reducible assumption) | (with_reducible refine Near.up _ ?_) | (with_reducible refine Below.drew ?_) | (with_reducible refine below_alloc_on ?_ _) | (with_reducible refine below_set_on ?_ (by first | (simp; done) | (simp; omega) | omega) _)))⟩
      · have t1 : (v == -1) = false := by simpa using hv
        rw [decide_eq_false hv, Bool.false_or]
        clear hv
        go_enter Try.func50, Try.ntmps50
        go_wp2_with (go_at_call 60; refine (H.out _).mono ?_; rintro e w' ⟨rfl, rfl⟩)
        refine bodyPost_ret (v := .tuple #[.bool (decide (a < v)), .int .i64 v]) (by simp [results, Try.results50, go_sem]) rfl ⟨rfl, by (repeat (first | (with_reducible exact Below.refl _ _) | (with_reducible assumption) | (with_reducible refine Near.up _ ?_) | (with_reducible refine Below.drew ?_) | (with_reducible refine below_alloc_on ?_ _) | (with_reducible refine below_set_on ?_ (by first | (simp; done) | (simp; omega) | omega) _)))⟩
    · have t7 : (op == 7) = false := by simpa using h7
      have e1 : unB ⟨op, a, b⟩ so kept = !so := by unfold unB; rw [if_neg h6, if_neg h7]
      have e2 : unV ⟨op, a, b⟩ so kept = 0 := by unfold unV; rw [if_neg h6, if_neg h7]
      rw [e1, e2]
      unfold Tm.val
      clear e1 e2 h6 h7
      go_enter Try.func50, Try.ntmps50
      go_wp2
      refine bodyPost_ret (v := .tuple #[.bool (!so), .int .i64 0]) (by simp [results, Try.results50, go_sem]) rfl ⟨rfl, by (repeat (first | (with_reducible exact Below.refl _ _) | (with_reducible assumption) | (with_reducible refine Near.up _ ?_) | (with_reducible refine Below.drew ?_) | (with_reducible refine below_alloc_on ?_ _) | (with_reducible refine below_set_on ?_ (by first | (simp; done) | (simp; omega) | omega) _)))⟩

def biB (op : Int) (a b : Bool) (kept : Int) : Bool := if op = 4 then a && b else if op = 5 then a || b else b || (a && decide (kept = 1))
def biV (op : Int) (a b : Bool) (kept : Int) : Int := if op = 4 then 0 else if op = 5 then 0 else if (b || (a && decide (kept = 1))) = true then 1 else 0
set_option maxHeartbeats 4000000 in
theorem mo_binary (op : Int) (a b : Bool) (kept : Int) (w : World) : Calls Try.prog 51 #[.int .i64 op, .bool a, .bool b, .int .i64 kept] w fun e w' => e = .returned (.tuple #[.bool (biB op a b kept), .int .i64 (biV op a b kept)]) ∧ w = w' := by
  by_cases h4 : op = 4
  · subst h4
    cases a <;> cases b
    all_goals
      go_enter Try.func51, Try.ntmps51
      go_wp2
      all_goals go_ret2
      all_goals exact ⟨rfl, rfl⟩
  · have t4 : (op == 4) = false := by simpa using h4
    by_cases h5 : op = 5
    · subst h5
      cases a <;> cases b
      all_goals
        go_enter Try.func51, Try.ntmps51
        go_wp2
        all_goals go_ret2
        all_goals exact ⟨rfl, rfl⟩
    · have t5 : (op == 5) = false := by simpa using h5
      have e1 : biB op a b kept = (b || (a && decide (kept = 1))) := by unfold biB; rw [if_neg h4, if_neg h5]
      have e2 : biV op a b kept = if (b || (a && decide (kept = 1))) = true then 1 else 0 := by unfold biV; rw [if_neg h4, if_neg h5]
      rw [e1, e2]
      have tk : (kept == 1) = decide (kept = 1) := by by_cases h : kept = 1 <;> simp [h]
      clear e1 e2 h4 h5
      cases hk : decide (kept = 1)
      all_goals
        rw [hk] at tk
        cases a <;> cases b
        all_goals
          go_enter Try.func51, Try.ntmps51
          go_wp2
          all_goals go_ret2
          all_goals exact ⟨rfl, rfl⟩
end Go.Proofs.Ytmemhlhjkpijpaa
