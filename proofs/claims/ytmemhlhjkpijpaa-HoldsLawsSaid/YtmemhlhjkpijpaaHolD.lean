/- Contracts of package holds: what a formula is. -/
import Derived.Test.YtmemhlhjkpijpaaHolC
namespace Go.Proofs.Ytmemhlhjkpijpaa
open Go.RowKit
set_option linter.unusedVariables false
set_option linter.unusedSimpArgs false
set_option maxRecDepth 100000
attribute [local go_sem] cell_set_ite Near.cell Near.frozen

/-- What a formula is, as a value. -/
def Mn.val : Mn → Value
  | .whole => .iface 96 (.agg #[])
  | .atom what least => .iface 62 (.agg #[.int .i64 what, .int .i64 least])
  | .hazard bit => .iface 66 (.agg #[.int .i64 bit])
  | .not a => .iface 70 (.agg #[a.val])
  | .both a b => .iface 74 (.agg #[a.val, b.val])
  | .either a b => .iface 75 (.agg #[a.val, b.val])
  | .once a back => .iface 77 (.agg #[a.val, .int .i64 back])
  | .always a back => .iface 79 (.agg #[a.val, .int .i64 back])
  | .since a b => .iface 80 (.agg #[a.val, b.val])
theorem Mn.one (m : Mn) : m.val.oneCell' = true := by cases m <;> rfl
theorem Mn.form (m : Mn) : ∃ t v, m.val = .iface t v := by cases m <;> exact ⟨_, _, rfl⟩
theorem Mn.cells (m : Mn) : m.val.cells = #[m.val] := by cases m <;> rfl

theorem ho_alone (t : Tm) (w : World) : Calls Try.prog 43 #[t.val] w fun e w' => e = .returned (aloM t).val ∧ Below w.heap.size w w' := by
  obtain ⟨op, a, b⟩ := t
  by_cases h1 : op = 1
  · subst h1
    have hv : aloM ⟨1, a, b⟩ = .whole := if_pos rfl
    rw [hv]
    unfold Tm.val
    clear hv
    go_enter Try.func43, Try.ntmps43
    go_wp2
    all_goals go_ret
    all_goals exact ⟨rfl, by (repeat (first | (with_reducible exact Below.refl _ _) | (with_reducible assumption) | (with_reducible refine Near.up _ ?_) | (with_reducible refine Below.drew ?_) | (with_reducible refine below_alloc_on ?_ _) | (with_reducible refine below_set_on ?_ (by first | (simp; done) | (simp; omega) | omega) _)))⟩
  · have t1 : (op == 1) = false := by simpa using h1
    by_cases h2 : a = 11
    · subst h2
      have hv : aloM ⟨op, 11, b⟩ = .hazard b := by unfold aloM; rw [if_neg h1, if_pos rfl]
      rw [hv]
      unfold Tm.val
      clear hv h1
      go_enter Try.func43, Try.ntmps43
      go_wp2
      all_goals go_ret
      all_goals exact ⟨rfl, by (repeat (first | (with_reducible exact Below.refl _ _) | (with_reducible assumption) | (with_reducible refine Near.up _ ?_) | (with_reducible refine Below.drew ?_) | (with_reducible refine below_alloc_on ?_ _) | (with_reducible refine below_set_on ?_ (by first | (simp; done) | (simp; omega) | omega) _)))⟩
    · have t2 : (a == 11) = false := by simpa using h2
      have hv : aloM ⟨op, a, b⟩ = .atom a b := by unfold aloM; rw [if_neg h1, if_neg h2]
      rw [hv]
      unfold Tm.val
      clear hv h1 h2
      go_enter Try.func43, Try.ntmps43
      go_wp2
      all_goals go_ret
      all_goals exact ⟨rfl, by (repeat (first | (with_reducible exact Below.refl _ _) | (with_reducible assumption) | (with_reducible refine Near.up _ ?_) | (with_reducible refine Below.drew ?_) | (with_reducible refine below_alloc_on ?_ _) | (with_reducible refine below_set_on ?_ (by first | (simp; done) | (simp; omega) | omega) _)))⟩
theorem ho_unary (t : Tm) (m : Mn) (w : World) : Calls Try.prog 41 #[t.val, .agg #[m.val]] w fun e w' => e = .returned (unaM t m).val ∧ Below w.heap.size w w' := by
  obtain ⟨op, a, b⟩ := t
  have h1 := m.one
  by_cases h6 : op = 6
  · subst h6
    have hv : unaM ⟨6, a, b⟩ m = .once m a := if_pos rfl
    rw [hv]
    unfold Tm.val
    rw [show (Mn.once m a).val = .iface 77 (.agg #[m.val, .int .i64 a]) from rfl]
    have hc := m.cells
    generalize m.val = v at *
    clear hv
    go_enter Try.func41, Try.ntmps41
    go_wp2
    all_goals go_ret
    all_goals exact ⟨rfl, by (repeat (first | (with_reducible exact Below.refl _ _) | (with_reducible assumption) | (with_reducible refine Near.up _ ?_) | (with_reducible refine Below.drew ?_) | (with_reducible refine below_alloc_on ?_ _) | (with_reducible refine below_set_on ?_ (by first | (simp; done) | (simp; omega) | omega) _)))⟩
  · have t6 : (op == 6) = false := by simpa using h6
    by_cases h7 : op = 7
    · subst h7
      have hv : unaM ⟨7, a, b⟩ m = .always m a := by unfold unaM; rw [if_neg h6, if_pos rfl]
      rw [hv]
      unfold Tm.val
      rw [show (Mn.always m a).val = .iface 79 (.agg #[m.val, .int .i64 a]) from rfl]
      have hc := m.cells
      generalize m.val = v at *
      clear hv
      go_enter Try.func41, Try.ntmps41
      go_wp2
      all_goals go_ret
      all_goals exact ⟨rfl, by (repeat (first | (with_reducible exact Below.refl _ _) | (with_reducible assumption) | (with_reducible refine Near.up _ ?_) | (with_reducible refine Below.drew ?_) | (with_reducible refine below_alloc_on ?_ _) | (with_reducible refine below_set_on ?_ (by first | (simp; done) | (simp; omega) | omega) _)))⟩
    · have t7 : (op == 7) = false := by simpa using h7
      have hv : unaM ⟨op, a, b⟩ m = .not m := by unfold unaM; rw [if_neg h6, if_neg h7]
      rw [hv]
      unfold Tm.val
      rw [show (Mn.not m).val = .iface 70 (.agg #[m.val]) from rfl]
      have hc := m.cells
      generalize m.val = v at *
      clear hv h6 h7
      go_enter Try.func41, Try.ntmps41
      go_wp2
      all_goals go_ret
      all_goals exact ⟨rfl, by (repeat (first | (with_reducible exact Below.refl _ _) | (with_reducible assumption) | (with_reducible refine Near.up _ ?_) | (with_reducible refine Below.drew ?_) | (with_reducible refine below_alloc_on ?_ _) | (with_reducible refine below_set_on ?_ (by first | (simp; done) | (simp; omega) | omega) _)))⟩
theorem ho_binary (op : Int) (m1 m2 : Mn) (w : World) : Calls Try.prog 42 #[.int .i64 op, .agg #[m1.val, m2.val]] w fun e w' => e = .returned (binM op m1 m2).val ∧ Below w.heap.size w w' := by
  have h1 := m1.one
  have h2 := m2.one
  have c1 := m1.cells
  have c2 := m2.cells
  by_cases h4 : op = 4
  · subst h4
    rw [show binM 4 m1 m2 = .both m1 m2 from rfl, show (Mn.both m1 m2).val = .iface 74 (.agg #[m1.val, m2.val]) from rfl]
    generalize m1.val = v1 at *
    generalize m2.val = v2 at *
    go_enter Try.func42, Try.ntmps42
    go_wp2
    all_goals go_ret
    all_goals exact ⟨rfl, by (repeat (first | (with_reducible exact Below.refl _ _) | (with_reducible assumption) | (with_reducible refine Near.up _ ?_) | (with_reducible refine Below.drew ?_) | (with_reducible refine below_alloc_on ?_ _) | (with_reducible refine below_set_on ?_ (by first | (simp; done) | (simp; omega) | omega) _)))⟩
  · have t4 : (op == 4) = false := by simpa using h4
    by_cases h5 : op = 5
    · subst h5
      rw [show binM 5 m1 m2 = .either m1 m2 from rfl, show (Mn.either m1 m2).val = .iface 75 (.agg #[m1.val, m2.val]) from rfl]
      generalize m1.val = v1 at *
      generalize m2.val = v2 at *
      go_enter Try.func42, Try.ntmps42
      go_wp2
      all_goals go_ret
      all_goals exact ⟨rfl, by (repeat (first | (with_reducible exact Below.refl _ _) | (with_reducible assumption) | (with_reducible refine Near.up _ ?_) | (with_reducible refine Below.drew ?_) | (with_reducible refine below_alloc_on ?_ _) | (with_reducible refine below_set_on ?_ (by first | (simp; done) | (simp; omega) | omega) _)))⟩
    · have t5 : (op == 5) = false := by simpa using h5
      have hv : binM op m1 m2 = .since m1 m2 := by unfold binM; rw [if_neg h4, if_neg h5]
      rw [hv, show (Mn.since m1 m2).val = .iface 80 (.agg #[m1.val, m2.val]) from rfl]
      generalize m1.val = v1 at *
      generalize m2.val = v2 at *
      clear hv h4 h5
      go_enter Try.func42, Try.ntmps42
      go_wp2
      all_goals go_ret
      all_goals exact ⟨rfl, by (repeat (first | (with_reducible exact Below.refl _ _) | (with_reducible assumption) | (with_reducible refine Near.up _ ?_) | (with_reducible refine Below.drew ?_) | (with_reducible refine below_alloc_on ?_ _) | (with_reducible refine below_set_on ?_ (by first | (simp; done) | (simp; omega) | omega) _)))⟩
end Go.Proofs.Ytmemhlhjkpijpaa
