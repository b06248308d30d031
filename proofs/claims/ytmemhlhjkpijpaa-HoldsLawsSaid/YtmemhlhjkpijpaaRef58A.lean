/- Contracts of the document's formula and meaning: needs, term, Right, Ask, atom. -/
import Derived.Test.YtmemhlhjkpijpaaMonO
import Derived.Test.YtmemhlhjkpijpaaOuts
import Derived.Test.YtmemhlhjkpijpaaWorld
namespace Go.Proofs.Ytmemhlhjkpijpaa
open Go.RowKit
set_option linter.unusedVariables false
set_option linter.unusedSimpArgs false
set_option maxRecDepth 100000
attribute [local go_sem] cell_set_ite Near.cell Near.frozen

def n2V (op : Int) : Int := if op = 1 ∨ op = 2 then 0 else if op = 3 ∨ op = 6 ∨ op = 7 then 1 else if op = 4 ∨ op = 5 ∨ op = 8 then 2 else -1
theorem n2_of {t : Tm} (h : myB t = true) : n2V t.op = (ndN t.op : Int) := by
  rcases my_ways h with ⟨e, h1 | ⟨_, h2⟩⟩ | ⟨e, _, _, h3 | ⟨_, h6⟩ | ⟨_, _, h7⟩⟩ | ⟨e, h1, h2, h3, h6, h7⟩
  · rw [show t.op = 1 by simpa using h1]; rfl
  · rw [show t.op = 2 by simpa using h2]; rfl
  · rw [show t.op = 3 by simpa using h3]; rfl
  · rw [show t.op = 6 by simpa using h6]; rfl
  · rw [show t.op = 7 by simpa using h7]; rfl
  · rw [e]
    have g1 : t.op ≠ 1 := by simpa using h1
    have g2 : t.op ≠ 2 := by simpa using h2
    have g3 : t.op ≠ 3 := by simpa using h3
    have g6 : t.op ≠ 6 := by simpa using h6
    have g7 : t.op ≠ 7 := by simpa using h7
    have h8 : t.op = 4 ∨ t.op = 5 ∨ t.op = 8 := by
      unfold ndN at e
      rw [if_neg (by omega)] at e
      by_cases h : t.op = 4 ∨ t.op = 5 ∨ t.op = 8
      · exact h
      · rw [if_neg h] at e; omega
    unfold n2V
    rw [if_neg (by omega), if_neg (by omega), if_pos h8]; rfl
set_option maxHeartbeats 2000000 in
theorem r6_needs (op a b : Int) (w : World) : Calls Try.prog 45 #[.agg #[.int .i64 op, .int .i64 a, .int .i64 b]] w fun e w' => e = .returned (.int .i64 (n2V op)) ∧ Below w.heap.size w w' := by
  have hf : ∀ k : Int, op ≠ k → (op == k) = false := fun k h => by simpa using h
  have A0 : Below w.heap.size w w := Below.refl _ _
  have ways : op = 1 ∨ op = 2 ∨ op = 3 ∨ op = 6 ∨ op = 7 ∨ op = 4 ∨ op = 5 ∨ op = 8 ∨ (op ≠ 1 ∧ op ≠ 2 ∧ op ≠ 3 ∧ op ≠ 6 ∧ op ≠ 7 ∧ op ≠ 4 ∧ op ≠ 5 ∧ op ≠ 8) := by omega
  rcases ways with rfl | rfl | rfl | rfl | rfl | rfl | rfl | rfl | ⟨h1, h2, h3, h6, h7, h4, h5, h8⟩
  case inr.inr.inr.inr.inr.inr.inr.inr =>
    have z1 := hf 1 h1
    have z2 := hf 2 h2
    have z3 := hf 3 h3
    have z6 := hf 6 h6
    have z7 := hf 7 h7
    have z4 := hf 4 h4
    have z5 := hf 5 h5
    have z8 := hf 8 h8
    have hn : n2V op = -1 := by unfold n2V; rw [if_neg (by omega), if_neg (by omega), if_neg (by omega)]
    rw [hn]
    clear hf h1 h2 h3 h6 h7 h4 h5 h8 hn
    go_enter Try.func45, Try.ntmps45
    go_wp2
    all_goals go_ret
    all_goals exact ⟨rfl, by (repeat (first | (with_reducible exact Below.refl _ _) | (with_reducible assumption) | (with_reducible refine Near.up _ ?_) | (with_reducible refine Below.drew ?_) | (with_reducible refine below_alloc_on ?_ _) | (with_reducible refine below_set_on ?_ (by first | (simp; done) | (simp; omega) | omega) _)))⟩
  all_goals
    clear hf
    go_enter Try.func45, Try.ntmps45
    go_wp2
    all_goals go_ret
    all_goals exact ⟨rfl, by (repeat (first | (with_reducible exact Below.refl _ _) | (with_reducible assumption) | (with_reducible refine Near.up _ ?_) | (with_reducible refine Below.drew ?_) | (with_reducible refine below_alloc_on ?_ _) | (with_reducible refine below_set_on ?_ (by first | (simp; done) | (simp; omega) | omega) _)))⟩

set_option maxHeartbeats 8000000 in
theorem r6_term (op a b : Int) (hb : b ≤ 9223372036854775807) (w : World) : Calls Try.prog 44 #[.agg #[.int .i64 op, .int .i64 a, .int .i64 b]] w fun e w' => e = .returned (.bool (myB ⟨op, a, b⟩)) ∧ Below w.heap.size w w' := by
  have hf : ∀ k : Int, op ≠ k → (op == k) = false := fun k h => by simpa using h
  have A0 : Below w.heap.size w w := Below.refl _ _
  have HN := Lib.hid (fun w => r6_needs op a b w)
  have ways : op = 2 ∨ (op = 6 ∨ op = 7) ∨ (op ≠ 2 ∧ op ≠ 6 ∧ op ≠ 7) := by omega
  rcases ways with rfl | h | ⟨h2, h6, h7⟩
  · have hm : myB ⟨2, a, b⟩ = akB a b := my_of (by rw [if_pos rfl])
    rw [hm]
    clear hf hm HN
    unfold akB
    by_cases h : a = 11
    · subst h
      rw [if_pos rfl]
      by_cases h1 : 1 ≤ b
      · have t1 := decide_eq_true h1
        rw [decide_eq_true (p := 0 < b) (by omega), Bool.true_and]
        by_cases h2 : b ≤ 4095
        · have t2 := decide_eq_true h2
          rw [t2, Bool.and_true]
          have wl : IntKind.i64.wrap (b - 1) = b - 1 := by rw [IntKind.wrap_i64]; omega
          cases hz : bits .and .i64 b (b - 1) == 0
          · have hz0 : ¬ bits .and .i64 b (b - 1) = 0 := by simpa using hz
            clear h1 h2
            go_enter Try.func44, Try.ntmps44
            go_wp2
            all_goals go_ret
            all_goals exact ⟨rfl, by (repeat (first | (with_reducible exact Below.refl _ _) | (with_reducible assumption) | (with_reducible refine Near.up _ ?_) | (with_reducible refine Below.drew ?_) | (with_reducible refine below_alloc_on ?_ _) | (with_reducible refine below_set_on ?_ (by first | (simp; done) | (simp; omega) | omega) _)))⟩
          · have hz0 : bits .and .i64 b (b - 1) = 0 := by simpa using hz
            clear h1 h2
            go_enter Try.func44, Try.ntmps44
            go_wp2
            all_goals go_ret
            all_goals exact ⟨rfl, by (repeat (first | (with_reducible exact Below.refl _ _) | (with_reducible assumption) | (with_reducible refine Near.up _ ?_) | (with_reducible refine Below.drew ?_) | (with_reducible refine below_alloc_on ?_ _) | (with_reducible refine below_set_on ?_ (by first | (simp; done) | (simp; omega) | omega) _)))⟩
        · have t2 := decide_eq_false h2
          rw [t2, Bool.and_false]
          clear h1 h2
          go_enter Try.func44, Try.ntmps44
          go_wp2
          all_goals go_ret
          all_goals exact ⟨rfl, by (repeat (first | (with_reducible exact Below.refl _ _) | (with_reducible assumption) | (with_reducible refine Near.up _ ?_) | (with_reducible refine Below.drew ?_) | (with_reducible refine below_alloc_on ?_ _) | (with_reducible refine below_set_on ?_ (by first | (simp; done) | (simp; omega) | omega) _)))⟩
      · have t1 := decide_eq_false h1
        rw [decide_eq_false (p := 0 < b) (by omega), Bool.false_and, Bool.false_and]
        clear h1
        go_enter Try.func44, Try.ntmps44
        go_wp2
        all_goals go_ret
        all_goals exact ⟨rfl, by (repeat (first | (with_reducible exact Below.refl _ _) | (with_reducible assumption) | (with_reducible refine Near.up _ ?_) | (with_reducible refine Below.drew ?_) | (with_reducible refine below_alloc_on ?_ _) | (with_reducible refine below_set_on ?_ (by first | (simp; done) | (simp; omega) | omega) _)))⟩
    · rw [if_neg h]
      have t0 : (a == 11) = false := by simpa using h
      have e4 : decide (b ≤ 2147483647) = decide (b < 2147483648) := by
        by_cases g : b < 2147483648
        · rw [decide_eq_true g, decide_eq_true (by omega)]
        · rw [decide_eq_false g, decide_eq_false (by omega)]
      rw [e4]
      clear h e4
      cases t1 : decide (1 ≤ a) <;> cases t2 : decide (a ≤ 10) <;> cases t3 : decide (0 ≤ b)
      all_goals
        go_enter Try.func44, Try.ntmps44
        go_wp2
        all_goals go_ret
        all_goals exact ⟨rfl, by (repeat (first | (with_reducible exact Below.refl _ _) | (with_reducible assumption) | (with_reducible refine Near.up _ ?_) | (with_reducible refine Below.drew ?_) | (with_reducible refine below_alloc_on ?_ _) | (with_reducible refine below_set_on ?_ (by first | (simp; done) | (simp; omega) | omega) _)))⟩
  · have hm : myB ⟨op, a, b⟩ = (decide (0 ≤ a) && decide (a ≤ 1000) && decide (b = 0)) := my_of (by rw [if_neg (by omega), if_pos h])
    rw [hm]
    clear hf hm HN
    have tb : (b == 0) = decide (b = 0) := by by_cases h : b = 0 <;> simp [h]
    cases t0 : decide (0 ≤ a)
    · clear hb tb
      rcases h with rfl | rfl
      all_goals
        go_enter Try.func44, Try.ntmps44
        go_wp2
        all_goals go_ret
        all_goals exact ⟨rfl, by (repeat (first | (with_reducible exact Below.refl _ _) | (with_reducible assumption) | (with_reducible refine Near.up _ ?_) | (with_reducible refine Below.drew ?_) | (with_reducible refine below_alloc_on ?_ _) | (with_reducible refine below_set_on ?_ (by first | (simp; done) | (simp; omega) | omega) _)))⟩
    · cases t1 : decide (a ≤ 1000)
      · clear hb tb
        rcases h with rfl | rfl
        all_goals
          go_enter Try.func44, Try.ntmps44
          go_wp2
          all_goals go_ret
          all_goals exact ⟨rfl, by (repeat (first | (with_reducible exact Below.refl _ _) | (with_reducible assumption) | (with_reducible refine Near.up _ ?_) | (with_reducible refine Below.drew ?_) | (with_reducible refine below_alloc_on ?_ _) | (with_reducible refine below_set_on ?_ (by first | (simp; done) | (simp; omega) | omega) _)))⟩
      · cases t2 : decide (b = 0)
        all_goals
          rw [t2] at tb
          rcases h with rfl | rfl
          all_goals
            go_enter Try.func44, Try.ntmps44
            go_wp2
            all_goals go_ret
            all_goals exact ⟨rfl, by (repeat (first | (with_reducible exact Below.refl _ _) | (with_reducible assumption) | (with_reducible refine Near.up _ ?_) | (with_reducible refine Below.drew ?_) | (with_reducible refine below_alloc_on ?_ _) | (with_reducible refine below_set_on ?_ (by first | (simp; done) | (simp; omega) | omega) _)))⟩
  · have z2 := hf 2 h2
    have z6 := hf 6 h6
    have z7 := hf 7 h7
    have hm : myB ⟨op, a, b⟩ = (decide (0 ≤ n2V op) && (decide (a = 0) && decide (b = 0))) := my_of (by
      rw [if_neg h2, if_neg (by omega)]
      by_cases h : op = 1 ∨ op = 3 ∨ op = 4 ∨ op = 5 ∨ op = 8
      · rw [if_pos h, decide_eq_true (p := 0 ≤ n2V op) (by unfold n2V; repeat' split
                                                           all_goals omega), Bool.true_and]
      · rw [if_neg h, decide_eq_false (p := 0 ≤ n2V op) (by unfold n2V; rw [if_neg (by omega), if_neg (by omega), if_neg (by omega)]; omega), Bool.false_and])
    rw [hm]
    have ta : (a == 0) = decide (a = 0) := by by_cases h : a = 0 <;> simp [h]
    have tb : (b == 0) = decide (b = 0) := by by_cases h : b = 0 <;> simp [h]
    generalize n2V op = nv at *
    clear hf hm h2 h6 h7
    cases t0 : decide (0 ≤ nv) <;> cases t1 : decide (a = 0) <;> cases t2 : decide (b = 0)
    all_goals
      rw [t1] at ta
      rw [t2] at tb
      go_enter Try.func44, Try.ntmps44
      go_wp2_with (fail)
      have B0 := box_new w #[.int .i64 op, .int .i64 a, .int .i64 b] 36
      refine (HN.out _).mono ?_
      rintro e w1 ⟨rfl, hb1⟩
      have A1 : Below w.heap.size w w1 := below_call (by (repeat (first | (with_reducible exact Below.refl _ _) | (with_reducible assumption) | (with_reducible refine Near.up _ ?_) | (with_reducible refine Below.drew ?_) | (with_reducible refine below_alloc_on ?_ _) | (with_reducible refine below_set_on ?_ (by first | (simp; done) | (simp; omega) | omega) _)))) hb1
      obtain ⟨d0, d1, d2, dd, dl⟩ := (B0.below hb1).three
      clear hb1 B0
      go_wp2
      all_goals go_ret
      all_goals exact ⟨rfl, A1⟩
end Go.Proofs.Ytmemhlhjkpijpaa
