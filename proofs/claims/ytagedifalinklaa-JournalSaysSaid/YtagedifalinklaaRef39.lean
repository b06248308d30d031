/- Contracts of the document's journal. -/
import Derived.Test.YtagedifalinklaaJour3
import Derived.Test.YtagedifalinklaaLoose
import Derived.Deep.LoopGhost
import Derived.Deep.CutBlock
import Derived.Deep.DeepCutAuto
namespace Go.Proofs.Ytagedifalinklaa
open Go.RowKit
set_option linter.unusedVariables false
set_option linter.unusedSimpArgs false
set_option maxRecDepth 100000
attribute [local go_sem] cell_set_ite Near.cell Near.frozen
attribute [local go_sem ↓] Go.wp_at_zero Go.wp_at_succ

theorem rj_widths (w : World) : Calls Try.prog 27 #[] w fun e w' => ∃ B d, e = .returned (.slice B 8 d) ∧ 8 ≤ d ∧ Ints w' B 8 wsL ∧ Below w.heap.size w w' := by
  have H := Lib.hid (ints_newJ w wsL)
  go_enter Try.func27, Try.ntmps27
  go_wp2
  all_goals go_ret
  exact ⟨_, _, rfl, Nat.le_refl _, H.out, by (repeat (first | (with_reducible exact Below.refl _ _) | (with_reducible assumption) | (with_reducible refine Near.up _ ?_) | (with_reducible refine Below.drew ?_) | (with_reducible refine below_alloc_on ?_ _) | (with_reducible refine below_set_on ?_ (by first | (simp; done) | (simp; omega) | omega) _)))⟩
theorem rj_in (n lo hi : Int) (w : World) : Calls Try.prog 36 #[.int .i64 n, .int .i64 lo, .int .i64 hi] w fun e w' => e = .returned (.bool (decide (lo ≤ n ∧ n ≤ hi))) ∧ w = w' := by
  by_cases h1 : lo ≤ n
  · by_cases h2 : n ≤ hi
    · rw [decide_eq_true ⟨h1, h2⟩]
      have dh := decide_eq_true h2
      go_enter Try.func36, Try.ntmps36
      go_wp2
      all_goals go_ret
      all_goals exact ⟨ret_b (by first | rfl | (rw [dh])), rfl⟩
    · rw [decide_eq_false (by omega)]
      have dh := decide_eq_false h2
      go_enter Try.func36, Try.ntmps36
      go_wp2
      all_goals go_ret
      all_goals exact ⟨ret_b (by first | rfl | (rw [dh])), rfl⟩
  · rw [decide_eq_false (by omega)]
    go_enter Try.func36, Try.ntmps36
    go_wp2
    all_goals go_ret
    all_goals exact ⟨rfl, rfl⟩

theorem en_form (q m r v k t d b : Int) : enB q m r v k t d b = (decide (1 ≤ q ∧ q ≤ 4294967295) && decide (1 ≤ m ∧ m ≤ 7) && decide (0 ≤ d ∧ d ≤ 4294967295) && decide (0 ≤ b ∧ b ≤ 99999999) && (decide (t = 0) || knB t) && pgB r v k) := by
  unfold enB tlB
  rw [Bool.eq_iff_iff]
  simp only [Bool.and_eq_true, Bool.or_eq_true, decide_eq_true_eq]
  constructor
  · rintro ⟨⟨a, b, c, d⟩, e, f, g, h, i, j⟩
    exact ⟨⟨⟨⟨⟨⟨a, b⟩, c, d⟩, g, h⟩, i, j⟩, f⟩, e⟩
  · rintro ⟨⟨⟨⟨⟨⟨a, b⟩, c, d⟩, g, h⟩, i, j⟩, f⟩, e⟩
    exact ⟨⟨a, b, c, d⟩, e, f, g, h, i, j⟩

set_option maxHeartbeats 8000000 in
theorem rj_right (q m r v k t d b : Int) (w : World) : Calls Try.prog 14 #[.agg #[.int .i64 q, .int .i64 m, .int .i64 r, .int .i64 v, .int .i64 k, .int .i64 t, .int .i64 d, .int .i64 b]] w fun e w' => e = .returned (.bool (enB q m r v k t d b)) ∧ Below w.heap.size w w' := by
  have A : Below w.heap.size w w := Below.refl _ _
  rw [en_form]
  have H1 := Lib.hid (fun w => rj_in q 1 4294967295 w)
  have H2 := Lib.hid (fun w => rj_in m 1 7 w)
  have H3 := Lib.hid (fun w => rj_in d 0 4294967295 w)
  have H4 := Lib.hid (fun w => rj_in b 0 99999999 w)
  have HK := Lib.hid (fun w => ref9_known t w)
  have HC := Lib.hid (fun w => rp_check r v k w)
  generalize decide (1 ≤ q ∧ q ≤ 4294967295) = p1 at *
  generalize decide (1 ≤ m ∧ m ≤ 7) = p2 at *
  generalize decide (0 ≤ d ∧ d ≤ 4294967295) = p3 at *
  generalize decide (0 ≤ b ∧ b ≤ 99999999) = p4 at *
  unfold pgB
  generalize ckV r v k = c at *
  generalize knB t = kb at *
  obtain ⟨R, hR⟩ : ∃ R, (p1 && p2 && p3 && p4 && (decide (t = 0) || kb) && (decide (r = 0 ∧ v = 0 ∧ k = 0) || decide (c = 0))) = R := ⟨_, rfl⟩
  rw [hR]
  have HR := Lib.hid hR
  clear hR
  go_enter Try.func14, Try.ntmps14
  go_upto_region 1 with (fail)
  refine at_world (fun W => Below w.heap.size w W ∧ Box W w.heap.size #[.int .i64 q, .int .i64 m, .int .i64 r, .int .i64 v, .int .i64 k, .int .i64 t, .int .i64 d, .int .i64 b]) ⟨by (repeat (first | (with_reducible exact Below.refl _ _) | (with_reducible assumption) | (with_reducible refine Near.up _ ?_) | (with_reducible refine Below.drew ?_) | (with_reducible refine below_alloc_on ?_ _) | (with_reducible refine below_set_on ?_ (by first | (simp; done) | (simp; omega) | omega) _))), by (repeat (first | (with_reducible assumption) | (with_reducible exact box_new _ _ _) | ((with_reducible apply box_at); (first | (with_reducible rfl) | (simp <;> omega))) | (with_reducible apply Box.drew) | (with_reducible apply Box.drewN) | (with_reducible apply Box.near) | (with_reducible apply Box.alloc) | ((with_reducible apply box_far); (first | assumption | omega | (simp <;> omega))) | ((with_reducible apply Box.one_set); (with_reducible assumption)) | ((with_reducible apply Box.two_set); (with_reducible assumption)) | ((with_reducible apply Box.three_set); (with_reducible assumption)) | (with_reducible apply Box.set) | (simp only [List.size_toArray, List.length_cons, List.length_nil, Array.size_setIfInBounds] <;> omega)))⟩ ?_
  clear A
  rintro w1 ⟨A, E1⟩
  obtain ⟨g, hg⟩ : ∃ g, w.heap.size = g := ⟨_, rfl⟩
  rw [hg] at E1
  simp only [hg]
  clear hg
  have lg := E1.1
  have cg := E1.2.1
  have HA := Lib.hid A
  clear A E1
  go_cut [26] (fun x wx => x = .bool (!(p1 && p2 && p3 && p4)) ∧ wx = w1)
  case first =>
    cases p1
    · go_wp2_with (first
        | (go_at_call 36; ((with_reducible refine (H1.out _).mono ?_)); rintro e w' ⟨rfl, rfl⟩)
        | (go_at_call 36; ((with_reducible refine (H2.out _).mono ?_)); rintro e w' ⟨rfl, rfl⟩)
        | (go_at_call 36; ((with_reducible refine (H3.out _).mono ?_)); rintro e w' ⟨rfl, rfl⟩)
        | (go_at_call 36; ((with_reducible refine (H4.out _).mono ?_)); rintro e w' ⟨rfl, rfl⟩))
      go_meet
      exact ⟨rfl, rfl⟩
    cases p2
    · go_wp2_with (first
        | (go_at_call 36; ((with_reducible refine (H1.out _).mono ?_)); rintro e w' ⟨rfl, rfl⟩)
        | (go_at_call 36; ((with_reducible refine (H2.out _).mono ?_)); rintro e w' ⟨rfl, rfl⟩)
        | (go_at_call 36; ((with_reducible refine (H3.out _).mono ?_)); rintro e w' ⟨rfl, rfl⟩)
        | (go_at_call 36; ((with_reducible refine (H4.out _).mono ?_)); rintro e w' ⟨rfl, rfl⟩))
      go_meet
      exact ⟨rfl, rfl⟩
    cases p3
    · go_wp2_with (first
        | (go_at_call 36; ((with_reducible refine (H1.out _).mono ?_)); rintro e w' ⟨rfl, rfl⟩)
        | (go_at_call 36; ((with_reducible refine (H2.out _).mono ?_)); rintro e w' ⟨rfl, rfl⟩)
        | (go_at_call 36; ((with_reducible refine (H3.out _).mono ?_)); rintro e w' ⟨rfl, rfl⟩)
        | (go_at_call 36; ((with_reducible refine (H4.out _).mono ?_)); rintro e w' ⟨rfl, rfl⟩))
      go_meet
      exact ⟨rfl, rfl⟩
    cases p4
    · go_wp2_with (first
        | (go_at_call 36; ((with_reducible refine (H1.out _).mono ?_)); rintro e w' ⟨rfl, rfl⟩)
        | (go_at_call 36; ((with_reducible refine (H2.out _).mono ?_)); rintro e w' ⟨rfl, rfl⟩)
        | (go_at_call 36; ((with_reducible refine (H3.out _).mono ?_)); rintro e w' ⟨rfl, rfl⟩)
        | (go_at_call 36; ((with_reducible refine (H4.out _).mono ?_)); rintro e w' ⟨rfl, rfl⟩))
      go_meet
      exact ⟨rfl, rfl⟩
    · go_wp2_with (first
        | (go_at_call 36; ((with_reducible refine (H1.out _).mono ?_)); rintro e w' ⟨rfl, rfl⟩)
        | (go_at_call 36; ((with_reducible refine (H2.out _).mono ?_)); rintro e w' ⟨rfl, rfl⟩)
        | (go_at_call 36; ((with_reducible refine (H3.out _).mono ?_)); rintro e w' ⟨rfl, rfl⟩)
        | (go_at_call 36; ((with_reducible refine (H4.out _).mono ?_)); rintro e w' ⟨rfl, rfl⟩))
      go_meet
      exact ⟨rfl, rfl⟩
  case rest =>
    obtain ⟨rfl, rfl⟩ := hcut
    clear H1 H2 H3 H4
    have hR := HR.out
    clear HR
    generalize (p1 && p2 && p3 && p4) = P at *
    cases P
    · rw [Bool.false_and, Bool.false_and] at hR
      subst hR
      go_wp2
      all_goals go_ret
      all_goals exact ⟨rfl, HA.out⟩
    rw [Bool.true_and] at hR
    obtain ⟨z, hz⟩ : ∃ z, decide (t = 0) = z := ⟨_, rfl⟩
    rw [hz] at hR
    have HR := Lib.hid hR
    clear hR
    have tz : (t != 0) = !z := by rw [← hz, Bool.eq_iff_iff]; simp
    clear hz
    go_upto_region 3 with (fail)
    go_cut [37] (fun x wx => x = .bool (!(z || kb)) ∧ wx = wc)
    case first =>
      cases z
      · cases kb
        · go_wp2_with (go_at_call 37; refine (HK.out _).mono ?_; rintro e w' ⟨rfl, rfl⟩)
          go_meet
          exact ⟨rfl, rfl⟩
        · go_wp2_with (go_at_call 37; refine (HK.out _).mono ?_; rintro e w' ⟨rfl, rfl⟩)
          go_meet
          exact ⟨rfl, rfl⟩
      · go_wp2_with (go_at_call 37; refine (HK.out _).mono ?_; rintro e w' ⟨rfl, rfl⟩)
        go_meet
        exact ⟨rfl, rfl⟩
    case rest =>
      obtain ⟨rfl, rfl⟩ := hcut
      clear HK tz
      have hR := HR.out
      clear HR
      generalize (z || kb) = P at *
      cases P
      · rw [Bool.false_and] at hR
        subst hR
        go_wp2
        all_goals go_ret
        all_goals exact ⟨rfl, HA.out⟩
      rw [Bool.true_and] at hR
      rcases (by omega : r ≠ 0 ∨ (r = 0 ∧ v ≠ 0) ∨ (r = 0 ∧ v = 0 ∧ k ≠ 0) ∨ (r = 0 ∧ v = 0 ∧ k = 0)) with h | ⟨rfl, h⟩ | ⟨rfl, rfl, h⟩ | ⟨rfl, rfl, rfl⟩
      · have q0 : (r == 0) = false := by simpa using h
        rw [decide_eq_false (fun g => h g.1), Bool.false_or] at hR
        clear h
        rcases (by omega : c = 0 ∨ c ≠ 0) with rfl | hc
        · rw [decide_eq_true rfl] at hR
          subst hR
          go_wp2_with (fail)
          clear lg cg
          refine (HC.out _).mono ?_
          rintro e w2 ⟨rfl, hb⟩
          have HB := Lib.hid (below_call HA.out hb)
          clear hb HA
          go_wp2
          all_goals go_ret
          all_goals exact ⟨rfl, HB.out⟩
        · have q1 : (c == 0) = false := by simpa using hc
          rw [decide_eq_false hc] at hR
          subst hR
          clear hc
          go_wp2_with (fail)
          clear lg cg
          refine (HC.out _).mono ?_
          rintro e w2 ⟨rfl, hb⟩
          have HB := Lib.hid (below_call HA.out hb)
          clear hb HA
          go_wp2
          all_goals go_ret
          all_goals exact ⟨rfl, HB.out⟩
      · have q0 : (v == 0) = false := by simpa using h
        rw [decide_eq_false (fun g => h g.2.1), Bool.false_or] at hR
        clear h
        rcases (by omega : c = 0 ∨ c ≠ 0) with rfl | hc
        · rw [decide_eq_true rfl] at hR
          subst hR
          go_wp2_with (fail)
          clear lg cg
          refine (HC.out _).mono ?_
          rintro e w2 ⟨rfl, hb⟩
          have HB := Lib.hid (below_call HA.out hb)
          clear hb HA
          go_wp2
          all_goals go_ret
          all_goals exact ⟨rfl, HB.out⟩
        · have q1 : (c == 0) = false := by simpa using hc
          rw [decide_eq_false hc] at hR
          subst hR
          clear hc
          go_wp2_with (fail)
          clear lg cg
          refine (HC.out _).mono ?_
          rintro e w2 ⟨rfl, hb⟩
          have HB := Lib.hid (below_call HA.out hb)
          clear hb HA
          go_wp2
          all_goals go_ret
          all_goals exact ⟨rfl, HB.out⟩
      · have q0 : (k == 0) = false := by simpa using h
        rw [decide_eq_false (fun g => h g.2.2), Bool.false_or] at hR
        clear h
        rcases (by omega : c = 0 ∨ c ≠ 0) with rfl | hc
        · rw [decide_eq_true rfl] at hR
          subst hR
          go_wp2_with (fail)
          clear lg cg
          refine (HC.out _).mono ?_
          rintro e w2 ⟨rfl, hb⟩
          have HB := Lib.hid (below_call HA.out hb)
          clear hb HA
          go_wp2
          all_goals go_ret
          all_goals exact ⟨rfl, HB.out⟩
        · have q1 : (c == 0) = false := by simpa using hc
          rw [decide_eq_false hc] at hR
          subst hR
          clear hc
          go_wp2_with (fail)
          clear lg cg
          refine (HC.out _).mono ?_
          rintro e w2 ⟨rfl, hb⟩
          have HB := Lib.hid (below_call HA.out hb)
          clear hb HA
          go_wp2
          all_goals go_ret
          all_goals exact ⟨rfl, HB.out⟩
      · rw [decide_eq_true ⟨rfl, rfl, rfl⟩, Bool.true_or] at hR
        subst hR
        go_wp2
        all_goals go_ret
        all_goals exact ⟨rfl, HA.out⟩
end Go.Proofs.Ytagedifalinklaa
