/- Contracts of the document's journal. Contracts of the document's journal: put. Contracts of the document's journal: got. Contracts of the document's journal: the newest of two. -/
import Derived.Test.YtagedifalinklaaJour3
import Derived.Test.YtagedifalinklaaLoose
import Derived.Deep.LoopGhost
import Derived.Deep.CutBlock
import Derived.Deep.DeepCutAuto

namespace Go.Proofs.Ytagedifalinklaa
open Go.RowKit
set_option linter.unusedVariables false
set_option linter.unusedSimpArgs false
set_option maxRecDepth 100000
attribute [local go_sem] cell_set_ite Near.cell Near.frozen
attribute [local go_sem ↓] Go.wp_at_zero Go.wp_at_succ

theorem rj_widths (w : World) : Calls Try.prog 27 #[] w fun e w' => ∃ B d, e = .returned (.slice B 8 d) ∧ 8 ≤ d ∧ Ints w' B 8 wsL ∧ Below w.heap.size w w' := by
  have H := Lib.hid (ints_newJ w wsL)
  go_enter Try.func27, Try.ntmps27
  go_wp2
  all_goals go_ret
  exact ⟨_, _, rfl, Nat.le_refl _, H.out, by (repeat (first | (with_reducible exact Below.refl _ _) | (with_reducible assumption) | (with_reducible refine Near.up _ ?_) | (with_reducible refine Below.drew ?_) | (with_reducible refine below_alloc_on ?_ _) | (with_reducible refine below_set_on ?_ (by first | (simp; done) | (simp; omega) | omega) _)))⟩
theorem rj_in (n lo hi : Int) (w : World) : Calls Try.prog 36 #[.int .i64 n, .int .i64 lo, .int .i64 hi] w fun e w' => e = .returned (.bool (decide (lo ≤ n ∧ n ≤ hi))) ∧ w = w' := by
  by_cases h1 : lo ≤ n
  · by_cases h2 : n ≤ hi
    · rw [decide_eq_true ⟨h1, h2⟩]
      have dh := decide_eq_true h2
      go_enter Try.func36, Try.ntmps36
      go_wp2
      all_goals go_ret
      all_goals exact ⟨ret_b (by first | rfl | (rw [dh])), rfl⟩
    · rw [decide_eq_false (by omega)]
      have dh := decide_eq_false h2
      go_enter Try.func36, Try.ntmps36
      go_wp2
      all_goals go_ret
      all_goals exact ⟨ret_b (by first | rfl | (rw [dh])), rfl⟩
  · rw [decide_eq_false (by omega)]
    go_enter Try.func36, Try.ntmps36
    go_wp2
    all_goals go_ret
    all_goals exact ⟨rfl, rfl⟩

theorem en_form (q m r v k t d b : Int) : enB q m r v k t d b = (decide (1 ≤ q ∧ q ≤ 4294967295) && decide (1 ≤ m ∧ m ≤ 7) && decide (0 ≤ d ∧ d ≤ 4294967295) && decide (0 ≤ b ∧ b ≤ 99999999) && (decide (t = 0) || knB t) && pgB r v k) := by
  unfold enB tlB
  rw [Bool.eq_iff_iff]
  simp only [Bool.and_eq_true, Bool.or_eq_true, decide_eq_true_eq]
  constructor
  · rintro ⟨⟨a, b, c, d⟩, e, f, g, h, i, j⟩
    exact ⟨⟨⟨⟨⟨⟨a, b⟩, c, d⟩, g, h⟩, i, j⟩, f⟩, e⟩
  · rintro ⟨⟨⟨⟨⟨⟨a, b⟩, c, d⟩, g, h⟩, i, j⟩, f⟩, e⟩
    exact ⟨⟨a, b, c, d⟩, e, f, g, h, i, j⟩

set_option maxHeartbeats 8000000 in
theorem rj_right (q m r v k t d b : Int) (w : World) : Calls Try.prog 14 #[.agg #[.int .i64 q, .int .i64 m, .int .i64 r, .int .i64 v, .int .i64 k, .int .i64 t, .int .i64 d, .int .i64 b]] w fun e w' => e = .returned (.bool (enB q m r v k t d b)) ∧ Below w.heap.size w w' := by
  have A : Below w.heap.size w w := Below.refl _ _
  rw [en_form]
  have H1 := Lib.hid (fun w => rj_in q 1 4294967295 w)
  have H2 := Lib.hid (fun w => rj_in m 1 7 w)
  have H3 := Lib.hid (fun w => rj_in d 0 4294967295 w)
  have H4 := Lib.hid (fun w => rj_in b 0 99999999 w)
  have HK := Lib.hid (fun w => ref9_known t w)
  have HC := Lib.hid (fun w => rp_check r v k w)
  generalize decide (1 ≤ q ∧ q ≤ 4294967295) = p1 at *
  generalize decide (1 ≤ m ∧ m ≤ 7) = p2 at *
  generalize decide (0 ≤ d ∧ d ≤ 4294967295) = p3 at *
  generalize decide (0 ≤ b ∧ b ≤ 99999999) = p4 at *
  unfold pgB
  generalize ckV r v k = c at *
  generalize knB t = kb at *
  obtain ⟨R, hR⟩ : ∃ R, (p1 && p2 && p3 && p4 && (decide (t = 0) || kb) && (decide (r = 0 ∧ v = 0 ∧ k = 0) || decide (c = 0))) = R := ⟨_, rfl⟩
  rw [hR]
  have HR := Lib.hid hR
  clear hR
  go_enter Try.func14, Try.ntmps14
  go_upto_region 1 with (fail)
  refine at_world (fun W => Below w.heap.size w W ∧ Box W w.heap.size #[.int .i64 q, .int .i64 m, .int .i64 r, .int .i64 v, .int .i64 k, .int .i64 t, .int .i64 d, .int .i64 b]) ⟨by (repeat (first | (with_reducible exact Below.refl _ _) | (with_reducible assumption) | (with_reducible refine Near.up _ ?_) | (with_reducible refine Below.drew ?_) | (with_reducible refine below_alloc_on ?_ _) | (with_reducible refine below_set_on ?_ (by first | (simp; done) | (simp; omega) | omega) _))), by (repeat (first | (with_reducible assumption) | (with_reducible exact box_new _ _ _) | ((with_reducible apply box_at); (first | (with_reducible rfl) | (simp <;> omega))) | (with_reducible apply Box.drew) | (with_reducible apply Box.drewN) | (with_reducible apply Box.near) | (with_reducible apply Box.alloc) | ((with_reducible apply box_far); (first | assumption | omega | (simp <;> omega))) | ((with_reducible apply Box.one_set); (with_reducible assumption)) | ((with_reducible apply Box.two_set); (with_reducible assumption)) | ((with_reducible apply Box.three_set); (with_reducible assumption)) | (with_reducible apply Box.set) | (simp only [List.size_toArray, List.length_cons, List.length_nil, Array.size_setIfInBounds] <;> omega)))⟩ ?_
  clear A
  rintro w1 ⟨A, E1⟩
  obtain ⟨g, hg⟩ : ∃ g, w.heap.size = g := ⟨_, rfl⟩
  rw [hg] at E1
  simp only [hg]
  clear hg
  have lg := E1.1
  have cg := E1.2.1
  have HA := Lib.hid A
  clear A E1
  go_cut [26] (fun x wx => x = .bool (!(p1 && p2 && p3 && p4)) ∧ wx = w1)
  case first =>
    cases p1
    · go_wp2_with (first
        | (go_at_call 36; ((with_reducible refine (H1.out _).mono ?_)); rintro e w' ⟨rfl, rfl⟩)
        | (go_at_call 36; ((with_reducible refine (H2.out _).mono ?_)); rintro e w' ⟨rfl, rfl⟩)
        | (go_at_call 36; ((with_reducible refine (H3.out _).mono ?_)); rintro e w' ⟨rfl, rfl⟩)
        | (go_at_call 36; ((with_reducible refine (H4.out _).mono ?_)); rintro e w' ⟨rfl, rfl⟩))
      go_meet
      exact ⟨rfl, rfl⟩
    cases p2
    · go_wp2_with (first
        | (go_at_call 36; ((with_reducible refine (H1.out _).mono ?_)); rintro e w' ⟨rfl, rfl⟩)
        | (go_at_call 36; ((with_reducible refine (H2.out _).mono ?_)); rintro e w' ⟨rfl, rfl⟩)
        | (go_at_call 36; ((with_reducible refine (H3.out _).mono ?_)); rintro e w' ⟨rfl, rfl⟩)
        | (go_at_call 36; ((with_reducible refine (H4.out _).mono ?_)); rintro e w' ⟨rfl, rfl⟩))
      go_meet
      exact ⟨rfl, rfl⟩
    cases p3
    · go_wp2_with (first
        | (go_at_call 36; ((with_reducible refine (H1.out _).mono ?_)); rintro e w' ⟨rfl, rfl⟩)
        | (go_at_call 36; ((with_reducible refine (H2.out _).mono ?_)); rintro e w' ⟨rfl, rfl⟩)
        | (go_at_call 36; ((with_reducible refine (H3.out _).mono ?_)); rintro e w' ⟨rfl, rfl⟩)
        | (go_at_call 36; ((with_reducible refine (H4.out _).mono ?_)); rintro e w' ⟨rfl, rfl⟩))
      go_meet
      exact ⟨rfl, rfl⟩
    cases p4
    · go_wp2_with (first
        | (go_at_call 36; ((with_reducible refine (H1.out _).mono ?_)); rintro e w' ⟨rfl, rfl⟩)
        | (go_at_call 36; ((with_reducible refine (H2.out _).mono ?_)); rintro e w' ⟨rfl, rfl⟩)
        | (go_at_call 36; ((with_reducible refine (H3.out _).mono ?_)); rintro e w' ⟨rfl, rfl⟩)
        | (go_at_call 36; ((with_reducible refine (H4.out _).mono ?_)); rintro e w' ⟨rfl, rfl⟩))
      go_meet
      exact ⟨rfl, rfl⟩
    · go_wp2_with (first
        | (go_at_call 36; ((with_reducible refine (H1.out _).mono ?_)); rintro e w' ⟨rfl, rfl⟩)
        | (go_at_call 36; ((with_reducible refine (H2.out _).mono ?_)); rintro e w' ⟨rfl, rfl⟩)
        | (go_at_call 36; ((with_reducible refine (H3.out _).mono ?_)); rintro e w' ⟨rfl, rfl⟩)
        | (go_at_call 36; ((with_reducible refine (H4.out _).mono ?_)); rintro e w' ⟨rfl, rfl⟩))
      go_meet
      exact ⟨rfl, rfl⟩
  case rest =>
    obtain ⟨rfl, rfl⟩ := hcut
    clear H1 H2 H3 H4
    have hR := HR.out
    clear HR
    generalize (p1 && p2 && p3 && p4) = P at *
    cases P
    · rw [Bool.false_and, Bool.false_and] at hR
      subst hR
      go_wp2
      all_goals go_ret
      all_goals exact ⟨rfl, HA.out⟩
    rw [Bool.true_and] at hR
    obtain ⟨z, hz⟩ : ∃ z, decide (t = 0) = z := ⟨_, rfl⟩
    rw [hz] at hR
    have HR := Lib.hid hR
    clear hR
    have tz : (t != 0) = !z := by rw [← hz, Bool.eq_iff_iff]; simp
    clear hz
    go_upto_region 3 with (fail)
    go_cut [37] (fun x wx => x = .bool (!(z || kb)) ∧ wx = wc)
    case first =>
      cases z
      · cases kb
        · go_wp2_with (go_at_call 37; refine (HK.out _).mono ?_; rintro e w' ⟨rfl, rfl⟩)
          go_meet
          exact ⟨rfl, rfl⟩
        · go_wp2_with (go_at_call 37; refine (HK.out _).mono ?_; rintro e w' ⟨rfl, rfl⟩)
          go_meet
          exact ⟨rfl, rfl⟩
      · go_wp2_with (go_at_call 37; refine (HK.out _).mono ?_; rintro e w' ⟨rfl, rfl⟩)
        go_meet
        exact ⟨rfl, rfl⟩
    case rest =>
      obtain ⟨rfl, rfl⟩ := hcut
      clear HK tz
      have hR := HR.out
      clear HR
      generalize (z || kb) = P at *
      cases P
      · rw [Bool.false_and] at hR
        subst hR
        go_wp2
        all_goals go_ret
        all_goals exact ⟨rfl, HA.out⟩
      rw [Bool.true_and] at hR
      rcases (by omega : r ≠ 0 ∨ (r = 0 ∧ v ≠ 0) ∨ (r = 0 ∧ v = 0 ∧ k ≠ 0) ∨ (r = 0 ∧ v = 0 ∧ k = 0)) with h | ⟨rfl, h⟩ | ⟨rfl, rfl, h⟩ | ⟨rfl, rfl, rfl⟩
      · have q0 : (r == 0) = false := by simpa using h
        rw [decide_eq_false (fun g => h g.1), Bool.false_or] at hR
        clear h
        rcases (by omega : c = 0 ∨ c ≠ 0) with rfl | hc
        · rw [decide_eq_true rfl] at hR
          subst hR
          go_wp2_with (fail)
          clear lg cg
          refine (HC.out _).mono ?_
          rintro e w2 ⟨rfl, hb⟩
          have HB := Lib.hid (below_call HA.out hb)
          clear hb HA
          go_wp2
          all_goals go_ret
          all_goals exact ⟨rfl, HB.out⟩
        · have q1 : (c == 0) = false := by simpa using hc
          rw [decide_eq_false hc] at hR
          subst hR
          clear hc
          go_wp2_with (fail)
          clear lg cg
          refine (HC.out _).mono ?_
          rintro e w2 ⟨rfl, hb⟩
          have HB := Lib.hid (below_call HA.out hb)
          clear hb HA
          go_wp2
          all_goals go_ret
          all_goals exact ⟨rfl, HB.out⟩
      · have q0 : (v == 0) = false := by simpa using h
        rw [decide_eq_false (fun g => h g.2.1), Bool.false_or] at hR
        clear h
        rcases (by omega : c = 0 ∨ c ≠ 0) with rfl | hc
        · rw [decide_eq_true rfl] at hR
          subst hR
          go_wp2_with (fail)
          clear lg cg
          refine (HC.out _).mono ?_
          rintro e w2 ⟨rfl, hb⟩
          have HB := Lib.hid (below_call HA.out hb)
          clear hb HA
          go_wp2
          all_goals go_ret
          all_goals exact ⟨rfl, HB.out⟩
        · have q1 : (c == 0) = false := by simpa using hc
          rw [decide_eq_false hc] at hR
          subst hR
          clear hc
          go_wp2_with (fail)
          clear lg cg
          refine (HC.out _).mono ?_
          rintro e w2 ⟨rfl, hb⟩
          have HB := Lib.hid (below_call HA.out hb)
          clear hb HA
          go_wp2
          all_goals go_ret
          all_goals exact ⟨rfl, HB.out⟩
      · have q0 : (k == 0) = false := by simpa using h
        rw [decide_eq_false (fun g => h g.2.2), Bool.false_or] at hR
        clear h
        rcases (by omega : c = 0 ∨ c ≠ 0) with rfl | hc
        · rw [decide_eq_true rfl] at hR
          subst hR
          go_wp2_with (fail)
          clear lg cg
          refine (HC.out _).mono ?_
          rintro e w2 ⟨rfl, hb⟩
          have HB := Lib.hid (below_call HA.out hb)
          clear hb HA
          go_wp2
          all_goals go_ret
          all_goals exact ⟨rfl, HB.out⟩
        · have q1 : (c == 0) = false := by simpa using hc
          rw [decide_eq_false hc] at hR
          subst hR
          clear hc
          go_wp2_with (fail)
          clear lg cg
          refine (HC.out _).mono ?_
          rintro e w2 ⟨rfl, hb⟩
          have HB := Lib.hid (below_call HA.out hb)
          clear hb HA
          go_wp2
          all_goals go_ret
          all_goals exact ⟨rfl, HB.out⟩
      · rw [decide_eq_true ⟨rfl, rfl, rfl⟩, Bool.true_or] at hR
        subst hR
        go_wp2
        all_goals go_ret
        all_goals exact ⟨rfl, HA.out⟩
end Go.Proofs.Ytagedifalinklaa

namespace Go.Proofs.Ytagedifalinklaa
open Go.RowKit
set_option linter.unusedVariables false
set_option linter.unusedSimpArgs false
set_option maxRecDepth 100000
attribute [local go_sem] cell_set_ite Near.cell Near.frozen
attribute [local go_sem ↓] Go.wp_at_zero Go.wp_at_succ

theorem ints_boxJ {w : World} {g : Nat} (xs : List Int) (h : Box w g (xs.map (Value.int .i64)).toArray) : Ints w (some ⟨g, 0, none⟩) xs.length xs := by
  refine ⟨rfl, fun _ => ⟨g, 0, rfl, h.1, fun i hi => ?_⟩⟩
  rw [Nat.zero_add]
  refine (h.2.1 i).trans ?_
  simp [hi]

set_option maxHeartbeats 8000000 in
theorem rj_put (q m r v k t d b : Int) (w : World) : Calls Try.prog 8 #[.agg #[.int .i64 q, .int .i64 m, .int .i64 r, .int .i64 v, .int .i64 k, .int .i64 t, .int .i64 d, .int .i64 b]] w fun e w' => e = .returned (.tuple #[.string (ptS q m r v k t d b), .bool (enB q m r v k t d b)]) ∧ Below w.heap.size w w' := by
  have HR := Lib.hid (fun w => rj_right q m r v k t d b w)
  have A : Below w.heap.size w w := Below.refl _ _
  cases he : enB q m r v k t d b
  · rw [pt_none he]
    rw [he] at HR
    clear he
    go_enter Try.func8, Try.ntmps8
    go_wp2_with (fail)
    refine (HR.out _).mono ?_
    rintro e w1 ⟨rfl, hb⟩
    replace A : Below w.heap.size w w1 := by (refine below_call ?_ hb; (repeat (first | (with_reducible exact Below.refl _ _) | (with_reducible assumption) | (with_reducible refine Near.up _ ?_) | (with_reducible refine Below.drew ?_) | (with_reducible refine below_alloc_on ?_ _) | (with_reducible refine below_set_on ?_ (by first | (simp; done) | (simp; omega) | omega) _))))
    replace B := Box.below (g := w.heap.size) (by (repeat (first | (with_reducible assumption) | (with_reducible exact box_new _ _ _) | ((with_reducible apply box_at); (first | (with_reducible rfl) | (simp <;> omega))) | (with_reducible apply Box.drew) | (with_reducible apply Box.drewN) | (with_reducible apply Box.near) | (with_reducible apply Box.alloc) | ((with_reducible apply box_far); (first | assumption | omega | (simp <;> omega))) | ((with_reducible apply Box.one_set); (with_reducible assumption)) | ((with_reducible apply Box.two_set); (with_reducible assumption)) | ((with_reducible apply Box.three_set); (with_reducible assumption)) | (with_reducible apply Box.set) | (simp only [List.size_toArray, List.length_cons, List.length_nil, Array.size_setIfInBounds] <;> omega)))) hb
    (try simp only [List.setIfInBounds_toArray, List.set_cons_zero, List.set_cons_succ] at B)
    (try clear cB fB)
    clear hb
    have z_w1 : w.heap.size ≤ w1.heap.size := A.size
    obtain ⟨lB_w1, cB, fB⟩ := id B
    go_wp2
    all_goals go_ret2
    all_goals exact ⟨rfl, A⟩
  · have hb := en_bd he
    rw [show ptS q m r v k t d b = sealB (pkS [q, m, r, v, k, t, d, b] wsL) by unfold ptS; rw [if_pos he]]
    have hsz := pkS_size [q, m, r, v, k, t, d, b] wsL
    have HP := fun w B C c e (h : Ints w B 8 [q, m, r, v, k, t, d, b]) (g : Ints w C 8 wsL) => ref7_pack B C 8 c 8 e [q, m, r, v, k, t, d, b] wsL w h g (by omega) (by omega) (by
      intro x hx
      simp only [List.mem_cons, List.not_mem_nil, or_false] at hx
      omega)
    rw [en_pk he] at HP
    have HP := Lib.hid (fun w B C c e h g => (HP w B C c e h g).mono fun _ _ h => (⟨h.1, h.2⟩ : _ ∧ _))
    have HS := Lib.hid (fun w => ref6_seal (pkS [q, m, r, v, k, t, d, b] wsL) w (by omega))
    rw [he] at HR
    clear he hb hsz
    generalize pkS [q, m, r, v, k, t, d, b] wsL = ps at *
    generalize sealB ps = ss at *
    go_enter Try.func8, Try.ntmps8
    go_wp2_with (fail)
    refine (HR.out _).mono ?_
    rintro e w1 ⟨rfl, hb⟩
    replace A : Below w.heap.size w w1 := by (refine below_call ?_ hb; (repeat (first | (with_reducible exact Below.refl _ _) | (with_reducible assumption) | (with_reducible refine Near.up _ ?_) | (with_reducible refine Below.drew ?_) | (with_reducible refine below_alloc_on ?_ _) | (with_reducible refine below_set_on ?_ (by first | (simp; done) | (simp; omega) | omega) _))))
    replace B := Box.below (g := w.heap.size) (by (repeat (first | (with_reducible assumption) | (with_reducible exact box_new _ _ _) | ((with_reducible apply box_at); (first | (with_reducible rfl) | (simp <;> omega))) | (with_reducible apply Box.drew) | (with_reducible apply Box.drewN) | (with_reducible apply Box.near) | (with_reducible apply Box.alloc) | ((with_reducible apply box_far); (first | assumption | omega | (simp <;> omega))) | ((with_reducible apply Box.one_set); (with_reducible assumption)) | ((with_reducible apply Box.two_set); (with_reducible assumption)) | ((with_reducible apply Box.three_set); (with_reducible assumption)) | (with_reducible apply Box.set) | (simp only [List.size_toArray, List.length_cons, List.length_nil, Array.size_setIfInBounds] <;> omega)))) hb
    (try simp only [List.setIfInBounds_toArray, List.set_cons_zero, List.set_cons_succ] at B)
    (try clear cB fB)
    clear hb
    have z_w1 : w.heap.size ≤ w1.heap.size := A.size
    obtain ⟨lB_w1, cB, fB⟩ := id B
    go_upto_region 3 with (fail)
    refine at_world (fun W => Below w.heap.size w W ∧ Box W w.heap.size #[.int .i64 q, .int .i64 m, .int .i64 r, .int .i64 v, .int .i64 k, .int .i64 t, .int .i64 d, .int .i64 b]) ⟨A, B⟩ ?_
    clear A B cB fB lB_w1 z_w1 HR
    rintro w1 ⟨A1, G1⟩
    obtain ⟨g, hg⟩ : ∃ g, w.heap.size = g := ⟨_, rfl⟩
    rw [hg] at G1
    simp only [hg]
    clear hg
    have HB_g : ∀ w', Below (World.drew w1).heap.size (World.drew w1) w' → Box w' g #[.int .i64 q, .int .i64 m, .int .i64 r, .int .i64 v, .int .i64 k, .int .i64 t, .int .i64 d, .int .i64 b] := fun w' h => (show Box (World.drew w1) g #[.int .i64 q, .int .i64 m, .int .i64 r, .int .i64 v, .int .i64 k, .int .i64 t, .int .i64 d, .int .i64 b] from G1).below h
    obtain ⟨cs, hcs⟩ : ∃ cs : Nat → Value, (fun i => match i with
      | 0 => .pointer (some ⟨g, 0, none⟩)
      | 1 => .int .i64 q
      | 2 => .pointer (some ⟨g, 1, none⟩)
      | 3 => .int .i64 m
      | 4 => .pointer (some ⟨g, 2, none⟩)
      | 5 => .pointer (some ⟨g, 2, none⟩)
      | 6 => .int .i64 r
      | 7 => .pointer (some ⟨g, 2, none⟩)
      | 8 => .pointer (some ⟨g, 3, none⟩)
      | 9 => .int .i64 v
      | 10 => .pointer (some ⟨g, 2, none⟩)
      | 11 => .pointer (some ⟨g, 4, none⟩)
      | 12 => .int .i64 k
      | 13 => .pointer (some ⟨g, 5, none⟩)
      | 14 => .pointer (some ⟨g, 5, none⟩)
      | 15 => .int .i64 t
      | 16 => .pointer (some ⟨g, 5, none⟩)
      | 17 => .pointer (some ⟨g, 6, none⟩)
      | 18 => .int .i64 d
      | 19 => .pointer (some ⟨g, 5, none⟩)
      | 20 => .pointer (some ⟨g, 7, none⟩)
      | 21 => .int .i64 b
      | 24 => .tuple #[.string ps, .bool true]
      | 25 => .tuple #[.string ps, .bool true]
      | 26 => .string ps
      | 27 => .bool true
      | 28 => .string ps
      | _ => undef) = cs := ⟨_, rfl⟩
    have e0 : cs 0 = .pointer (some ⟨g, 0, none⟩) := by rw [← hcs]; rfl
    have e1 : cs 1 = .int .i64 q := by rw [← hcs]; rfl
    have e2 : cs 2 = .pointer (some ⟨g, 1, none⟩) := by rw [← hcs]; rfl
    have e3 : cs 3 = .int .i64 m := by rw [← hcs]; rfl
    have e4 : cs 4 = .pointer (some ⟨g, 2, none⟩) := by rw [← hcs]; rfl
    have e5 : cs 5 = .pointer (some ⟨g, 2, none⟩) := by rw [← hcs]; rfl
    have e6 : cs 6 = .int .i64 r := by rw [← hcs]; rfl
    have e7 : cs 7 = .pointer (some ⟨g, 2, none⟩) := by rw [← hcs]; rfl
    have e8 : cs 8 = .pointer (some ⟨g, 3, none⟩) := by rw [← hcs]; rfl
    have e9 : cs 9 = .int .i64 v := by rw [← hcs]; rfl
    have e10 : cs 10 = .pointer (some ⟨g, 2, none⟩) := by rw [← hcs]; rfl
    have e11 : cs 11 = .pointer (some ⟨g, 4, none⟩) := by rw [← hcs]; rfl
    have e12 : cs 12 = .int .i64 k := by rw [← hcs]; rfl
    have e13 : cs 13 = .pointer (some ⟨g, 5, none⟩) := by rw [← hcs]; rfl
    have e14 : cs 14 = .pointer (some ⟨g, 5, none⟩) := by rw [← hcs]; rfl
    have e15 : cs 15 = .int .i64 t := by rw [← hcs]; rfl
    have e16 : cs 16 = .pointer (some ⟨g, 5, none⟩) := by rw [← hcs]; rfl
    have e17 : cs 17 = .pointer (some ⟨g, 6, none⟩) := by rw [← hcs]; rfl
    have e18 : cs 18 = .int .i64 d := by rw [← hcs]; rfl
    have e19 : cs 19 = .pointer (some ⟨g, 5, none⟩) := by rw [← hcs]; rfl
    have e20 : cs 20 = .pointer (some ⟨g, 7, none⟩) := by rw [← hcs]; rfl
    have e21 : cs 21 = .int .i64 b := by rw [← hcs]; rfl
    have e24 : cs 24 = .tuple #[.string ps, .bool true] := by rw [← hcs]; rfl
    have e25 : cs 25 = .tuple #[.string ps, .bool true] := by rw [← hcs]; rfl
    have e26 : cs 26 = .string ps := by rw [← hcs]; rfl
    have e27 : cs 27 = .bool true := by rw [← hcs]; rfl
    have e28 : cs 28 = .string ps := by rw [← hcs]; rfl
    clear hcs
    refine wp_region_loose 29 41 (by as_aux_lemma => kernel_rfl) (by as_aux_lemma => kernel_rfl) rfl (fun w w' => Below w.heap.size w w') (fun w => Below.refl _ _) (fun a b c h g => below_call h g)
      (looseD (fun i => if i = 22 then some (fun vv ww => ∃ q_, vv = .slice (some ⟨q_, 0, none⟩) 8 8 ∧ Box ww q_ #[.int .i64 q, .int .i64 m, .int .i64 r, .int .i64 v, .int .i64 k, .int .i64 t, .int .i64 d, .int .i64 b]) else if i = 23 then some (fun vv ww => ∃ B c, vv = .slice B 8 c ∧ 8 ≤ c ∧ Ints ww B 8 wsL) else none) cs)
      (fun _ _ _ => True) (looseD_stable ?_) (fun _ _ _ _ _ _ _ _ => trivial) trivial ?_ ?_
    · intro i p hp v u u' h hE
      split at hp
      · cases hp; obtain ⟨q, h1, h3⟩ := h; exact ⟨q, h1, h3.below hE⟩
      · skip
        split at hp
        · cases hp; obtain ⟨B, c, h1, h2, h3⟩ := h; exact ⟨B, c, h1, h2, h3.below hE⟩
        · skip
          cases hp
    · simp only [List.take_succ_cons, List.take_zero]
      refine looseAll_cons (k := 1) rfl (fun a u L hE hev hkn _ _ => ?_) ?_
      · have kc : ∀ c, a.eval (.const c) = c := fun _ => rfl
        have kf : ∀ f, a.eval (.func f) = .func (.func f) #[] #[] := fun _ => rfl
        have t1 : a.eval (.tmp 1) = .pointer (some ⟨g, 0, none⟩) := hev 1 (by kernel_rfl)
        exact loose_val rfl (v := .pointer (some ⟨g, 0, none⟩)) (by generalize a.eval = ev at *; simp [go_sem, kc, kf, t1]) ⟨Below.refl _ _, e0.symm, trivial⟩
      refine looseAll_cons (k := 2) rfl (fun a u L hE hev hkn _ _ => ?_) ?_
      · have kc : ∀ c, a.eval (.const c) = c := fun _ => rfl
        have kf : ∀ f, a.eval (.func f) = .func (.func f) #[] #[] := fun _ => rfl
        have C_g := (HB_g u hE).2.1
        have t10 : a.eval (.tmp 10) = .pointer (some ⟨g, 0, none⟩) := (hkn 0 (by kernel_rfl) : a.eval (.tmp 10) = cs 0).trans e0
        exact loose_val rfl (v := .int .i64 q) (by generalize a.eval = ev at *; simp [go_sem, kc, kf, t10, C_g]) ⟨Below.refl _ _, e1.symm, trivial⟩
      refine looseAll_cons (k := 3) rfl (fun a u L hE hev hkn _ _ => ?_) ?_
      · have kc : ∀ c, a.eval (.const c) = c := fun _ => rfl
        have kf : ∀ f, a.eval (.func f) = .func (.func f) #[] #[] := fun _ => rfl
        have t1 : a.eval (.tmp 1) = .pointer (some ⟨g, 0, none⟩) := hev 1 (by kernel_rfl)
        exact loose_val rfl (v := .pointer (some ⟨g, 1, none⟩)) (by generalize a.eval = ev at *; simp [go_sem, kc, kf, t1]) ⟨Below.refl _ _, e2.symm, trivial⟩
      refine looseAll_cons (k := 4) rfl (fun a u L hE hev hkn _ _ => ?_) ?_
      · have kc : ∀ c, a.eval (.const c) = c := fun _ => rfl
        have kf : ∀ f, a.eval (.func f) = .func (.func f) #[] #[] := fun _ => rfl
        have C_g := (HB_g u hE).2.1
        have t12 : a.eval (.tmp 12) = .pointer (some ⟨g, 1, none⟩) := (hkn 2 (by kernel_rfl) : a.eval (.tmp 12) = cs 2).trans e2
        exact loose_val rfl (v := .int .i64 m) (by generalize a.eval = ev at *; simp [go_sem, kc, kf, t12, C_g]) ⟨Below.refl _ _, e3.symm, trivial⟩
      refine looseAll_cons (k := 5) rfl (fun a u L hE hev hkn _ _ => ?_) ?_
      · have kc : ∀ c, a.eval (.const c) = c := fun _ => rfl
        have kf : ∀ f, a.eval (.func f) = .func (.func f) #[] #[] := fun _ => rfl
        have t1 : a.eval (.tmp 1) = .pointer (some ⟨g, 0, none⟩) := hev 1 (by kernel_rfl)
        exact loose_val rfl (v := .pointer (some ⟨g, 2, none⟩)) (by generalize a.eval = ev at *; simp [go_sem, kc, kf, t1]) ⟨Below.refl _ _, e4.symm, trivial⟩
      refine looseAll_cons (k := 6) rfl (fun a u L hE hev hkn _ _ => ?_) ?_
      · have kc : ∀ c, a.eval (.const c) = c := fun _ => rfl
        have kf : ∀ f, a.eval (.func f) = .func (.func f) #[] #[] := fun _ => rfl
        have t14 : a.eval (.tmp 14) = .pointer (some ⟨g, 2, none⟩) := (hkn 4 (by kernel_rfl) : a.eval (.tmp 14) = cs 4).trans e4
        exact loose_val rfl (v := .pointer (some ⟨g, 2, none⟩)) (by generalize a.eval = ev at *; simp [go_sem, kc, kf, t14]) ⟨Below.refl _ _, e5.symm, trivial⟩
      refine looseAll_cons (k := 7) rfl (fun a u L hE hev hkn _ _ => ?_) ?_
      · have kc : ∀ c, a.eval (.const c) = c := fun _ => rfl
        have kf : ∀ f, a.eval (.func f) = .func (.func f) #[] #[] := fun _ => rfl
        have C_g := (HB_g u hE).2.1
        have t15 : a.eval (.tmp 15) = .pointer (some ⟨g, 2, none⟩) := (hkn 5 (by kernel_rfl) : a.eval (.tmp 15) = cs 5).trans e5
        exact loose_val rfl (v := .int .i64 r) (by generalize a.eval = ev at *; simp [go_sem, kc, kf, t15, C_g]) ⟨Below.refl _ _, e6.symm, trivial⟩
      refine looseAll_cons (k := 8) rfl (fun a u L hE hev hkn _ _ => ?_) ?_
      · have kc : ∀ c, a.eval (.const c) = c := fun _ => rfl
        have kf : ∀ f, a.eval (.func f) = .func (.func f) #[] #[] := fun _ => rfl
        have t1 : a.eval (.tmp 1) = .pointer (some ⟨g, 0, none⟩) := hev 1 (by kernel_rfl)
        exact loose_val rfl (v := .pointer (some ⟨g, 2, none⟩)) (by generalize a.eval = ev at *; simp [go_sem, kc, kf, t1]) ⟨Below.refl _ _, e7.symm, trivial⟩
      refine looseAll_cons (k := 9) rfl (fun a u L hE hev hkn _ _ => ?_) ?_
      · have kc : ∀ c, a.eval (.const c) = c := fun _ => rfl
        have kf : ∀ f, a.eval (.func f) = .func (.func f) #[] #[] := fun _ => rfl
        have t17 : a.eval (.tmp 17) = .pointer (some ⟨g, 2, none⟩) := (hkn 7 (by kernel_rfl) : a.eval (.tmp 17) = cs 7).trans e7
        exact loose_val rfl (v := .pointer (some ⟨g, 3, none⟩)) (by generalize a.eval = ev at *; simp [go_sem, kc, kf, t17]) ⟨Below.refl _ _, e8.symm, trivial⟩
      refine looseAll_cons (k := 10) rfl (fun a u L hE hev hkn _ _ => ?_) ?_
      · have kc : ∀ c, a.eval (.const c) = c := fun _ => rfl
        have kf : ∀ f, a.eval (.func f) = .func (.func f) #[] #[] := fun _ => rfl
        have C_g := (HB_g u hE).2.1
        have t18 : a.eval (.tmp 18) = .pointer (some ⟨g, 3, none⟩) := (hkn 8 (by kernel_rfl) : a.eval (.tmp 18) = cs 8).trans e8
        exact loose_val rfl (v := .int .i64 v) (by generalize a.eval = ev at *; simp [go_sem, kc, kf, t18, C_g]) ⟨Below.refl _ _, e9.symm, trivial⟩
      refine looseAll_cons (k := 11) rfl (fun a u L hE hev hkn _ _ => ?_) ?_
      · have kc : ∀ c, a.eval (.const c) = c := fun _ => rfl
        have kf : ∀ f, a.eval (.func f) = .func (.func f) #[] #[] := fun _ => rfl
        have t1 : a.eval (.tmp 1) = .pointer (some ⟨g, 0, none⟩) := hev 1 (by kernel_rfl)
        exact loose_val rfl (v := .pointer (some ⟨g, 2, none⟩)) (by generalize a.eval = ev at *; simp [go_sem, kc, kf, t1]) ⟨Below.refl _ _, e10.symm, trivial⟩
      refine looseAll_cons (k := 12) rfl (fun a u L hE hev hkn _ _ => ?_) ?_
      · have kc : ∀ c, a.eval (.const c) = c := fun _ => rfl
        have kf : ∀ f, a.eval (.func f) = .func (.func f) #[] #[] := fun _ => rfl
        have t20 : a.eval (.tmp 20) = .pointer (some ⟨g, 2, none⟩) := (hkn 10 (by kernel_rfl) : a.eval (.tmp 20) = cs 10).trans e10
        exact loose_val rfl (v := .pointer (some ⟨g, 4, none⟩)) (by generalize a.eval = ev at *; simp [go_sem, kc, kf, t20]) ⟨Below.refl _ _, e11.symm, trivial⟩
      refine looseAll_cons (k := 13) rfl (fun a u L hE hev hkn _ _ => ?_) ?_
      · have kc : ∀ c, a.eval (.const c) = c := fun _ => rfl
        have kf : ∀ f, a.eval (.func f) = .func (.func f) #[] #[] := fun _ => rfl
        have C_g := (HB_g u hE).2.1
        have t21 : a.eval (.tmp 21) = .pointer (some ⟨g, 4, none⟩) := (hkn 11 (by kernel_rfl) : a.eval (.tmp 21) = cs 11).trans e11
        exact loose_val rfl (v := .int .i64 k) (by generalize a.eval = ev at *; simp [go_sem, kc, kf, t21, C_g]) ⟨Below.refl _ _, e12.symm, trivial⟩
      refine looseAll_cons (k := 14) rfl (fun a u L hE hev hkn _ _ => ?_) ?_
      · have kc : ∀ c, a.eval (.const c) = c := fun _ => rfl
        have kf : ∀ f, a.eval (.func f) = .func (.func f) #[] #[] := fun _ => rfl
        have t1 : a.eval (.tmp 1) = .pointer (some ⟨g, 0, none⟩) := hev 1 (by kernel_rfl)
        exact loose_val rfl (v := .pointer (some ⟨g, 5, none⟩)) (by generalize a.eval = ev at *; simp [go_sem, kc, kf, t1]) ⟨Below.refl _ _, e13.symm, trivial⟩
      refine looseAll_cons (k := 15) rfl (fun a u L hE hev hkn _ _ => ?_) ?_
      · have kc : ∀ c, a.eval (.const c) = c := fun _ => rfl
        have kf : ∀ f, a.eval (.func f) = .func (.func f) #[] #[] := fun _ => rfl
        have t23 : a.eval (.tmp 23) = .pointer (some ⟨g, 5, none⟩) := (hkn 13 (by kernel_rfl) : a.eval (.tmp 23) = cs 13).trans e13
        exact loose_val rfl (v := .pointer (some ⟨g, 5, none⟩)) (by generalize a.eval = ev at *; simp [go_sem, kc, kf, t23]) ⟨Below.refl _ _, e14.symm, trivial⟩
      refine looseAll_cons (k := 16) rfl (fun a u L hE hev hkn _ _ => ?_) ?_
      · have kc : ∀ c, a.eval (.const c) = c := fun _ => rfl
        have kf : ∀ f, a.eval (.func f) = .func (.func f) #[] #[] := fun _ => rfl
        have C_g := (HB_g u hE).2.1
        have t24 : a.eval (.tmp 24) = .pointer (some ⟨g, 5, none⟩) := (hkn 14 (by kernel_rfl) : a.eval (.tmp 24) = cs 14).trans e14
        exact loose_val rfl (v := .int .i64 t) (by generalize a.eval = ev at *; simp [go_sem, kc, kf, t24, C_g]) ⟨Below.refl _ _, e15.symm, trivial⟩
      refine looseAll_cons (k := 17) rfl (fun a u L hE hev hkn _ _ => ?_) ?_
      · have kc : ∀ c, a.eval (.const c) = c := fun _ => rfl
        have kf : ∀ f, a.eval (.func f) = .func (.func f) #[] #[] := fun _ => rfl
        have t1 : a.eval (.tmp 1) = .pointer (some ⟨g, 0, none⟩) := hev 1 (by kernel_rfl)
        exact loose_val rfl (v := .pointer (some ⟨g, 5, none⟩)) (by generalize a.eval = ev at *; simp [go_sem, kc, kf, t1]) ⟨Below.refl _ _, e16.symm, trivial⟩
      refine looseAll_cons (k := 18) rfl (fun a u L hE hev hkn _ _ => ?_) ?_
      · have kc : ∀ c, a.eval (.const c) = c := fun _ => rfl
        have kf : ∀ f, a.eval (.func f) = .func (.func f) #[] #[] := fun _ => rfl
        have t26 : a.eval (.tmp 26) = .pointer (some ⟨g, 5, none⟩) := (hkn 16 (by kernel_rfl) : a.eval (.tmp 26) = cs 16).trans e16
        exact loose_val rfl (v := .pointer (some ⟨g, 6, none⟩)) (by generalize a.eval = ev at *; simp [go_sem, kc, kf, t26]) ⟨Below.refl _ _, e17.symm, trivial⟩
      refine looseAll_cons (k := 19) rfl (fun a u L hE hev hkn _ _ => ?_) ?_
      · have kc : ∀ c, a.eval (.const c) = c := fun _ => rfl
        have kf : ∀ f, a.eval (.func f) = .func (.func f) #[] #[] := fun _ => rfl
        have C_g := (HB_g u hE).2.1
        have t27 : a.eval (.tmp 27) = .pointer (some ⟨g, 6, none⟩) := (hkn 17 (by kernel_rfl) : a.eval (.tmp 27) = cs 17).trans e17
        exact loose_val rfl (v := .int .i64 d) (by generalize a.eval = ev at *; simp [go_sem, kc, kf, t27, C_g]) ⟨Below.refl _ _, e18.symm, trivial⟩
      refine looseAll_cons (k := 20) rfl (fun a u L hE hev hkn _ _ => ?_) ?_
      · have kc : ∀ c, a.eval (.const c) = c := fun _ => rfl
        have kf : ∀ f, a.eval (.func f) = .func (.func f) #[] #[] := fun _ => rfl
        have t1 : a.eval (.tmp 1) = .pointer (some ⟨g, 0, none⟩) := hev 1 (by kernel_rfl)
        exact loose_val rfl (v := .pointer (some ⟨g, 5, none⟩)) (by generalize a.eval = ev at *; simp [go_sem, kc, kf, t1]) ⟨Below.refl _ _, e19.symm, trivial⟩
      refine looseAll_cons (k := 21) rfl (fun a u L hE hev hkn _ _ => ?_) ?_
      · have kc : ∀ c, a.eval (.const c) = c := fun _ => rfl
        have kf : ∀ f, a.eval (.func f) = .func (.func f) #[] #[] := fun _ => rfl
        have t29 : a.eval (.tmp 29) = .pointer (some ⟨g, 5, none⟩) := (hkn 19 (by kernel_rfl) : a.eval (.tmp 29) = cs 19).trans e19
        exact loose_val rfl (v := .pointer (some ⟨g, 7, none⟩)) (by generalize a.eval = ev at *; simp [go_sem, kc, kf, t29]) ⟨Below.refl _ _, e20.symm, trivial⟩
      refine looseAll_cons (k := 22) rfl (fun a u L hE hev hkn _ _ => ?_) ?_
      · have kc : ∀ c, a.eval (.const c) = c := fun _ => rfl
        have kf : ∀ f, a.eval (.func f) = .func (.func f) #[] #[] := fun _ => rfl
        have C_g := (HB_g u hE).2.1
        have t30 : a.eval (.tmp 30) = .pointer (some ⟨g, 7, none⟩) := (hkn 20 (by kernel_rfl) : a.eval (.tmp 30) = cs 20).trans e20
        exact loose_val rfl (v := .int .i64 b) (by generalize a.eval = ev at *; simp [go_sem, kc, kf, t30, C_g]) ⟨Below.refl _ _, e21.symm, trivial⟩
      refine looseAll_cons (k := 23) rfl (fun a u L hE hev hkn _ _ => ?_) ?_
      · have kc : ∀ c, a.eval (.const c) = c := fun _ => rfl
        have kf : ∀ f, a.eval (.func f) = .func (.func f) #[] #[] := fun _ => rfl
        have t11 : a.eval (.tmp 11) = .int .i64 q := (hkn 1 (by kernel_rfl) : a.eval (.tmp 11) = cs 1).trans e1
        have t13 : a.eval (.tmp 13) = .int .i64 m := (hkn 3 (by kernel_rfl) : a.eval (.tmp 13) = cs 3).trans e3
        have t16 : a.eval (.tmp 16) = .int .i64 r := (hkn 6 (by kernel_rfl) : a.eval (.tmp 16) = cs 6).trans e6
        have t19 : a.eval (.tmp 19) = .int .i64 v := (hkn 9 (by kernel_rfl) : a.eval (.tmp 19) = cs 9).trans e9
        have t22 : a.eval (.tmp 22) = .int .i64 k := (hkn 12 (by kernel_rfl) : a.eval (.tmp 22) = cs 12).trans e12
        have t25 : a.eval (.tmp 25) = .int .i64 t := (hkn 15 (by kernel_rfl) : a.eval (.tmp 25) = cs 15).trans e15
        have t28 : a.eval (.tmp 28) = .int .i64 d := (hkn 18 (by kernel_rfl) : a.eval (.tmp 28) = cs 18).trans e18
        have t31 : a.eval (.tmp 31) = .int .i64 b := (hkn 21 (by kernel_rfl) : a.eval (.tmp 31) = cs 21).trans e21
        exact loose_val rfl (v := .slice (some ⟨u.heap.size, 0, none⟩) 8 8) (w' := u.alloc (.cells #[.int .i64 q, .int .i64 m, .int .i64 r, .int .i64 v, .int .i64 k, .int .i64 t, .int .i64 d, .int .i64 b] 3)) (by generalize a.eval = ev at *; simp [go_sem, kc, kf, t11, t13, t16, t19, t22, t25, t28, t31]) ⟨below_alloc_on (Below.refl _ _) _, ⟨u.heap.size, rfl, box_new _ _ _⟩, trivial⟩
      refine looseAll_cons (k := 24) rfl (fun a u L hE hev hkn _ _ => ?_) ?_
      · have kc : ∀ c, a.eval (.const c) = c := fun _ => rfl
        have kf : ∀ f, a.eval (.func f) = .func (.func f) #[] #[] := fun _ => rfl
        exact loose_call rfl (by generalize a.eval = ev at *; simp [go_sem, kc, kf]) ((rj_widths u).mono fun e u' h => by obtain ⟨B, c, he, hc, hi, hb⟩ := h; exact ⟨_, he, hb, ⟨B, c, rfl, hc, hi⟩, trivial⟩)
      refine looseAll_cons (k := 25) rfl (fun a u L hE hev hkn _ _ => ?_) ?_
      · have kc : ∀ c, a.eval (.const c) = c := fun _ => rfl
        have kf : ∀ f, a.eval (.func f) = .func (.func f) #[] #[] := fun _ => rfl
        obtain ⟨s0, t32, Bs0⟩ : ∃ q_, (a.eval (.tmp 32)) = .slice (some ⟨q_, 0, none⟩) 8 8 ∧ Box u q_ #[.int .i64 q, .int .i64 m, .int .i64 r, .int .i64 v, .int .i64 k, .int .i64 t, .int .i64 d, .int .i64 b] := hkn 22 (by kernel_rfl)
        obtain ⟨B2, c2, t33, hc2, hi2⟩ : ∃ B c, (a.eval (.tmp 33)) = .slice B 8 c ∧ 8 ≤ c ∧ Ints u B 8 wsL := hkn 23 (by kernel_rfl)
        exact loose_call rfl (by generalize a.eval = ev at *; simp [go_sem, kc, kf, t32, t33]) ((HP.out u (some ⟨s0, 0, none⟩) B2 8 c2 (ints_boxJ [q, m, r, v, k, t, d, b] Bs0) hi2).mono fun e w' h => ⟨.tuple #[.string ps, .bool true], h.1, h.2, e24.symm, trivial⟩)
      refine looseAll_cons (k := 26) rfl (fun a u L hE hev hkn _ _ => ?_) ?_
      · have kc : ∀ c, a.eval (.const c) = c := fun _ => rfl
        have kf : ∀ f, a.eval (.func f) = .func (.func f) #[] #[] := fun _ => rfl
        have t34 : a.eval (.tmp 34) = .tuple #[.string ps, .bool true] := (hkn 24 (by kernel_rfl) : a.eval (.tmp 34) = cs 24).trans e24
        exact loose_val rfl (v := .tuple #[.string ps, .bool true]) (by generalize a.eval = ev at *; simp [go_sem, kc, kf, t34]) ⟨Below.refl _ _, e25.symm, trivial⟩
      refine looseAll_cons (k := 27) rfl (fun a u L hE hev hkn _ _ => ?_) ?_
      · have kc : ∀ c, a.eval (.const c) = c := fun _ => rfl
        have kf : ∀ f, a.eval (.func f) = .func (.func f) #[] #[] := fun _ => rfl
        have t9 : a.eval (.tmp 9) = .tuple #[.string ps, .bool true] := (hkn 25 (by kernel_rfl) : a.eval (.tmp 9) = cs 25).trans e25
        exact loose_val rfl (v := .string ps) (by generalize a.eval = ev at *; simp [go_sem, kc, kf, t9]) ⟨Below.refl _ _, e26.symm, trivial⟩
      refine looseAll_cons (k := 28) rfl (fun a u L hE hev hkn _ _ => ?_) ?_
      · have kc : ∀ c, a.eval (.const c) = c := fun _ => rfl
        have kf : ∀ f, a.eval (.func f) = .func (.func f) #[] #[] := fun _ => rfl
        have t9 : a.eval (.tmp 9) = .tuple #[.string ps, .bool true] := (hkn 25 (by kernel_rfl) : a.eval (.tmp 9) = cs 25).trans e25
        exact loose_val rfl (v := .bool true) (by generalize a.eval = ev at *; simp [go_sem, kc, kf, t9]) ⟨Below.refl _ _, e27.symm, trivial⟩
      refine looseAll_cons (k := 29) rfl (fun a u L hE hev hkn _ _ => ?_) ?_
      · have kc : ∀ c, a.eval (.const c) = c := fun _ => rfl
        have kf : ∀ f, a.eval (.func f) = .func (.func f) #[] #[] := fun _ => rfl
        have t35 : a.eval (.tmp 35) = .string ps := (hkn 26 (by kernel_rfl) : a.eval (.tmp 35) = cs 26).trans e26
        exact loose_val rfl (v := .string ps) (by generalize a.eval = ev at *; simp [go_sem, kc, kf, t35]) ⟨Below.refl _ _, e28.symm, trivial⟩
      exact looseAll_nil
    · intro a w3 hE hsz hdf hO hDD _
      obtain ⟨s0, f32, Bs0⟩ : ∃ q_, (a.tmps.getD 32 undef) = .slice (some ⟨q_, 0, none⟩) 8 8 ∧ Box w3 q_ #[.int .i64 q, .int .i64 m, .int .i64 r, .int .i64 v, .int .i64 k, .int .i64 t, .int .i64 d, .int .i64 b] := hDD 22 (by omega)
      obtain ⟨B2, c2, f33, hc2, hi2⟩ : ∃ B c, (a.tmps.getD 33 undef) = .slice B 8 c ∧ 8 ≤ c ∧ Ints w3 B 8 wsL := hDD 23 (by omega)
      obtain ⟨x5, f5⟩ : ∃ x, a.tmps.getD 5 undef = x := ⟨_, rfl⟩
      have hOO : ∀ s_, isDst _ s_ = false → a.tmps.getD s_ undef = (List.toArray (.agg #[.int .i64 q, .int .i64 m, .int .i64 r, .int .i64 v, .int .i64 k, .int .i64 t, .int .i64 d, .int .i64 b] :: .pointer (some ⟨g, 0, none⟩) :: .string ⟨#[]⟩ :: .bool false :: undef :: undef :: .agg #[.int .i64 q, .int .i64 m, .int .i64 r, .int .i64 v, .int .i64 k, .int .i64 t, .int .i64 d, .int .i64 b] :: .bool true :: .bool false :: undef :: undef :: undef :: undef :: undef :: undef :: undef :: undef :: undef :: undef :: undef :: undef :: undef :: undef :: undef :: undef :: undef :: undef :: undef :: undef :: undef :: undef :: undef :: undef :: undef :: undef :: undef :: undef :: undef :: undef :: undef :: undef :: []) : Array Value).getD s_ undef := fun s_ h_ => by rw [Array.getD_eq_getD_getElem?, Array.getD_eq_getD_getElem?, hO s_ h_]
      obtain rfl := act_lit (ys := (List.toArray (.agg #[.int .i64 q, .int .i64 m, .int .i64 r, .int .i64 v, .int .i64 k, .int .i64 t, .int .i64 d, .int .i64 b] :: .pointer (some ⟨g, 0, none⟩) :: .string ⟨#[]⟩ :: .bool false :: .string ps :: x5 :: .agg #[.int .i64 q, .int .i64 m, .int .i64 r, .int .i64 v, .int .i64 k, .int .i64 t, .int .i64 d, .int .i64 b] :: .bool true :: .bool false :: .tuple #[.string ps, .bool true] :: .pointer (some ⟨g, 0, none⟩) :: .int .i64 q :: .pointer (some ⟨g, 1, none⟩) :: .int .i64 m :: .pointer (some ⟨g, 2, none⟩) :: .pointer (some ⟨g, 2, none⟩) :: .int .i64 r :: .pointer (some ⟨g, 2, none⟩) :: .pointer (some ⟨g, 3, none⟩) :: .int .i64 v :: .pointer (some ⟨g, 2, none⟩) :: .pointer (some ⟨g, 4, none⟩) :: .int .i64 k :: .pointer (some ⟨g, 5, none⟩) :: .pointer (some ⟨g, 5, none⟩) :: .int .i64 t :: .pointer (some ⟨g, 5, none⟩) :: .pointer (some ⟨g, 6, none⟩) :: .int .i64 d :: .pointer (some ⟨g, 5, none⟩) :: .pointer (some ⟨g, 7, none⟩) :: .int .i64 b :: .slice (some ⟨s0, 0, none⟩) 8 8 :: .slice B2 8 c2 :: .tuple #[.string ps, .bool true] :: .string ps :: .bool true :: undef :: undef :: undef :: undef :: []))) hdf hsz (fun s_ hs_ => match s_, hs_ with
          | 0, _ => hOO 0 (by kernel_rfl)
          | 1, _ => hOO 1 (by kernel_rfl)
          | 2, _ => hOO 2 (by kernel_rfl)
          | 3, _ => hOO 3 (by kernel_rfl)
          | 4, _ => (hDD 28 (by omega)).trans e28
          | 5, _ => f5
          | 6, _ => hOO 6 (by kernel_rfl)
          | 7, _ => hOO 7 (by kernel_rfl)
          | 8, _ => hOO 8 (by kernel_rfl)
          | 9, _ => (hDD 25 (by omega)).trans e25
          | 10, _ => (hDD 0 (by omega)).trans e0
          | 11, _ => (hDD 1 (by omega)).trans e1
          | 12, _ => (hDD 2 (by omega)).trans e2
          | 13, _ => (hDD 3 (by omega)).trans e3
          | 14, _ => (hDD 4 (by omega)).trans e4
          | 15, _ => (hDD 5 (by omega)).trans e5
          | 16, _ => (hDD 6 (by omega)).trans e6
          | 17, _ => (hDD 7 (by omega)).trans e7
          | 18, _ => (hDD 8 (by omega)).trans e8
          | 19, _ => (hDD 9 (by omega)).trans e9
          | 20, _ => (hDD 10 (by omega)).trans e10
          | 21, _ => (hDD 11 (by omega)).trans e11
          | 22, _ => (hDD 12 (by omega)).trans e12
          | 23, _ => (hDD 13 (by omega)).trans e13
          | 24, _ => (hDD 14 (by omega)).trans e14
          | 25, _ => (hDD 15 (by omega)).trans e15
          | 26, _ => (hDD 16 (by omega)).trans e16
          | 27, _ => (hDD 17 (by omega)).trans e17
          | 28, _ => (hDD 18 (by omega)).trans e18
          | 29, _ => (hDD 19 (by omega)).trans e19
          | 30, _ => (hDD 20 (by omega)).trans e20
          | 31, _ => (hDD 21 (by omega)).trans e21
          | 32, _ => f32
          | 33, _ => f33
          | 34, _ => (hDD 24 (by omega)).trans e24
          | 35, _ => (hDD 26 (by omega)).trans e26
          | 36, _ => (hDD 27 (by omega)).trans e27
          | 37, _ => hOO 37 (by kernel_rfl)
          | 38, _ => hOO 38 (by kernel_rfl)
          | 39, _ => hOO 39 (by kernel_rfl)
          | 40, _ => hOO 40 (by kernel_rfl)
          | (k_ + 41), h_ => absurd h_ (by simp))
      have Y_g := HB_g _ hE
      clear hDD hOO hO hsz hdf e0 e1 e2 e3 e4 e5 e6 e7 e8 e9 e10 e11 e12 e13 e14 e15 e16 e17 e18 e19 e20 e21 e24 e25 e26 e27 e28 f32 f33 f5 HB_g
      have A3 := Lib.hid (below_call (Below.drew A1) hE)
      clear hE Bs0 hi2 Y_g A1
      go_wp2_with (fail)
      refine (HS.out _).mono ?_
      rintro e w4 ⟨rfl, hb⟩
      have A4 := Lib.hid (below_call A3.out hb)
      clear hb A3
      go_wp2
      all_goals go_ret2
      all_goals exact ⟨rfl, A4.out⟩
end Go.Proofs.Ytagedifalinklaa

namespace Go.Proofs.Ytagedifalinklaa
open Go.RowKit
set_option linter.unusedVariables false
set_option linter.unusedSimpArgs false
set_option maxRecDepth 100000
attribute [local go_sem] cell_set_ite Near.cell Near.frozen
attribute [local go_sem ↓] Go.wp_at_zero Go.wp_at_succ

theorem Box.eight_setJ {w : World} {g : Nat} {v0 v1 v2 v3 v4 v5 v6 v7 : Value} (h : Box w g #[v0, v1, v2, v3, v4, v5, v6, v7]) (x0 x1 x2 x3 x4 x5 x6 x7 : Value) :
    Box ((((((((w.setCell ⟨g, 0, none⟩ x0).setCell ⟨g, 1, none⟩ x1).setCell ⟨g, 2, none⟩ x2).setCell ⟨g, 3, none⟩ x3).setCell ⟨g, 4, none⟩ x4).setCell ⟨g, 5, none⟩ x5).setCell ⟨g, 6, none⟩ x6).setCell ⟨g, 7, none⟩ x7) g #[x0, x1, x2, x3, x4, x5, x6, x7] := by
  have h0 := box_cast (cs' := #[x0, v1, v2, v3, v4, v5, v6, v7]) (Box.set h (i := 0) (by simp) x0) rfl
  have h1 := box_cast (cs' := #[x0, x1, v2, v3, v4, v5, v6, v7]) (Box.set h0 (i := 1) (by simp) x1) rfl
  have h2 := box_cast (cs' := #[x0, x1, x2, v3, v4, v5, v6, v7]) (Box.set h1 (i := 2) (by simp) x2) rfl
  have h3 := box_cast (cs' := #[x0, x1, x2, x3, v4, v5, v6, v7]) (Box.set h2 (i := 3) (by simp) x3) rfl
  have h4 := box_cast (cs' := #[x0, x1, x2, x3, x4, v5, v6, v7]) (Box.set h3 (i := 4) (by simp) x4) rfl
  have h5 := box_cast (cs' := #[x0, x1, x2, x3, x4, x5, v6, v7]) (Box.set h4 (i := 5) (by simp) x5) rfl
  have h6 := box_cast (cs' := #[x0, x1, x2, x3, x4, x5, x6, v7]) (Box.set h5 (i := 6) (by simp) x6) rfl
  have h7 := box_cast (cs' := #[x0, x1, x2, x3, x4, x5, x6, x7]) (Box.set h6 (i := 7) (by simp) x7) rfl
  exact h7

set_option maxHeartbeats 8000000 in
theorem rj_get (s : ByteArray) (w : World) (hs : s.size ≤ 1000000) :
    Calls Try.prog 10 #[.string s] w fun e w' => e = .returned (.tuple #[.agg #[.int .i64 (gtV s 0), .int .i64 (gtV s 1), .int .i64 (gtV s 2), .int .i64 (gtV s 3), .int .i64 (gtV s 4), .int .i64 (gtV s 5), .int .i64 (gtV s 6), .int .i64 (gtV s 7)], .bool (gtB s)]) ∧ Below w.heap.size w w' := by
  have A : Below w.heap.size w w := Below.refl _ _
  have HO := fun w => ref6_open s w (by omega)
  have ht : (toldB s).size ≤ 9223372036854775800 := by
    unfold toldB
    split
    · unfold insideB; rw [ByteArray.size_extract]; omega
    · exact Nat.zero_le _
  have HU := fun w B d (h : Ints w B 8 wsL) => ref7_unpack (toldB s) B 8 d wsL w h ht (by omega)
  have HO := fun w => (HO w).mono fun e w' h => (⟨h.1, h.2 ▸ Below.refl _ _⟩ : _ ∧ Below w.heap.size w w')
  cases ho : openB s
  · have hg : gtB s = false := by unfold gtB; rw [ho]; rfl
    simp only [hg, gt_none hg]
    rw [ho] at HO
    generalize toldB s = tt at *
    have HO := Lib.hid HO
    clear ho hg HU ht
    go_enter Try.func10, Try.ntmps10
    go_wp2_with (fail)
    refine (HO.out _).mono ?_
    rintro e w1 ⟨rfl, hb⟩
    replace A : Below w.heap.size w w1 := by (refine below_call ?_ hb; (repeat (first | (with_reducible exact Below.refl _ _) | (with_reducible assumption) | (with_reducible refine Near.up _ ?_) | (with_reducible refine Below.drew ?_) | (with_reducible refine below_alloc_on ?_ _) | (with_reducible refine below_set_on ?_ (by first | (simp; done) | (simp; omega) | omega) _))))
    replace R := Box.below (g := w.heap.size) (by (repeat (first | (with_reducible assumption) | (with_reducible exact box_new _ _ _) | ((with_reducible apply box_at); (first | (with_reducible rfl) | (simp <;> omega))) | (with_reducible apply Box.drew) | (with_reducible apply Box.drewN) | (with_reducible apply Box.near) | (with_reducible apply Box.alloc) | ((with_reducible apply box_far); (first | assumption | omega | (simp <;> omega))) | ((with_reducible apply Box.one_set); (with_reducible assumption)) | ((with_reducible apply Box.two_set); (with_reducible assumption)) | ((with_reducible apply Box.three_set); (with_reducible assumption)) | (with_reducible apply Box.set) | (simp only [List.size_toArray, List.length_cons, List.length_nil, Array.size_setIfInBounds] <;> omega)))) hb
    (try simp only [List.setIfInBounds_toArray, List.set_cons_zero, List.set_cons_succ] at R)
    (try clear cR fR)
    clear hb
    have z_w1 : w.heap.size ≤ w1.heap.size := A.size
    obtain ⟨lR_w1, cR, fR⟩ := id R
    go_wp2
    refine bodyPost_ret (v := .tuple #[.agg #[.int .i64 0, .int .i64 0, .int .i64 0, .int .i64 0, .int .i64 0, .int .i64 0, .int .i64 0, .int .i64 0], .bool false]) (by simp [results, Try.results10, go_sem, cR]) rfl ⟨rfl, by (repeat (first | (with_reducible exact Below.refl _ _) | (with_reducible assumption) | (with_reducible refine Near.up _ ?_) | (with_reducible refine Below.drew ?_) | (with_reducible refine below_alloc_on ?_ _) | (with_reducible refine below_set_on ?_ (by first | (simp; done) | (simp; omega) | omega) _)))⟩
  · rw [ho] at HO
    cases hu : upB (toldB s).data.toList wsL
    · have hg : gtB s = false := by unfold gtB; rw [ho, hu]; rfl
      simp only [hg, gt_none hg]
      rw [hu, up_none hu] at HU
      generalize toldB s = tt at *
      have HO := Lib.hid HO
      have HU := Lib.hid HU
      clear ho hg hu ht
      go_enter Try.func10, Try.ntmps10
      go_wp2_with (fail)
      refine (HO.out _).mono ?_
      rintro e w1 ⟨rfl, hb⟩
      replace A : Below w.heap.size w w1 := by (refine below_call ?_ hb; (repeat (first | (with_reducible exact Below.refl _ _) | (with_reducible assumption) | (with_reducible refine Near.up _ ?_) | (with_reducible refine Below.drew ?_) | (with_reducible refine below_alloc_on ?_ _) | (with_reducible refine below_set_on ?_ (by first | (simp; done) | (simp; omega) | omega) _))))
      replace R := Box.below (g := w.heap.size) (by (repeat (first | (with_reducible assumption) | (with_reducible exact box_new _ _ _) | ((with_reducible apply box_at); (first | (with_reducible rfl) | (simp <;> omega))) | (with_reducible apply Box.drew) | (with_reducible apply Box.drewN) | (with_reducible apply Box.near) | (with_reducible apply Box.alloc) | ((with_reducible apply box_far); (first | assumption | omega | (simp <;> omega))) | ((with_reducible apply Box.one_set); (with_reducible assumption)) | ((with_reducible apply Box.two_set); (with_reducible assumption)) | ((with_reducible apply Box.three_set); (with_reducible assumption)) | (with_reducible apply Box.set) | (simp only [List.size_toArray, List.length_cons, List.length_nil, Array.size_setIfInBounds] <;> omega)))) hb
      (try simp only [List.setIfInBounds_toArray, List.set_cons_zero, List.set_cons_succ] at R)
      (try clear cR fR)
      clear hb
      have z_w1 : w.heap.size ≤ w1.heap.size := A.size
      obtain ⟨lR_w1, cR, fR⟩ := id R
      go_wp2_with (fail)
      refine (rj_widths _).mono ?_
      rintro e w2 ⟨B2, c2, rfl, hc2, hi2, hb⟩
      replace A := below_call A hb
      replace R := R.below hb
      clear hb lR_w1 cR fR
      obtain ⟨lR_w2, cR, fR⟩ := id R
      go_wp2_with (fail)
      refine (HU.out _ _ _ hi2).mono ?_
      rintro e w3 ⟨B3, c3, rfl, hc3, hi3, hb⟩
      replace A := below_call A hb
      replace R := R.below hb
      clear hb lR_w2 cR fR
      obtain ⟨lR_w3, cR, fR⟩ := id R
      go_wp2
      refine bodyPost_ret (v := .tuple #[.agg #[.int .i64 0, .int .i64 0, .int .i64 0, .int .i64 0, .int .i64 0, .int .i64 0, .int .i64 0, .int .i64 0], .bool false]) (by simp [results, Try.results10, go_sem, cR]) rfl ⟨rfl, by (repeat (first | (with_reducible exact Below.refl _ _) | (with_reducible assumption) | (with_reducible refine Near.up _ ?_) | (with_reducible refine Below.drew ?_) | (with_reducible refine below_alloc_on ?_ _) | (with_reducible refine below_set_on ?_ (by first | (simp; done) | (simp; omega) | omega) _)))⟩
    · obtain ⟨y0, y1, y2, y3, y4, y5, y6, y7, hy⟩ : ∃ y0 y1 y2 y3 y4 y5 y6 y7, upV (toldB s).data.toList wsL = [y0, y1, y2, y3, y4, y5, y6, y7] := ⟨_, _, _, _, _, _, _, _, eight (by rw [(back_up hu).2.2.1]; rfl)⟩
      obtain ⟨hB, hV⟩ := gt_of ho hu hy
      rw [hB]
      rw [hu, hy] at HU
      have HR := Lib.hid (fun w => rj_right y0 y1 y2 y3 y4 y5 y6 y7 w)
      generalize toldB s = tt at *
      have HO := Lib.hid HO
      have HU := Lib.hid HU
      cases hr : enB y0 y1 y2 y3 y4 y5 y6 y7
      · have hg : gtB s = false := hB.trans hr
        simp only [gt_none hg]
        rw [hr] at HR
        clear ho hu ht hy hB hV hr hg
        go_enter Try.func10, Try.ntmps10
        go_wp2_with (fail)
        refine (HO.out _).mono ?_
        rintro e w1 ⟨rfl, hb⟩
        replace A : Below w.heap.size w w1 := by (refine below_call ?_ hb; (repeat (first | (with_reducible exact Below.refl _ _) | (with_reducible assumption) | (with_reducible refine Near.up _ ?_) | (with_reducible refine Below.drew ?_) | (with_reducible refine below_alloc_on ?_ _) | (with_reducible refine below_set_on ?_ (by first | (simp; done) | (simp; omega) | omega) _))))
        replace R := Box.below (g := w.heap.size) (by (repeat (first | (with_reducible assumption) | (with_reducible exact box_new _ _ _) | ((with_reducible apply box_at); (first | (with_reducible rfl) | (simp <;> omega))) | (with_reducible apply Box.drew) | (with_reducible apply Box.drewN) | (with_reducible apply Box.near) | (with_reducible apply Box.alloc) | ((with_reducible apply box_far); (first | assumption | omega | (simp <;> omega))) | ((with_reducible apply Box.one_set); (with_reducible assumption)) | ((with_reducible apply Box.two_set); (with_reducible assumption)) | ((with_reducible apply Box.three_set); (with_reducible assumption)) | (with_reducible apply Box.set) | (simp only [List.size_toArray, List.length_cons, List.length_nil, Array.size_setIfInBounds] <;> omega)))) hb
        (try simp only [List.setIfInBounds_toArray, List.set_cons_zero, List.set_cons_succ] at R)
        (try clear cR fR)
        clear hb
        have z_w1 : w.heap.size ≤ w1.heap.size := A.size
        obtain ⟨lR_w1, cR, fR⟩ := id R
        go_wp2_with (fail)
        refine (rj_widths _).mono ?_
        rintro e w2 ⟨B2, c2, rfl, hc2, hi2, hb⟩
        replace A := below_call A hb
        replace R := R.below hb
        clear hb lR_w1 cR fR
        obtain ⟨lR_w2, cR, fR⟩ := id R
        go_wp2_with (fail)
        refine (HU.out _ _ _ hi2).mono ?_
        rintro e w3 ⟨B3, c3, rfl, hc3, hi3, hb⟩
        replace A := below_call A hb
        replace R := R.below hb
        clear hb lR_w2 cR fR
        obtain ⟨lR_w3, cR, fR⟩ := id R
        obtain ⟨bb, off, rfl, hlt, hcc⟩ := hi3.2 (by simp)
        have HB0 : ∀ w', Below (World.drew w3).heap.size (World.drew w3) w' → ∀ i, i < 8 → w'.cell? ⟨bb, off + i, none⟩ = some ([.int .i64 y0, .int .i64 y1, .int .i64 y2, .int .i64 y3, .int .i64 y4, .int .i64 y5, .int .i64 y6, .int .i64 y7].getD i undef) := fun w' h i hi => (h.cell (p := ⟨bb, off + i, none⟩) hlt).trans ((hcc i hi).trans (by
          match i, hi with
          | 0, _ => rfl
          | 1, _ => rfl
          | 2, _ => rfl
          | 3, _ => rfl
          | 4, _ => rfl
          | 5, _ => rfl
          | 6, _ => rfl
          | 7, _ => rfl
          | (x + 8), h => exact absurd h (by omega)))
        clear hcc hlt hi2 hc2 hc3 HO HU lR_w3 cR fR hi3
        go_upto_region 7 with (fail)
        obtain ⟨g, hg⟩ : ∃ g, w.heap.size = g := ⟨_, rfl⟩
        rw [hg] at R
        simp only [hg]
        have og : w.heap.size ≤ g := by omega
        clear hg
        have HB_bb : ∀ w', Below (World.drew w3).heap.size (World.drew w3) w' → ∀ i, i < 8 → w'.cell? ⟨bb, off + i, none⟩ = some ([.int .i64 y0, .int .i64 y1, .int .i64 y2, .int .i64 y3, .int .i64 y4, .int .i64 y5, .int .i64 y6, .int .i64 y7].getD i undef) := HB0
        have HB_g : ∀ w', Below (World.drew w3).heap.size (World.drew w3) w' → Box w' g #[.int .i64 0, .int .i64 0, .int .i64 0, .int .i64 0, .int .i64 0, .int .i64 0, .int .i64 0, .int .i64 0] := fun w' h => (show Box (World.drew w3) g #[.int .i64 0, .int .i64 0, .int .i64 0, .int .i64 0, .int .i64 0, .int .i64 0, .int .i64 0, .int .i64 0] from R).below h
        obtain ⟨cs, hcs⟩ : ∃ cs : Nat → Value, (fun i => match i with
          | 0 => .slice (some ⟨bb, off, none⟩) 8 c3
          | 1 => .pointer (some ⟨bb, off, none⟩)
          | 2 => .int .i64 y0
          | 3 => .slice (some ⟨bb, off, none⟩) 8 c3
          | 4 => .pointer (some ⟨bb, off + 1, none⟩)
          | 5 => .int .i64 y1
          | 6 => .slice (some ⟨bb, off, none⟩) 8 c3
          | 7 => .pointer (some ⟨bb, off + 2, none⟩)
          | 8 => .int .i64 y2
          | 9 => .slice (some ⟨bb, off, none⟩) 8 c3
          | 10 => .pointer (some ⟨bb, off + 3, none⟩)
          | 11 => .int .i64 y3
          | 12 => .slice (some ⟨bb, off, none⟩) 8 c3
          | 13 => .pointer (some ⟨bb, off + 4, none⟩)
          | 14 => .int .i64 y4
          | 15 => .agg #[.int .i64 y2, .int .i64 y3, .int .i64 y4]
          | 16 => .slice (some ⟨bb, off, none⟩) 8 c3
          | 17 => .pointer (some ⟨bb, off + 5, none⟩)
          | 18 => .int .i64 y5
          | 19 => .slice (some ⟨bb, off, none⟩) 8 c3
          | 20 => .pointer (some ⟨bb, off + 6, none⟩)
          | 21 => .int .i64 y6
          | 22 => .slice (some ⟨bb, off, none⟩) 8 c3
          | 23 => .pointer (some ⟨bb, off + 7, none⟩)
          | 24 => .int .i64 y7
          | 25 => .agg #[.int .i64 y5, .int .i64 y6, .int .i64 y7]
          | 26 => .agg #[.int .i64 y0, .int .i64 y1, .int .i64 y2, .int .i64 y3, .int .i64 y4, .int .i64 y5, .int .i64 y6, .int .i64 y7]
          | _ => undef) = cs := ⟨_, rfl⟩
        have e0 : cs 0 = .slice (some ⟨bb, off, none⟩) 8 c3 := by rw [← hcs]; rfl
        have e1 : cs 1 = .pointer (some ⟨bb, off, none⟩) := by rw [← hcs]; rfl
        have e2 : cs 2 = .int .i64 y0 := by rw [← hcs]; rfl
        have e3 : cs 3 = .slice (some ⟨bb, off, none⟩) 8 c3 := by rw [← hcs]; rfl
        have e4 : cs 4 = .pointer (some ⟨bb, off + 1, none⟩) := by rw [← hcs]; rfl
        have e5 : cs 5 = .int .i64 y1 := by rw [← hcs]; rfl
        have e6 : cs 6 = .slice (some ⟨bb, off, none⟩) 8 c3 := by rw [← hcs]; rfl
        have e7 : cs 7 = .pointer (some ⟨bb, off + 2, none⟩) := by rw [← hcs]; rfl
        have e8 : cs 8 = .int .i64 y2 := by rw [← hcs]; rfl
        have e9 : cs 9 = .slice (some ⟨bb, off, none⟩) 8 c3 := by rw [← hcs]; rfl
        have e10 : cs 10 = .pointer (some ⟨bb, off + 3, none⟩) := by rw [← hcs]; rfl
        have e11 : cs 11 = .int .i64 y3 := by rw [← hcs]; rfl
        have e12 : cs 12 = .slice (some ⟨bb, off, none⟩) 8 c3 := by rw [← hcs]; rfl
        have e13 : cs 13 = .pointer (some ⟨bb, off + 4, none⟩) := by rw [← hcs]; rfl
        have e14 : cs 14 = .int .i64 y4 := by rw [← hcs]; rfl
        have e15 : cs 15 = .agg #[.int .i64 y2, .int .i64 y3, .int .i64 y4] := by rw [← hcs]; rfl
        have e16 : cs 16 = .slice (some ⟨bb, off, none⟩) 8 c3 := by rw [← hcs]; rfl
        have e17 : cs 17 = .pointer (some ⟨bb, off + 5, none⟩) := by rw [← hcs]; rfl
        have e18 : cs 18 = .int .i64 y5 := by rw [← hcs]; rfl
        have e19 : cs 19 = .slice (some ⟨bb, off, none⟩) 8 c3 := by rw [← hcs]; rfl
        have e20 : cs 20 = .pointer (some ⟨bb, off + 6, none⟩) := by rw [← hcs]; rfl
        have e21 : cs 21 = .int .i64 y6 := by rw [← hcs]; rfl
        have e22 : cs 22 = .slice (some ⟨bb, off, none⟩) 8 c3 := by rw [← hcs]; rfl
        have e23 : cs 23 = .pointer (some ⟨bb, off + 7, none⟩) := by rw [← hcs]; rfl
        have e24 : cs 24 = .int .i64 y7 := by rw [← hcs]; rfl
        have e25 : cs 25 = .agg #[.int .i64 y5, .int .i64 y6, .int .i64 y7] := by rw [← hcs]; rfl
        have e26 : cs 26 = .agg #[.int .i64 y0, .int .i64 y1, .int .i64 y2, .int .i64 y3, .int .i64 y4, .int .i64 y5, .int .i64 y6, .int .i64 y7] := by rw [← hcs]; rfl
        clear hcs
        refine wp_region_loose 28 58 (by as_aux_lemma => kernel_rfl) (by as_aux_lemma => kernel_rfl) rfl (fun w w' => Below w.heap.size w w') (fun w => Below.refl _ _) (fun a b c h g => below_call h g)
          (looseD (fun i => if i = 27 then some (fun vv ww => ∃ q_, vv = .pointer (some ⟨q_, 0, none⟩) ∧ g < q_ ∧ Box ww q_ #[.int .i64 0, .int .i64 0, .int .i64 0, .int .i64 0, .int .i64 0, .int .i64 0, .int .i64 0, .int .i64 0] ∧ ww.heap[q_]? = some (.cells #[.int .i64 0, .int .i64 0, .int .i64 0, .int .i64 0, .int .i64 0, .int .i64 0, .int .i64 0, .int .i64 0] 27 (0, 0))) else none) cs)
          (fun _ _ _ => True) (looseD_stable ?_) (fun _ _ _ _ _ _ _ _ => trivial) trivial ?_ ?_
        · intro i p hp v u u' h hE
          split at hp
          · cases hp; obtain ⟨q, h1, h2, h3, h4⟩ := h; exact ⟨q, h1, h2, h3.below hE, (hE.block q h3.1).trans h4⟩
          · skip
            cases hp
        · simp only [List.take_succ_cons, List.take_zero]
          refine looseAll_cons (k := 1) rfl (fun a u L hE hev hkn _ _ => ?_) ?_
          · have kc : ∀ c, a.eval (.const c) = c := fun _ => rfl
            have kf : ∀ f, a.eval (.func f) = .func (.func f) #[] #[] := fun _ => rfl
            have t6 : a.eval (.tmp 6) = .slice (some ⟨bb, off, none⟩) 8 c3 := hev 6 (by kernel_rfl)
            exact loose_val rfl (v := .slice (some ⟨bb, off, none⟩) 8 c3) (by generalize a.eval = ev at *; simp [go_sem, kc, kf, t6]) ⟨Below.refl _ _, e0.symm, trivial⟩
          refine looseAll_cons (k := 2) rfl (fun a u L hE hev hkn _ _ => ?_) ?_
          · have kc : ∀ c, a.eval (.const c) = c := fun _ => rfl
            have kf : ∀ f, a.eval (.func f) = .func (.func f) #[] #[] := fun _ => rfl
            have t26 : a.eval (.tmp 26) = .slice (some ⟨bb, off, none⟩) 8 c3 := (hkn 0 (by kernel_rfl) : a.eval (.tmp 26) = cs 0).trans e0
            exact loose_val rfl (v := .pointer (some ⟨bb, off, none⟩)) (by generalize a.eval = ev at *; simp [go_sem, kc, kf, t26]) ⟨Below.refl _ _, e1.symm, trivial⟩
          refine looseAll_cons (k := 3) rfl (fun a u L hE hev hkn _ _ => ?_) ?_
          · have kc : ∀ c, a.eval (.const c) = c := fun _ => rfl
            have kf : ∀ f, a.eval (.func f) = .func (.func f) #[] #[] := fun _ => rfl
            have C_bb : u.cell? ⟨bb, off, none⟩ = some (.int .i64 y0) := HB_bb u hE 0 (by omega)
            have t27 : a.eval (.tmp 27) = .pointer (some ⟨bb, off, none⟩) := (hkn 1 (by kernel_rfl) : a.eval (.tmp 27) = cs 1).trans e1
            exact loose_val rfl (v := .int .i64 y0) (by generalize a.eval = ev at *; simp [go_sem, kc, kf, t27, C_bb]) ⟨Below.refl _ _, e2.symm, trivial⟩
          refine looseAll_cons (k := 4) rfl (fun a u L hE hev hkn _ _ => ?_) ?_
          · have kc : ∀ c, a.eval (.const c) = c := fun _ => rfl
            have kf : ∀ f, a.eval (.func f) = .func (.func f) #[] #[] := fun _ => rfl
            have t6 : a.eval (.tmp 6) = .slice (some ⟨bb, off, none⟩) 8 c3 := hev 6 (by kernel_rfl)
            exact loose_val rfl (v := .slice (some ⟨bb, off, none⟩) 8 c3) (by generalize a.eval = ev at *; simp [go_sem, kc, kf, t6]) ⟨Below.refl _ _, e3.symm, trivial⟩
          refine looseAll_cons (k := 5) rfl (fun a u L hE hev hkn _ _ => ?_) ?_
          · have kc : ∀ c, a.eval (.const c) = c := fun _ => rfl
            have kf : ∀ f, a.eval (.func f) = .func (.func f) #[] #[] := fun _ => rfl
            have t29 : a.eval (.tmp 29) = .slice (some ⟨bb, off, none⟩) 8 c3 := (hkn 3 (by kernel_rfl) : a.eval (.tmp 29) = cs 3).trans e3
            exact loose_val rfl (v := .pointer (some ⟨bb, off + 1, none⟩)) (by generalize a.eval = ev at *; simp [go_sem, kc, kf, t29]) ⟨Below.refl _ _, e4.symm, trivial⟩
          refine looseAll_cons (k := 6) rfl (fun a u L hE hev hkn _ _ => ?_) ?_
          · have kc : ∀ c, a.eval (.const c) = c := fun _ => rfl
            have kf : ∀ f, a.eval (.func f) = .func (.func f) #[] #[] := fun _ => rfl
            have C_bb : u.cell? ⟨bb, off + 1, none⟩ = some (.int .i64 y1) := HB_bb u hE 1 (by omega)
            have t30 : a.eval (.tmp 30) = .pointer (some ⟨bb, off + 1, none⟩) := (hkn 4 (by kernel_rfl) : a.eval (.tmp 30) = cs 4).trans e4
            exact loose_val rfl (v := .int .i64 y1) (by generalize a.eval = ev at *; simp [go_sem, kc, kf, t30, C_bb]) ⟨Below.refl _ _, e5.symm, trivial⟩
          refine looseAll_cons (k := 7) rfl (fun a u L hE hev hkn _ _ => ?_) ?_
          · have kc : ∀ c, a.eval (.const c) = c := fun _ => rfl
            have kf : ∀ f, a.eval (.func f) = .func (.func f) #[] #[] := fun _ => rfl
            have t6 : a.eval (.tmp 6) = .slice (some ⟨bb, off, none⟩) 8 c3 := hev 6 (by kernel_rfl)
            exact loose_val rfl (v := .slice (some ⟨bb, off, none⟩) 8 c3) (by generalize a.eval = ev at *; simp [go_sem, kc, kf, t6]) ⟨Below.refl _ _, e6.symm, trivial⟩
          refine looseAll_cons (k := 8) rfl (fun a u L hE hev hkn _ _ => ?_) ?_
          · have kc : ∀ c, a.eval (.const c) = c := fun _ => rfl
            have kf : ∀ f, a.eval (.func f) = .func (.func f) #[] #[] := fun _ => rfl
            have t32 : a.eval (.tmp 32) = .slice (some ⟨bb, off, none⟩) 8 c3 := (hkn 6 (by kernel_rfl) : a.eval (.tmp 32) = cs 6).trans e6
            exact loose_val rfl (v := .pointer (some ⟨bb, off + 2, none⟩)) (by generalize a.eval = ev at *; simp [go_sem, kc, kf, t32]) ⟨Below.refl _ _, e7.symm, trivial⟩
          refine looseAll_cons (k := 9) rfl (fun a u L hE hev hkn _ _ => ?_) ?_
          · have kc : ∀ c, a.eval (.const c) = c := fun _ => rfl
            have kf : ∀ f, a.eval (.func f) = .func (.func f) #[] #[] := fun _ => rfl
            have C_bb : u.cell? ⟨bb, off + 2, none⟩ = some (.int .i64 y2) := HB_bb u hE 2 (by omega)
            have t33 : a.eval (.tmp 33) = .pointer (some ⟨bb, off + 2, none⟩) := (hkn 7 (by kernel_rfl) : a.eval (.tmp 33) = cs 7).trans e7
            exact loose_val rfl (v := .int .i64 y2) (by generalize a.eval = ev at *; simp [go_sem, kc, kf, t33, C_bb]) ⟨Below.refl _ _, e8.symm, trivial⟩
          refine looseAll_cons (k := 10) rfl (fun a u L hE hev hkn _ _ => ?_) ?_
          · have kc : ∀ c, a.eval (.const c) = c := fun _ => rfl
            have kf : ∀ f, a.eval (.func f) = .func (.func f) #[] #[] := fun _ => rfl
            have t6 : a.eval (.tmp 6) = .slice (some ⟨bb, off, none⟩) 8 c3 := hev 6 (by kernel_rfl)
            exact loose_val rfl (v := .slice (some ⟨bb, off, none⟩) 8 c3) (by generalize a.eval = ev at *; simp [go_sem, kc, kf, t6]) ⟨Below.refl _ _, e9.symm, trivial⟩
          refine looseAll_cons (k := 11) rfl (fun a u L hE hev hkn _ _ => ?_) ?_
          · have kc : ∀ c, a.eval (.const c) = c := fun _ => rfl
            have kf : ∀ f, a.eval (.func f) = .func (.func f) #[] #[] := fun _ => rfl
            have t35 : a.eval (.tmp 35) = .slice (some ⟨bb, off, none⟩) 8 c3 := (hkn 9 (by kernel_rfl) : a.eval (.tmp 35) = cs 9).trans e9
            exact loose_val rfl (v := .pointer (some ⟨bb, off + 3, none⟩)) (by generalize a.eval = ev at *; simp [go_sem, kc, kf, t35]) ⟨Below.refl _ _, e10.symm, trivial⟩
          refine looseAll_cons (k := 12) rfl (fun a u L hE hev hkn _ _ => ?_) ?_
          · have kc : ∀ c, a.eval (.const c) = c := fun _ => rfl
            have kf : ∀ f, a.eval (.func f) = .func (.func f) #[] #[] := fun _ => rfl
            have C_bb : u.cell? ⟨bb, off + 3, none⟩ = some (.int .i64 y3) := HB_bb u hE 3 (by omega)
            have t36 : a.eval (.tmp 36) = .pointer (some ⟨bb, off + 3, none⟩) := (hkn 10 (by kernel_rfl) : a.eval (.tmp 36) = cs 10).trans e10
            exact loose_val rfl (v := .int .i64 y3) (by generalize a.eval = ev at *; simp [go_sem, kc, kf, t36, C_bb]) ⟨Below.refl _ _, e11.symm, trivial⟩
          refine looseAll_cons (k := 13) rfl (fun a u L hE hev hkn _ _ => ?_) ?_
          · have kc : ∀ c, a.eval (.const c) = c := fun _ => rfl
            have kf : ∀ f, a.eval (.func f) = .func (.func f) #[] #[] := fun _ => rfl
            have t6 : a.eval (.tmp 6) = .slice (some ⟨bb, off, none⟩) 8 c3 := hev 6 (by kernel_rfl)
            exact loose_val rfl (v := .slice (some ⟨bb, off, none⟩) 8 c3) (by generalize a.eval = ev at *; simp [go_sem, kc, kf, t6]) ⟨Below.refl _ _, e12.symm, trivial⟩
          refine looseAll_cons (k := 14) rfl (fun a u L hE hev hkn _ _ => ?_) ?_
          · have kc : ∀ c, a.eval (.const c) = c := fun _ => rfl
            have kf : ∀ f, a.eval (.func f) = .func (.func f) #[] #[] := fun _ => rfl
            have t38 : a.eval (.tmp 38) = .slice (some ⟨bb, off, none⟩) 8 c3 := (hkn 12 (by kernel_rfl) : a.eval (.tmp 38) = cs 12).trans e12
            exact loose_val rfl (v := .pointer (some ⟨bb, off + 4, none⟩)) (by generalize a.eval = ev at *; simp [go_sem, kc, kf, t38]) ⟨Below.refl _ _, e13.symm, trivial⟩
          refine looseAll_cons (k := 15) rfl (fun a u L hE hev hkn _ _ => ?_) ?_
          · have kc : ∀ c, a.eval (.const c) = c := fun _ => rfl
            have kf : ∀ f, a.eval (.func f) = .func (.func f) #[] #[] := fun _ => rfl
            have C_bb : u.cell? ⟨bb, off + 4, none⟩ = some (.int .i64 y4) := HB_bb u hE 4 (by omega)
            have t39 : a.eval (.tmp 39) = .pointer (some ⟨bb, off + 4, none⟩) := (hkn 13 (by kernel_rfl) : a.eval (.tmp 39) = cs 13).trans e13
            exact loose_val rfl (v := .int .i64 y4) (by generalize a.eval = ev at *; simp [go_sem, kc, kf, t39, C_bb]) ⟨Below.refl _ _, e14.symm, trivial⟩
          refine looseAll_cons (k := 16) rfl (fun a u L hE hev hkn _ _ => ?_) ?_
          · have kc : ∀ c, a.eval (.const c) = c := fun _ => rfl
            have kf : ∀ f, a.eval (.func f) = .func (.func f) #[] #[] := fun _ => rfl
            have t34 : a.eval (.tmp 34) = .int .i64 y2 := (hkn 8 (by kernel_rfl) : a.eval (.tmp 34) = cs 8).trans e8
            have t37 : a.eval (.tmp 37) = .int .i64 y3 := (hkn 11 (by kernel_rfl) : a.eval (.tmp 37) = cs 11).trans e11
            have t40 : a.eval (.tmp 40) = .int .i64 y4 := (hkn 14 (by kernel_rfl) : a.eval (.tmp 40) = cs 14).trans e14
            exact loose_val rfl (v := .agg #[.int .i64 y2, .int .i64 y3, .int .i64 y4]) (by generalize a.eval = ev at *; simp [go_sem, kc, kf, t34, t37, t40]) ⟨Below.refl _ _, e15.symm, trivial⟩
          refine looseAll_cons (k := 17) rfl (fun a u L hE hev hkn _ _ => ?_) ?_
          · have kc : ∀ c, a.eval (.const c) = c := fun _ => rfl
            have kf : ∀ f, a.eval (.func f) = .func (.func f) #[] #[] := fun _ => rfl
            have t6 : a.eval (.tmp 6) = .slice (some ⟨bb, off, none⟩) 8 c3 := hev 6 (by kernel_rfl)
            exact loose_val rfl (v := .slice (some ⟨bb, off, none⟩) 8 c3) (by generalize a.eval = ev at *; simp [go_sem, kc, kf, t6]) ⟨Below.refl _ _, e16.symm, trivial⟩
          refine looseAll_cons (k := 18) rfl (fun a u L hE hev hkn _ _ => ?_) ?_
          · have kc : ∀ c, a.eval (.const c) = c := fun _ => rfl
            have kf : ∀ f, a.eval (.func f) = .func (.func f) #[] #[] := fun _ => rfl
            have t42 : a.eval (.tmp 42) = .slice (some ⟨bb, off, none⟩) 8 c3 := (hkn 16 (by kernel_rfl) : a.eval (.tmp 42) = cs 16).trans e16
            exact loose_val rfl (v := .pointer (some ⟨bb, off + 5, none⟩)) (by generalize a.eval = ev at *; simp [go_sem, kc, kf, t42]) ⟨Below.refl _ _, e17.symm, trivial⟩
          refine looseAll_cons (k := 19) rfl (fun a u L hE hev hkn _ _ => ?_) ?_
          · have kc : ∀ c, a.eval (.const c) = c := fun _ => rfl
            have kf : ∀ f, a.eval (.func f) = .func (.func f) #[] #[] := fun _ => rfl
            have C_bb : u.cell? ⟨bb, off + 5, none⟩ = some (.int .i64 y5) := HB_bb u hE 5 (by omega)
            have t43 : a.eval (.tmp 43) = .pointer (some ⟨bb, off + 5, none⟩) := (hkn 17 (by kernel_rfl) : a.eval (.tmp 43) = cs 17).trans e17
            exact loose_val rfl (v := .int .i64 y5) (by generalize a.eval = ev at *; simp [go_sem, kc, kf, t43, C_bb]) ⟨Below.refl _ _, e18.symm, trivial⟩
          refine looseAll_cons (k := 20) rfl (fun a u L hE hev hkn _ _ => ?_) ?_
          · have kc : ∀ c, a.eval (.const c) = c := fun _ => rfl
            have kf : ∀ f, a.eval (.func f) = .func (.func f) #[] #[] := fun _ => rfl
            have t6 : a.eval (.tmp 6) = .slice (some ⟨bb, off, none⟩) 8 c3 := hev 6 (by kernel_rfl)
            exact loose_val rfl (v := .slice (some ⟨bb, off, none⟩) 8 c3) (by generalize a.eval = ev at *; simp [go_sem, kc, kf, t6]) ⟨Below.refl _ _, e19.symm, trivial⟩
          refine looseAll_cons (k := 21) rfl (fun a u L hE hev hkn _ _ => ?_) ?_
          · have kc : ∀ c, a.eval (.const c) = c := fun _ => rfl
            have kf : ∀ f, a.eval (.func f) = .func (.func f) #[] #[] := fun _ => rfl
            have t45 : a.eval (.tmp 45) = .slice (some ⟨bb, off, none⟩) 8 c3 := (hkn 19 (by kernel_rfl) : a.eval (.tmp 45) = cs 19).trans e19
            exact loose_val rfl (v := .pointer (some ⟨bb, off + 6, none⟩)) (by generalize a.eval = ev at *; simp [go_sem, kc, kf, t45]) ⟨Below.refl _ _, e20.symm, trivial⟩
          refine looseAll_cons (k := 22) rfl (fun a u L hE hev hkn _ _ => ?_) ?_
          · have kc : ∀ c, a.eval (.const c) = c := fun _ => rfl
            have kf : ∀ f, a.eval (.func f) = .func (.func f) #[] #[] := fun _ => rfl
            have C_bb : u.cell? ⟨bb, off + 6, none⟩ = some (.int .i64 y6) := HB_bb u hE 6 (by omega)
            have t46 : a.eval (.tmp 46) = .pointer (some ⟨bb, off + 6, none⟩) := (hkn 20 (by kernel_rfl) : a.eval (.tmp 46) = cs 20).trans e20
            exact loose_val rfl (v := .int .i64 y6) (by generalize a.eval = ev at *; simp [go_sem, kc, kf, t46, C_bb]) ⟨Below.refl _ _, e21.symm, trivial⟩
          refine looseAll_cons (k := 23) rfl (fun a u L hE hev hkn _ _ => ?_) ?_
          · have kc : ∀ c, a.eval (.const c) = c := fun _ => rfl
            have kf : ∀ f, a.eval (.func f) = .func (.func f) #[] #[] := fun _ => rfl
            have t6 : a.eval (.tmp 6) = .slice (some ⟨bb, off, none⟩) 8 c3 := hev 6 (by kernel_rfl)
            exact loose_val rfl (v := .slice (some ⟨bb, off, none⟩) 8 c3) (by generalize a.eval = ev at *; simp [go_sem, kc, kf, t6]) ⟨Below.refl _ _, e22.symm, trivial⟩
          refine looseAll_cons (k := 24) rfl (fun a u L hE hev hkn _ _ => ?_) ?_
          · have kc : ∀ c, a.eval (.const c) = c := fun _ => rfl
            have kf : ∀ f, a.eval (.func f) = .func (.func f) #[] #[] := fun _ => rfl
            have t48 : a.eval (.tmp 48) = .slice (some ⟨bb, off, none⟩) 8 c3 := (hkn 22 (by kernel_rfl) : a.eval (.tmp 48) = cs 22).trans e22
            exact loose_val rfl (v := .pointer (some ⟨bb, off + 7, none⟩)) (by generalize a.eval = ev at *; simp [go_sem, kc, kf, t48]) ⟨Below.refl _ _, e23.symm, trivial⟩
          refine looseAll_cons (k := 25) rfl (fun a u L hE hev hkn _ _ => ?_) ?_
          · have kc : ∀ c, a.eval (.const c) = c := fun _ => rfl
            have kf : ∀ f, a.eval (.func f) = .func (.func f) #[] #[] := fun _ => rfl
            have C_bb : u.cell? ⟨bb, off + 7, none⟩ = some (.int .i64 y7) := HB_bb u hE 7 (by omega)
            have t49 : a.eval (.tmp 49) = .pointer (some ⟨bb, off + 7, none⟩) := (hkn 23 (by kernel_rfl) : a.eval (.tmp 49) = cs 23).trans e23
            exact loose_val rfl (v := .int .i64 y7) (by generalize a.eval = ev at *; simp [go_sem, kc, kf, t49, C_bb]) ⟨Below.refl _ _, e24.symm, trivial⟩
          refine looseAll_cons (k := 26) rfl (fun a u L hE hev hkn _ _ => ?_) ?_
          · have kc : ∀ c, a.eval (.const c) = c := fun _ => rfl
            have kf : ∀ f, a.eval (.func f) = .func (.func f) #[] #[] := fun _ => rfl
            have t44 : a.eval (.tmp 44) = .int .i64 y5 := (hkn 18 (by kernel_rfl) : a.eval (.tmp 44) = cs 18).trans e18
            have t47 : a.eval (.tmp 47) = .int .i64 y6 := (hkn 21 (by kernel_rfl) : a.eval (.tmp 47) = cs 21).trans e21
            have t50 : a.eval (.tmp 50) = .int .i64 y7 := (hkn 24 (by kernel_rfl) : a.eval (.tmp 50) = cs 24).trans e24
            exact loose_val rfl (v := .agg #[.int .i64 y5, .int .i64 y6, .int .i64 y7]) (by generalize a.eval = ev at *; simp [go_sem, kc, kf, t44, t47, t50]) ⟨Below.refl _ _, e25.symm, trivial⟩
          refine looseAll_cons (k := 27) rfl (fun a u L hE hev hkn _ _ => ?_) ?_
          · have kc : ∀ c, a.eval (.const c) = c := fun _ => rfl
            have kf : ∀ f, a.eval (.func f) = .func (.func f) #[] #[] := fun _ => rfl
            have t28 : a.eval (.tmp 28) = .int .i64 y0 := (hkn 2 (by kernel_rfl) : a.eval (.tmp 28) = cs 2).trans e2
            have t31 : a.eval (.tmp 31) = .int .i64 y1 := (hkn 5 (by kernel_rfl) : a.eval (.tmp 31) = cs 5).trans e5
            have t41 : a.eval (.tmp 41) = .agg #[.int .i64 y2, .int .i64 y3, .int .i64 y4] := (hkn 15 (by kernel_rfl) : a.eval (.tmp 41) = cs 15).trans e15
            have t51 : a.eval (.tmp 51) = .agg #[.int .i64 y5, .int .i64 y6, .int .i64 y7] := (hkn 25 (by kernel_rfl) : a.eval (.tmp 51) = cs 25).trans e25
            exact loose_val rfl (v := .agg #[.int .i64 y0, .int .i64 y1, .int .i64 y2, .int .i64 y3, .int .i64 y4, .int .i64 y5, .int .i64 y6, .int .i64 y7]) (by generalize a.eval = ev at *; simp [go_sem, kc, kf, t28, t31, t41, t51]) ⟨Below.refl _ _, e26.symm, trivial⟩
          refine looseAll_cons (k := 28) rfl (fun a u L hE hev hkn _ _ => ?_) ?_
          · have kc : ∀ c, a.eval (.const c) = c := fun _ => rfl
            have kf : ∀ f, a.eval (.func f) = .func (.func f) #[] #[] := fun _ => rfl
            have hr := (HB_g u hE).1
            exact loose_val rfl (v := .pointer (some ⟨u.heap.size, 0, none⟩)) (w' := u.alloc (.cells #[.int .i64 0, .int .i64 0, .int .i64 0, .int .i64 0, .int .i64 0, .int .i64 0, .int .i64 0, .int .i64 0] 27)) (by generalize a.eval = ev at *; simp [go_sem, kc, kf]) ⟨below_alloc_on (Below.refl _ _) _, ⟨u.heap.size, rfl, hr, box_new _ _ _, heap_alloc_new _ _⟩, trivial⟩
          exact looseAll_nil
        · intro a w3 hE hsz hdf hO hDD _
          obtain ⟨p, f8, hqp, Bp, Hp⟩ : ∃ q_, (a.tmps.getD 8 undef) = .pointer (some ⟨q_, 0, none⟩) ∧ g < q_ ∧ Box w3 q_ #[.int .i64 0, .int .i64 0, .int .i64 0, .int .i64 0, .int .i64 0, .int .i64 0, .int .i64 0, .int .i64 0] ∧ w3.heap[q_]? = some (.cells #[.int .i64 0, .int .i64 0, .int .i64 0, .int .i64 0, .int .i64 0, .int .i64 0, .int .i64 0, .int .i64 0] 27 (0, 0)) := hDD 27 (by omega)
          have hOO : ∀ s_, isDst _ s_ = false → a.tmps.getD s_ undef = (List.toArray (.string s :: undef :: .pointer (some ⟨g, 0, none⟩) :: .bool false :: .string tt :: .bool true :: .slice (some ⟨bb, off, none⟩) 8 c3 :: .bool true :: undef :: .tuple #[.string tt, .bool true] :: .string s :: .tuple #[.string tt, .bool true] :: .string tt :: .bool true :: .bool true :: .bool false :: undef :: .tuple #[.slice (some ⟨bb, off, none⟩) 8 c3, .bool true] :: .string tt :: .slice B2 8 c2 :: .tuple #[.slice (some ⟨bb, off, none⟩) 8 c3, .bool true] :: .slice (some ⟨bb, off, none⟩) 8 c3 :: .bool true :: .bool true :: .bool false :: undef :: undef :: undef :: undef :: undef :: undef :: undef :: undef :: undef :: undef :: undef :: undef :: undef :: undef :: undef :: undef :: undef :: undef :: undef :: undef :: undef :: undef :: undef :: undef :: undef :: undef :: undef :: undef :: undef :: undef :: undef :: undef :: undef :: []) : Array Value).getD s_ undef := fun s_ h_ => by rw [Array.getD_eq_getD_getElem?, Array.getD_eq_getD_getElem?, hO s_ h_]
          obtain rfl := act_lit (ys := (List.toArray (.string s :: undef :: .pointer (some ⟨g, 0, none⟩) :: .bool false :: .string tt :: .bool true :: .slice (some ⟨bb, off, none⟩) 8 c3 :: .bool true :: .pointer (some ⟨p, 0, none⟩) :: .tuple #[.string tt, .bool true] :: .string s :: .tuple #[.string tt, .bool true] :: .string tt :: .bool true :: .bool true :: .bool false :: undef :: .tuple #[.slice (some ⟨bb, off, none⟩) 8 c3, .bool true] :: .string tt :: .slice B2 8 c2 :: .tuple #[.slice (some ⟨bb, off, none⟩) 8 c3, .bool true] :: .slice (some ⟨bb, off, none⟩) 8 c3 :: .bool true :: .bool true :: .bool false :: undef :: .slice (some ⟨bb, off, none⟩) 8 c3 :: .pointer (some ⟨bb, off, none⟩) :: .int .i64 y0 :: .slice (some ⟨bb, off, none⟩) 8 c3 :: .pointer (some ⟨bb, off + 1, none⟩) :: .int .i64 y1 :: .slice (some ⟨bb, off, none⟩) 8 c3 :: .pointer (some ⟨bb, off + 2, none⟩) :: .int .i64 y2 :: .slice (some ⟨bb, off, none⟩) 8 c3 :: .pointer (some ⟨bb, off + 3, none⟩) :: .int .i64 y3 :: .slice (some ⟨bb, off, none⟩) 8 c3 :: .pointer (some ⟨bb, off + 4, none⟩) :: .int .i64 y4 :: .agg #[.int .i64 y2, .int .i64 y3, .int .i64 y4] :: .slice (some ⟨bb, off, none⟩) 8 c3 :: .pointer (some ⟨bb, off + 5, none⟩) :: .int .i64 y5 :: .slice (some ⟨bb, off, none⟩) 8 c3 :: .pointer (some ⟨bb, off + 6, none⟩) :: .int .i64 y6 :: .slice (some ⟨bb, off, none⟩) 8 c3 :: .pointer (some ⟨bb, off + 7, none⟩) :: .int .i64 y7 :: .agg #[.int .i64 y5, .int .i64 y6, .int .i64 y7] :: .agg #[.int .i64 y0, .int .i64 y1, .int .i64 y2, .int .i64 y3, .int .i64 y4, .int .i64 y5, .int .i64 y6, .int .i64 y7] :: undef :: undef :: undef :: undef :: undef :: []))) hdf hsz (fun s_ hs_ => match s_, hs_ with
              | 0, _ => hOO 0 (by kernel_rfl)
              | 1, _ => hOO 1 (by kernel_rfl)
              | 2, _ => hOO 2 (by kernel_rfl)
              | 3, _ => hOO 3 (by kernel_rfl)
              | 4, _ => hOO 4 (by kernel_rfl)
              | 5, _ => hOO 5 (by kernel_rfl)
              | 6, _ => hOO 6 (by kernel_rfl)
              | 7, _ => hOO 7 (by kernel_rfl)
              | 8, _ => f8
              | 9, _ => hOO 9 (by kernel_rfl)
              | 10, _ => hOO 10 (by kernel_rfl)
              | 11, _ => hOO 11 (by kernel_rfl)
              | 12, _ => hOO 12 (by kernel_rfl)
              | 13, _ => hOO 13 (by kernel_rfl)
              | 14, _ => hOO 14 (by kernel_rfl)
              | 15, _ => hOO 15 (by kernel_rfl)
              | 16, _ => hOO 16 (by kernel_rfl)
              | 17, _ => hOO 17 (by kernel_rfl)
              | 18, _ => hOO 18 (by kernel_rfl)
              | 19, _ => hOO 19 (by kernel_rfl)
              | 20, _ => hOO 20 (by kernel_rfl)
              | 21, _ => hOO 21 (by kernel_rfl)
              | 22, _ => hOO 22 (by kernel_rfl)
              | 23, _ => hOO 23 (by kernel_rfl)
              | 24, _ => hOO 24 (by kernel_rfl)
              | 25, _ => hOO 25 (by kernel_rfl)
              | 26, _ => (hDD 0 (by omega)).trans e0
              | 27, _ => (hDD 1 (by omega)).trans e1
              | 28, _ => (hDD 2 (by omega)).trans e2
              | 29, _ => (hDD 3 (by omega)).trans e3
              | 30, _ => (hDD 4 (by omega)).trans e4
              | 31, _ => (hDD 5 (by omega)).trans e5
              | 32, _ => (hDD 6 (by omega)).trans e6
              | 33, _ => (hDD 7 (by omega)).trans e7
              | 34, _ => (hDD 8 (by omega)).trans e8
              | 35, _ => (hDD 9 (by omega)).trans e9
              | 36, _ => (hDD 10 (by omega)).trans e10
              | 37, _ => (hDD 11 (by omega)).trans e11
              | 38, _ => (hDD 12 (by omega)).trans e12
              | 39, _ => (hDD 13 (by omega)).trans e13
              | 40, _ => (hDD 14 (by omega)).trans e14
              | 41, _ => (hDD 15 (by omega)).trans e15
              | 42, _ => (hDD 16 (by omega)).trans e16
              | 43, _ => (hDD 17 (by omega)).trans e17
              | 44, _ => (hDD 18 (by omega)).trans e18
              | 45, _ => (hDD 19 (by omega)).trans e19
              | 46, _ => (hDD 20 (by omega)).trans e20
              | 47, _ => (hDD 21 (by omega)).trans e21
              | 48, _ => (hDD 22 (by omega)).trans e22
              | 49, _ => (hDD 23 (by omega)).trans e23
              | 50, _ => (hDD 24 (by omega)).trans e24
              | 51, _ => (hDD 25 (by omega)).trans e25
              | 52, _ => (hDD 26 (by omega)).trans e26
              | 53, _ => hOO 53 (by kernel_rfl)
              | 54, _ => hOO 54 (by kernel_rfl)
              | 55, _ => hOO 55 (by kernel_rfl)
              | 56, _ => hOO 56 (by kernel_rfl)
              | 57, _ => hOO 57 (by kernel_rfl)
              | (k_ + 58), h_ => absurd h_ (by simp))
          have Y_bb := HB_bb _ hE
          have Y_g := HB_g _ hE
          clear hDD hOO hO hsz hdf e0 e1 e2 e3 e4 e5 e6 e7 e8 e9 e10 e11 e12 e13 e14 e15 e16 e17 e18 e19 e20 e21 e22 e23 e24 e25 e26 f8 HB_bb HB_g
          have A4 := Lib.hid (below_call (Below.drew A) hE)
          have P8 := Lib.hid (Box.eight_setJ Bp (.int .i64 y0) (.int .i64 y1) (.int .i64 y2) (.int .i64 y3) (.int .i64 y4) (.int .i64 y5) (.int .i64 y6) (.int .i64 y7))
          have R8 := Lib.hid (Y_g)
          have pg : ¬ p = g := by omega
          have gp : ¬ g = p := by omega
          have pw : w.heap.size ≤ p := by omega
          have lq := Bp.1
          have cq := Bp.2.1
          have fq := Bp.2.2
          clear hE Hp Bp Y_bb Y_g R A
          go_upto_region 8 with (fail)
          refine at_world (fun W => Below w.heap.size w W ∧ Box W p #[.int .i64 y0, .int .i64 y1, .int .i64 y2, .int .i64 y3, .int .i64 y4, .int .i64 y5, .int .i64 y6, .int .i64 y7] ∧ Box W g #[.int .i64 0, .int .i64 0, .int .i64 0, .int .i64 0, .int .i64 0, .int .i64 0, .int .i64 0, .int .i64 0]) ⟨by (have A5 := A4.out); (repeat (first | (with_reducible exact Below.refl _ _) | (with_reducible assumption) | (with_reducible refine Near.up _ ?_) | (with_reducible refine Below.drew ?_) | (with_reducible refine below_alloc_on ?_ _) | (with_reducible refine below_set_on ?_ (by first | (simp; done) | (simp; omega) | omega) _))), P8.out, by (have R9 := R8.out); (repeat (first | (with_reducible assumption) | (with_reducible exact box_new _ _ _) | ((with_reducible apply box_at); (first | (with_reducible rfl) | (simp <;> omega))) | (with_reducible apply Box.drew) | (with_reducible apply Box.drewN) | (with_reducible apply Box.near) | (with_reducible apply Box.alloc) | ((with_reducible apply box_far); (first | assumption | omega | (simp <;> omega))) | ((with_reducible apply Box.one_set); (with_reducible assumption)) | ((with_reducible apply Box.two_set); (with_reducible assumption)) | ((with_reducible apply Box.three_set); (with_reducible assumption)) | (with_reducible apply Box.set) | (simp only [List.size_toArray, List.length_cons, List.length_nil, Array.size_setIfInBounds] <;> omega)))⟩ ?_
          clear A4 P8 R8 lq cq fq
          rintro w5 ⟨A5, P5, R5⟩
          obtain ⟨lP, cP, fP⟩ := id P5
          obtain ⟨lR, cR, fR⟩ := id R5
          go_wp2_with (fail)
          refine (HR.out _).mono ?_
          rintro e w6 ⟨rfl, hb⟩
          replace A5 := below_call A5 hb
          replace P5 := P5.below hb
          replace R5 := R5.below hb
          clear hb lP cP fP lR cR fR HR
          obtain ⟨lP, cP, fP⟩ := id P5
          obtain ⟨lR, cR, fR⟩ := id R5
          go_wp2
          refine bodyPost_ret (v := .tuple #[.agg #[.int .i64 0, .int .i64 0, .int .i64 0, .int .i64 0, .int .i64 0, .int .i64 0, .int .i64 0, .int .i64 0], .bool false]) (by simp [results, Try.results10, go_sem, cR, cP]) rfl ⟨rfl, by (repeat (first | (with_reducible exact Below.refl _ _) | (with_reducible assumption) | (with_reducible refine Near.up _ ?_) | (with_reducible refine Below.drew ?_) | (with_reducible refine below_alloc_on ?_ _) | (with_reducible refine below_set_on ?_ (by first | (simp; done) | (simp; omega) | omega) _)))⟩
      · obtain ⟨v0, v1, v2, v3, v4, v5, v6, v7⟩ := hV hr
        rw [v0, v1, v2, v3, v4, v5, v6, v7]
        rw [hr] at HR
        clear ho hu ht hy hB hV hr v0 v1 v2 v3 v4 v5 v6 v7
        go_enter Try.func10, Try.ntmps10
        go_wp2_with (fail)
        refine (HO.out _).mono ?_
        rintro e w1 ⟨rfl, hb⟩
        replace A : Below w.heap.size w w1 := by (refine below_call ?_ hb; (repeat (first | (with_reducible exact Below.refl _ _) | (with_reducible assumption) | (with_reducible refine Near.up _ ?_) | (with_reducible refine Below.drew ?_) | (with_reducible refine below_alloc_on ?_ _) | (with_reducible refine below_set_on ?_ (by first | (simp; done) | (simp; omega) | omega) _))))
        replace R := Box.below (g := w.heap.size) (by (repeat (first | (with_reducible assumption) | (with_reducible exact box_new _ _ _) | ((with_reducible apply box_at); (first | (with_reducible rfl) | (simp <;> omega))) | (with_reducible apply Box.drew) | (with_reducible apply Box.drewN) | (with_reducible apply Box.near) | (with_reducible apply Box.alloc) | ((with_reducible apply box_far); (first | assumption | omega | (simp <;> omega))) | ((with_reducible apply Box.one_set); (with_reducible assumption)) | ((with_reducible apply Box.two_set); (with_reducible assumption)) | ((with_reducible apply Box.three_set); (with_reducible assumption)) | (with_reducible apply Box.set) | (simp only [List.size_toArray, List.length_cons, List.length_nil, Array.size_setIfInBounds] <;> omega)))) hb
        (try simp only [List.setIfInBounds_toArray, List.set_cons_zero, List.set_cons_succ] at R)
        (try clear cR fR)
        clear hb
        have z_w1 : w.heap.size ≤ w1.heap.size := A.size
        obtain ⟨lR_w1, cR, fR⟩ := id R
        go_wp2_with (fail)
        refine (rj_widths _).mono ?_
        rintro e w2 ⟨B2, c2, rfl, hc2, hi2, hb⟩
        replace A := below_call A hb
        replace R := R.below hb
        clear hb lR_w1 cR fR
        obtain ⟨lR_w2, cR, fR⟩ := id R
        go_wp2_with (fail)
        refine (HU.out _ _ _ hi2).mono ?_
        rintro e w3 ⟨B3, c3, rfl, hc3, hi3, hb⟩
        replace A := below_call A hb
        replace R := R.below hb
        clear hb lR_w2 cR fR
        obtain ⟨lR_w3, cR, fR⟩ := id R
        obtain ⟨bb, off, rfl, hlt, hcc⟩ := hi3.2 (by simp)
        have HB0 : ∀ w', Below (World.drew w3).heap.size (World.drew w3) w' → ∀ i, i < 8 → w'.cell? ⟨bb, off + i, none⟩ = some ([.int .i64 y0, .int .i64 y1, .int .i64 y2, .int .i64 y3, .int .i64 y4, .int .i64 y5, .int .i64 y6, .int .i64 y7].getD i undef) := fun w' h i hi => (h.cell (p := ⟨bb, off + i, none⟩) hlt).trans ((hcc i hi).trans (by
          match i, hi with
          | 0, _ => rfl
          | 1, _ => rfl
          | 2, _ => rfl
          | 3, _ => rfl
          | 4, _ => rfl
          | 5, _ => rfl
          | 6, _ => rfl
          | 7, _ => rfl
          | (x + 8), h => exact absurd h (by omega)))
        clear hcc hlt hi2 hc2 hc3 HO HU lR_w3 cR fR hi3
        go_upto_region 7 with (fail)
        obtain ⟨g, hg⟩ : ∃ g, w.heap.size = g := ⟨_, rfl⟩
        rw [hg] at R
        simp only [hg]
        have og : w.heap.size ≤ g := by omega
        clear hg
        have HB_bb : ∀ w', Below (World.drew w3).heap.size (World.drew w3) w' → ∀ i, i < 8 → w'.cell? ⟨bb, off + i, none⟩ = some ([.int .i64 y0, .int .i64 y1, .int .i64 y2, .int .i64 y3, .int .i64 y4, .int .i64 y5, .int .i64 y6, .int .i64 y7].getD i undef) := HB0
        have HB_g : ∀ w', Below (World.drew w3).heap.size (World.drew w3) w' → Box w' g #[.int .i64 0, .int .i64 0, .int .i64 0, .int .i64 0, .int .i64 0, .int .i64 0, .int .i64 0, .int .i64 0] := fun w' h => (show Box (World.drew w3) g #[.int .i64 0, .int .i64 0, .int .i64 0, .int .i64 0, .int .i64 0, .int .i64 0, .int .i64 0, .int .i64 0] from R).below h
        obtain ⟨cs, hcs⟩ : ∃ cs : Nat → Value, (fun i => match i with
          | 0 => .slice (some ⟨bb, off, none⟩) 8 c3
          | 1 => .pointer (some ⟨bb, off, none⟩)
          | 2 => .int .i64 y0
          | 3 => .slice (some ⟨bb, off, none⟩) 8 c3
          | 4 => .pointer (some ⟨bb, off + 1, none⟩)
          | 5 => .int .i64 y1
          | 6 => .slice (some ⟨bb, off, none⟩) 8 c3
          | 7 => .pointer (some ⟨bb, off + 2, none⟩)
          | 8 => .int .i64 y2
          | 9 => .slice (some ⟨bb, off, none⟩) 8 c3
          | 10 => .pointer (some ⟨bb, off + 3, none⟩)
          | 11 => .int .i64 y3
          | 12 => .slice (some ⟨bb, off, none⟩) 8 c3
          | 13 => .pointer (some ⟨bb, off + 4, none⟩)
          | 14 => .int .i64 y4
          | 15 => .agg #[.int .i64 y2, .int .i64 y3, .int .i64 y4]
          | 16 => .slice (some ⟨bb, off, none⟩) 8 c3
          | 17 => .pointer (some ⟨bb, off + 5, none⟩)
          | 18 => .int .i64 y5
          | 19 => .slice (some ⟨bb, off, none⟩) 8 c3
          | 20 => .pointer (some ⟨bb, off + 6, none⟩)
          | 21 => .int .i64 y6
          | 22 => .slice (some ⟨bb, off, none⟩) 8 c3
          | 23 => .pointer (some ⟨bb, off + 7, none⟩)
          | 24 => .int .i64 y7
          | 25 => .agg #[.int .i64 y5, .int .i64 y6, .int .i64 y7]
          | 26 => .agg #[.int .i64 y0, .int .i64 y1, .int .i64 y2, .int .i64 y3, .int .i64 y4, .int .i64 y5, .int .i64 y6, .int .i64 y7]
          | _ => undef) = cs := ⟨_, rfl⟩
        have e0 : cs 0 = .slice (some ⟨bb, off, none⟩) 8 c3 := by rw [← hcs]; rfl
        have e1 : cs 1 = .pointer (some ⟨bb, off, none⟩) := by rw [← hcs]; rfl
        have e2 : cs 2 = .int .i64 y0 := by rw [← hcs]; rfl
        have e3 : cs 3 = .slice (some ⟨bb, off, none⟩) 8 c3 := by rw [← hcs]; rfl
        have e4 : cs 4 = .pointer (some ⟨bb, off + 1, none⟩) := by rw [← hcs]; rfl
        have e5 : cs 5 = .int .i64 y1 := by rw [← hcs]; rfl
        have e6 : cs 6 = .slice (some ⟨bb, off, none⟩) 8 c3 := by rw [← hcs]; rfl
        have e7 : cs 7 = .pointer (some ⟨bb, off + 2, none⟩) := by rw [← hcs]; rfl
        have e8 : cs 8 = .int .i64 y2 := by rw [← hcs]; rfl
        have e9 : cs 9 = .slice (some ⟨bb, off, none⟩) 8 c3 := by rw [← hcs]; rfl
        have e10 : cs 10 = .pointer (some ⟨bb, off + 3, none⟩) := by rw [← hcs]; rfl
        have e11 : cs 11 = .int .i64 y3 := by rw [← hcs]; rfl
        have e12 : cs 12 = .slice (some ⟨bb, off, none⟩) 8 c3 := by rw [← hcs]; rfl
        have e13 : cs 13 = .pointer (some ⟨bb, off + 4, none⟩) := by rw [← hcs]; rfl
        have e14 : cs 14 = .int .i64 y4 := by rw [← hcs]; rfl
        have e15 : cs 15 = .agg #[.int .i64 y2, .int .i64 y3, .int .i64 y4] := by rw [← hcs]; rfl
        have e16 : cs 16 = .slice (some ⟨bb, off, none⟩) 8 c3 := by rw [← hcs]; rfl
        have e17 : cs 17 = .pointer (some ⟨bb, off + 5, none⟩) := by rw [← hcs]; rfl
        have e18 : cs 18 = .int .i64 y5 := by rw [← hcs]; rfl
        have e19 : cs 19 = .slice (some ⟨bb, off, none⟩) 8 c3 := by rw [← hcs]; rfl
        have e20 : cs 20 = .pointer (some ⟨bb, off + 6, none⟩) := by rw [← hcs]; rfl
        have e21 : cs 21 = .int .i64 y6 := by rw [← hcs]; rfl
        have e22 : cs 22 = .slice (some ⟨bb, off, none⟩) 8 c3 := by rw [← hcs]; rfl
        have e23 : cs 23 = .pointer (some ⟨bb, off + 7, none⟩) := by rw [← hcs]; rfl
        have e24 : cs 24 = .int .i64 y7 := by rw [← hcs]; rfl
        have e25 : cs 25 = .agg #[.int .i64 y5, .int .i64 y6, .int .i64 y7] := by rw [← hcs]; rfl
        have e26 : cs 26 = .agg #[.int .i64 y0, .int .i64 y1, .int .i64 y2, .int .i64 y3, .int .i64 y4, .int .i64 y5, .int .i64 y6, .int .i64 y7] := by rw [← hcs]; rfl
        clear hcs
        refine wp_region_loose 28 58 (by as_aux_lemma => kernel_rfl) (by as_aux_lemma => kernel_rfl) rfl (fun w w' => Below w.heap.size w w') (fun w => Below.refl _ _) (fun a b c h g => below_call h g)
          (looseD (fun i => if i = 27 then some (fun vv ww => ∃ q_, vv = .pointer (some ⟨q_, 0, none⟩) ∧ g < q_ ∧ Box ww q_ #[.int .i64 0, .int .i64 0, .int .i64 0, .int .i64 0, .int .i64 0, .int .i64 0, .int .i64 0, .int .i64 0] ∧ ww.heap[q_]? = some (.cells #[.int .i64 0, .int .i64 0, .int .i64 0, .int .i64 0, .int .i64 0, .int .i64 0, .int .i64 0, .int .i64 0] 27 (0, 0))) else none) cs)
          (fun _ _ _ => True) (looseD_stable ?_) (fun _ _ _ _ _ _ _ _ => trivial) trivial ?_ ?_
        · intro i p hp v u u' h hE
          split at hp
          · cases hp; obtain ⟨q, h1, h2, h3, h4⟩ := h; exact ⟨q, h1, h2, h3.below hE, (hE.block q h3.1).trans h4⟩
          · skip
            cases hp
        · simp only [List.take_succ_cons, List.take_zero]
          refine looseAll_cons (k := 1) rfl (fun a u L hE hev hkn _ _ => ?_) ?_
          · have kc : ∀ c, a.eval (.const c) = c := fun _ => rfl
            have kf : ∀ f, a.eval (.func f) = .func (.func f) #[] #[] := fun _ => rfl
            have t6 : a.eval (.tmp 6) = .slice (some ⟨bb, off, none⟩) 8 c3 := hev 6 (by kernel_rfl)
            exact loose_val rfl (v := .slice (some ⟨bb, off, none⟩) 8 c3) (by generalize a.eval = ev at *; simp [go_sem, kc, kf, t6]) ⟨Below.refl _ _, e0.symm, trivial⟩
          refine looseAll_cons (k := 2) rfl (fun a u L hE hev hkn _ _ => ?_) ?_
          · have kc : ∀ c, a.eval (.const c) = c := fun _ => rfl
            have kf : ∀ f, a.eval (.func f) = .func (.func f) #[] #[] := fun _ => rfl
            have t26 : a.eval (.tmp 26) = .slice (some ⟨bb, off, none⟩) 8 c3 := (hkn 0 (by kernel_rfl) : a.eval (.tmp 26) = cs 0).trans e0
            exact loose_val rfl (v := .pointer (some ⟨bb, off, none⟩)) (by generalize a.eval = ev at *; simp [go_sem, kc, kf, t26]) ⟨Below.refl _ _, e1.symm, trivial⟩
          refine looseAll_cons (k := 3) rfl (fun a u L hE hev hkn _ _ => ?_) ?_
          · have kc : ∀ c, a.eval (.const c) = c := fun _ => rfl
            have kf : ∀ f, a.eval (.func f) = .func (.func f) #[] #[] := fun _ => rfl
            have C_bb : u.cell? ⟨bb, off, none⟩ = some (.int .i64 y0) := HB_bb u hE 0 (by omega)
            have t27 : a.eval (.tmp 27) = .pointer (some ⟨bb, off, none⟩) := (hkn 1 (by kernel_rfl) : a.eval (.tmp 27) = cs 1).trans e1
            exact loose_val rfl (v := .int .i64 y0) (by generalize a.eval = ev at *; simp [go_sem, kc, kf, t27, C_bb]) ⟨Below.refl _ _, e2.symm, trivial⟩
          refine looseAll_cons (k := 4) rfl (fun a u L hE hev hkn _ _ => ?_) ?_
          · have kc : ∀ c, a.eval (.const c) = c := fun _ => rfl
            have kf : ∀ f, a.eval (.func f) = .func (.func f) #[] #[] := fun _ => rfl
            have t6 : a.eval (.tmp 6) = .slice (some ⟨bb, off, none⟩) 8 c3 := hev 6 (by kernel_rfl)
            exact loose_val rfl (v := .slice (some ⟨bb, off, none⟩) 8 c3) (by generalize a.eval = ev at *; simp [go_sem, kc, kf, t6]) ⟨Below.refl _ _, e3.symm, trivial⟩
          refine looseAll_cons (k := 5) rfl (fun a u L hE hev hkn _ _ => ?_) ?_
          · have kc : ∀ c, a.eval (.const c) = c := fun _ => rfl
            have kf : ∀ f, a.eval (.func f) = .func (.func f) #[] #[] := fun _ => rfl
            have t29 : a.eval (.tmp 29) = .slice (some ⟨bb, off, none⟩) 8 c3 := (hkn 3 (by kernel_rfl) : a.eval (.tmp 29) = cs 3).trans e3
            exact loose_val rfl (v := .pointer (some ⟨bb, off + 1, none⟩)) (by generalize a.eval = ev at *; simp [go_sem, kc, kf, t29]) ⟨Below.refl _ _, e4.symm, trivial⟩
          refine looseAll_cons (k := 6) rfl (fun a u L hE hev hkn _ _ => ?_) ?_
          · have kc : ∀ c, a.eval (.const c) = c := fun _ => rfl
            have kf : ∀ f, a.eval (.func f) = .func (.func f) #[] #[] := fun _ => rfl
            have C_bb : u.cell? ⟨bb, off + 1, none⟩ = some (.int .i64 y1) := HB_bb u hE 1 (by omega)
            have t30 : a.eval (.tmp 30) = .pointer (some ⟨bb, off + 1, none⟩) := (hkn 4 (by kernel_rfl) : a.eval (.tmp 30) = cs 4).trans e4
            exact loose_val rfl (v := .int .i64 y1) (by generalize a.eval = ev at *; simp [go_sem, kc, kf, t30, C_bb]) ⟨Below.refl _ _, e5.symm, trivial⟩
          refine looseAll_cons (k := 7) rfl (fun a u L hE hev hkn _ _ => ?_) ?_
          · have kc : ∀ c, a.eval (.const c) = c := fun _ => rfl
            have kf : ∀ f, a.eval (.func f) = .func (.func f) #[] #[] := fun _ => rfl
            have t6 : a.eval (.tmp 6) = .slice (some ⟨bb, off, none⟩) 8 c3 := hev 6 (by kernel_rfl)
            exact loose_val rfl (v := .slice (some ⟨bb, off, none⟩) 8 c3) (by generalize a.eval = ev at *; simp [go_sem, kc, kf, t6]) ⟨Below.refl _ _, e6.symm, trivial⟩
          refine looseAll_cons (k := 8) rfl (fun a u L hE hev hkn _ _ => ?_) ?_
          · have kc : ∀ c, a.eval (.const c) = c := fun _ => rfl
            have kf : ∀ f, a.eval (.func f) = .func (.func f) #[] #[] := fun _ => rfl
            have t32 : a.eval (.tmp 32) = .slice (some ⟨bb, off, none⟩) 8 c3 := (hkn 6 (by kernel_rfl) : a.eval (.tmp 32) = cs 6).trans e6
            exact loose_val rfl (v := .pointer (some ⟨bb, off + 2, none⟩)) (by generalize a.eval = ev at *; simp [go_sem, kc, kf, t32]) ⟨Below.refl _ _, e7.symm, trivial⟩
          refine looseAll_cons (k := 9) rfl (fun a u L hE hev hkn _ _ => ?_) ?_
          · have kc : ∀ c, a.eval (.const c) = c := fun _ => rfl
            have kf : ∀ f, a.eval (.func f) = .func (.func f) #[] #[] := fun _ => rfl
            have C_bb : u.cell? ⟨bb, off + 2, none⟩ = some (.int .i64 y2) := HB_bb u hE 2 (by omega)
            have t33 : a.eval (.tmp 33) = .pointer (some ⟨bb, off + 2, none⟩) := (hkn 7 (by kernel_rfl) : a.eval (.tmp 33) = cs 7).trans e7
            exact loose_val rfl (v := .int .i64 y2) (by generalize a.eval = ev at *; simp [go_sem, kc, kf, t33, C_bb]) ⟨Below.refl _ _, e8.symm, trivial⟩
          refine looseAll_cons (k := 10) rfl (fun a u L hE hev hkn _ _ => ?_) ?_
          · have kc : ∀ c, a.eval (.const c) = c := fun _ => rfl
            have kf : ∀ f, a.eval (.func f) = .func (.func f) #[] #[] := fun _ => rfl
            have t6 : a.eval (.tmp 6) = .slice (some ⟨bb, off, none⟩) 8 c3 := hev 6 (by kernel_rfl)
            exact loose_val rfl (v := .slice (some ⟨bb, off, none⟩) 8 c3) (by generalize a.eval = ev at *; simp [go_sem, kc, kf, t6]) ⟨Below.refl _ _, e9.symm, trivial⟩
          refine looseAll_cons (k := 11) rfl (fun a u L hE hev hkn _ _ => ?_) ?_
          · have kc : ∀ c, a.eval (.const c) = c := fun _ => rfl
            have kf : ∀ f, a.eval (.func f) = .func (.func f) #[] #[] := fun _ => rfl
            have t35 : a.eval (.tmp 35) = .slice (some ⟨bb, off, none⟩) 8 c3 := (hkn 9 (by kernel_rfl) : a.eval (.tmp 35) = cs 9).trans e9
            exact loose_val rfl (v := .pointer (some ⟨bb, off + 3, none⟩)) (by generalize a.eval = ev at *; simp [go_sem, kc, kf, t35]) ⟨Below.refl _ _, e10.symm, trivial⟩
          refine looseAll_cons (k := 12) rfl (fun a u L hE hev hkn _ _ => ?_) ?_
          · have kc : ∀ c, a.eval (.const c) = c := fun _ => rfl
            have kf : ∀ f, a.eval (.func f) = .func (.func f) #[] #[] := fun _ => rfl
            have C_bb : u.cell? ⟨bb, off + 3, none⟩ = some (.int .i64 y3) := HB_bb u hE 3 (by omega)
            have t36 : a.eval (.tmp 36) = .pointer (some ⟨bb, off + 3, none⟩) := (hkn 10 (by kernel_rfl) : a.eval (.tmp 36) = cs 10).trans e10
            exact loose_val rfl (v := .int .i64 y3) (by generalize a.eval = ev at *; simp [go_sem, kc, kf, t36, C_bb]) ⟨Below.refl _ _, e11.symm, trivial⟩
          refine looseAll_cons (k := 13) rfl (fun a u L hE hev hkn _ _ => ?_) ?_
          · have kc : ∀ c, a.eval (.const c) = c := fun _ => rfl
            have kf : ∀ f, a.eval (.func f) = .func (.func f) #[] #[] := fun _ => rfl
            have t6 : a.eval (.tmp 6) = .slice (some ⟨bb, off, none⟩) 8 c3 := hev 6 (by kernel_rfl)
            exact loose_val rfl (v := .slice (some ⟨bb, off, none⟩) 8 c3) (by generalize a.eval = ev at *; simp [go_sem, kc, kf, t6]) ⟨Below.refl _ _, e12.symm, trivial⟩
          refine looseAll_cons (k := 14) rfl (fun a u L hE hev hkn _ _ => ?_) ?_
          · have kc : ∀ c, a.eval (.const c) = c := fun _ => rfl
            have kf : ∀ f, a.eval (.func f) = .func (.func f) #[] #[] := fun _ => rfl
            have t38 : a.eval (.tmp 38) = .slice (some ⟨bb, off, none⟩) 8 c3 := (hkn 12 (by kernel_rfl) : a.eval (.tmp 38) = cs 12).trans e12
            exact loose_val rfl (v := .pointer (some ⟨bb, off + 4, none⟩)) (by generalize a.eval = ev at *; simp [go_sem, kc, kf, t38]) ⟨Below.refl _ _, e13.symm, trivial⟩
          refine looseAll_cons (k := 15) rfl (fun a u L hE hev hkn _ _ => ?_) ?_
          · have kc : ∀ c, a.eval (.const c) = c := fun _ => rfl
            have kf : ∀ f, a.eval (.func f) = .func (.func f) #[] #[] := fun _ => rfl
            have C_bb : u.cell? ⟨bb, off + 4, none⟩ = some (.int .i64 y4) := HB_bb u hE 4 (by omega)
            have t39 : a.eval (.tmp 39) = .pointer (some ⟨bb, off + 4, none⟩) := (hkn 13 (by kernel_rfl) : a.eval (.tmp 39) = cs 13).trans e13
            exact loose_val rfl (v := .int .i64 y4) (by generalize a.eval = ev at *; simp [go_sem, kc, kf, t39, C_bb]) ⟨Below.refl _ _, e14.symm, trivial⟩
          refine looseAll_cons (k := 16) rfl (fun a u L hE hev hkn _ _ => ?_) ?_
          · have kc : ∀ c, a.eval (.const c) = c := fun _ => rfl
            have kf : ∀ f, a.eval (.func f) = .func (.func f) #[] #[] := fun _ => rfl
            have t34 : a.eval (.tmp 34) = .int .i64 y2 := (hkn 8 (by kernel_rfl) : a.eval (.tmp 34) = cs 8).trans e8
            have t37 : a.eval (.tmp 37) = .int .i64 y3 := (hkn 11 (by kernel_rfl) : a.eval (.tmp 37) = cs 11).trans e11
            have t40 : a.eval (.tmp 40) = .int .i64 y4 := (hkn 14 (by kernel_rfl) : a.eval (.tmp 40) = cs 14).trans e14
            exact loose_val rfl (v := .agg #[.int .i64 y2, .int .i64 y3, .int .i64 y4]) (by generalize a.eval = ev at *; simp [go_sem, kc, kf, t34, t37, t40]) ⟨Below.refl _ _, e15.symm, trivial⟩
          refine looseAll_cons (k := 17) rfl (fun a u L hE hev hkn _ _ => ?_) ?_
          · have kc : ∀ c, a.eval (.const c) = c := fun _ => rfl
            have kf : ∀ f, a.eval (.func f) = .func (.func f) #[] #[] := fun _ => rfl
            have t6 : a.eval (.tmp 6) = .slice (some ⟨bb, off, none⟩) 8 c3 := hev 6 (by kernel_rfl)
            exact loose_val rfl (v := .slice (some ⟨bb, off, none⟩) 8 c3) (by generalize a.eval = ev at *; simp [go_sem, kc, kf, t6]) ⟨Below.refl _ _, e16.symm, trivial⟩
          refine looseAll_cons (k := 18) rfl (fun a u L hE hev hkn _ _ => ?_) ?_
          · have kc : ∀ c, a.eval (.const c) = c := fun _ => rfl
            have kf : ∀ f, a.eval (.func f) = .func (.func f) #[] #[] := fun _ => rfl
            have t42 : a.eval (.tmp 42) = .slice (some ⟨bb, off, none⟩) 8 c3 := (hkn 16 (by kernel_rfl) : a.eval (.tmp 42) = cs 16).trans e16
            exact loose_val rfl (v := .pointer (some ⟨bb, off + 5, none⟩)) (by generalize a.eval = ev at *; simp [go_sem, kc, kf, t42]) ⟨Below.refl _ _, e17.symm, trivial⟩
          refine looseAll_cons (k := 19) rfl (fun a u L hE hev hkn _ _ => ?_) ?_
          · have kc : ∀ c, a.eval (.const c) = c := fun _ => rfl
            have kf : ∀ f, a.eval (.func f) = .func (.func f) #[] #[] := fun _ => rfl
            have C_bb : u.cell? ⟨bb, off + 5, none⟩ = some (.int .i64 y5) := HB_bb u hE 5 (by omega)
            have t43 : a.eval (.tmp 43) = .pointer (some ⟨bb, off + 5, none⟩) := (hkn 17 (by kernel_rfl) : a.eval (.tmp 43) = cs 17).trans e17
            exact loose_val rfl (v := .int .i64 y5) (by generalize a.eval = ev at *; simp [go_sem, kc, kf, t43, C_bb]) ⟨Below.refl _ _, e18.symm, trivial⟩
          refine looseAll_cons (k := 20) rfl (fun a u L hE hev hkn _ _ => ?_) ?_
          · have kc : ∀ c, a.eval (.const c) = c := fun _ => rfl
            have kf : ∀ f, a.eval (.func f) = .func (.func f) #[] #[] := fun _ => rfl
            have t6 : a.eval (.tmp 6) = .slice (some ⟨bb, off, none⟩) 8 c3 := hev 6 (by kernel_rfl)
            exact loose_val rfl (v := .slice (some ⟨bb, off, none⟩) 8 c3) (by generalize a.eval = ev at *; simp [go_sem, kc, kf, t6]) ⟨Below.refl _ _, e19.symm, trivial⟩
          refine looseAll_cons (k := 21) rfl (fun a u L hE hev hkn _ _ => ?_) ?_
          · have kc : ∀ c, a.eval (.const c) = c := fun _ => rfl
            have kf : ∀ f, a.eval (.func f) = .func (.func f) #[] #[] := fun _ => rfl
            have t45 : a.eval (.tmp 45) = .slice (some ⟨bb, off, none⟩) 8 c3 := (hkn 19 (by kernel_rfl) : a.eval (.tmp 45) = cs 19).trans e19
            exact loose_val rfl (v := .pointer (some ⟨bb, off + 6, none⟩)) (by generalize a.eval = ev at *; simp [go_sem, kc, kf, t45]) ⟨Below.refl _ _, e20.symm, trivial⟩
          refine looseAll_cons (k := 22) rfl (fun a u L hE hev hkn _ _ => ?_) ?_
          · have kc : ∀ c, a.eval (.const c) = c := fun _ => rfl
            have kf : ∀ f, a.eval (.func f) = .func (.func f) #[] #[] := fun _ => rfl
            have C_bb : u.cell? ⟨bb, off + 6, none⟩ = some (.int .i64 y6) := HB_bb u hE 6 (by omega)
            have t46 : a.eval (.tmp 46) = .pointer (some ⟨bb, off + 6, none⟩) := (hkn 20 (by kernel_rfl) : a.eval (.tmp 46) = cs 20).trans e20
            exact loose_val rfl (v := .int .i64 y6) (by generalize a.eval = ev at *; simp [go_sem, kc, kf, t46, C_bb]) ⟨Below.refl _ _, e21.symm, trivial⟩
          refine looseAll_cons (k := 23) rfl (fun a u L hE hev hkn _ _ => ?_) ?_
          · have kc : ∀ c, a.eval (.const c) = c := fun _ => rfl
            have kf : ∀ f, a.eval (.func f) = .func (.func f) #[] #[] := fun _ => rfl
            have t6 : a.eval (.tmp 6) = .slice (some ⟨bb, off, none⟩) 8 c3 := hev 6 (by kernel_rfl)
            exact loose_val rfl (v := .slice (some ⟨bb, off, none⟩) 8 c3) (by generalize a.eval = ev at *; simp [go_sem, kc, kf, t6]) ⟨Below.refl _ _, e22.symm, trivial⟩
          refine looseAll_cons (k := 24) rfl (fun a u L hE hev hkn _ _ => ?_) ?_
          · have kc : ∀ c, a.eval (.const c) = c := fun _ => rfl
            have kf : ∀ f, a.eval (.func f) = .func (.func f) #[] #[] := fun _ => rfl
            have t48 : a.eval (.tmp 48) = .slice (some ⟨bb, off, none⟩) 8 c3 := (hkn 22 (by kernel_rfl) : a.eval (.tmp 48) = cs 22).trans e22
            exact loose_val rfl (v := .pointer (some ⟨bb, off + 7, none⟩)) (by generalize a.eval = ev at *; simp [go_sem, kc, kf, t48]) ⟨Below.refl _ _, e23.symm, trivial⟩
          refine looseAll_cons (k := 25) rfl (fun a u L hE hev hkn _ _ => ?_) ?_
          · have kc : ∀ c, a.eval (.const c) = c := fun _ => rfl
            have kf : ∀ f, a.eval (.func f) = .func (.func f) #[] #[] := fun _ => rfl
            have C_bb : u.cell? ⟨bb, off + 7, none⟩ = some (.int .i64 y7) := HB_bb u hE 7 (by omega)
            have t49 : a.eval (.tmp 49) = .pointer (some ⟨bb, off + 7, none⟩) := (hkn 23 (by kernel_rfl) : a.eval (.tmp 49) = cs 23).trans e23
            exact loose_val rfl (v := .int .i64 y7) (by generalize a.eval = ev at *; simp [go_sem, kc, kf, t49, C_bb]) ⟨Below.refl _ _, e24.symm, trivial⟩
          refine looseAll_cons (k := 26) rfl (fun a u L hE hev hkn _ _ => ?_) ?_
          · have kc : ∀ c, a.eval (.const c) = c := fun _ => rfl
            have kf : ∀ f, a.eval (.func f) = .func (.func f) #[] #[] := fun _ => rfl
            have t44 : a.eval (.tmp 44) = .int .i64 y5 := (hkn 18 (by kernel_rfl) : a.eval (.tmp 44) = cs 18).trans e18
            have t47 : a.eval (.tmp 47) = .int .i64 y6 := (hkn 21 (by kernel_rfl) : a.eval (.tmp 47) = cs 21).trans e21
            have t50 : a.eval (.tmp 50) = .int .i64 y7 := (hkn 24 (by kernel_rfl) : a.eval (.tmp 50) = cs 24).trans e24
            exact loose_val rfl (v := .agg #[.int .i64 y5, .int .i64 y6, .int .i64 y7]) (by generalize a.eval = ev at *; simp [go_sem, kc, kf, t44, t47, t50]) ⟨Below.refl _ _, e25.symm, trivial⟩
          refine looseAll_cons (k := 27) rfl (fun a u L hE hev hkn _ _ => ?_) ?_
          · have kc : ∀ c, a.eval (.const c) = c := fun _ => rfl
            have kf : ∀ f, a.eval (.func f) = .func (.func f) #[] #[] := fun _ => rfl
            have t28 : a.eval (.tmp 28) = .int .i64 y0 := (hkn 2 (by kernel_rfl) : a.eval (.tmp 28) = cs 2).trans e2
            have t31 : a.eval (.tmp 31) = .int .i64 y1 := (hkn 5 (by kernel_rfl) : a.eval (.tmp 31) = cs 5).trans e5
            have t41 : a.eval (.tmp 41) = .agg #[.int .i64 y2, .int .i64 y3, .int .i64 y4] := (hkn 15 (by kernel_rfl) : a.eval (.tmp 41) = cs 15).trans e15
            have t51 : a.eval (.tmp 51) = .agg #[.int .i64 y5, .int .i64 y6, .int .i64 y7] := (hkn 25 (by kernel_rfl) : a.eval (.tmp 51) = cs 25).trans e25
            exact loose_val rfl (v := .agg #[.int .i64 y0, .int .i64 y1, .int .i64 y2, .int .i64 y3, .int .i64 y4, .int .i64 y5, .int .i64 y6, .int .i64 y7]) (by generalize a.eval = ev at *; simp [go_sem, kc, kf, t28, t31, t41, t51]) ⟨Below.refl _ _, e26.symm, trivial⟩
          refine looseAll_cons (k := 28) rfl (fun a u L hE hev hkn _ _ => ?_) ?_
          · have kc : ∀ c, a.eval (.const c) = c := fun _ => rfl
            have kf : ∀ f, a.eval (.func f) = .func (.func f) #[] #[] := fun _ => rfl
            have hr := (HB_g u hE).1
            exact loose_val rfl (v := .pointer (some ⟨u.heap.size, 0, none⟩)) (w' := u.alloc (.cells #[.int .i64 0, .int .i64 0, .int .i64 0, .int .i64 0, .int .i64 0, .int .i64 0, .int .i64 0, .int .i64 0] 27)) (by generalize a.eval = ev at *; simp [go_sem, kc, kf]) ⟨below_alloc_on (Below.refl _ _) _, ⟨u.heap.size, rfl, hr, box_new _ _ _, heap_alloc_new _ _⟩, trivial⟩
          exact looseAll_nil
        · intro a w3 hE hsz hdf hO hDD _
          obtain ⟨p, f8, hqp, Bp, Hp⟩ : ∃ q_, (a.tmps.getD 8 undef) = .pointer (some ⟨q_, 0, none⟩) ∧ g < q_ ∧ Box w3 q_ #[.int .i64 0, .int .i64 0, .int .i64 0, .int .i64 0, .int .i64 0, .int .i64 0, .int .i64 0, .int .i64 0] ∧ w3.heap[q_]? = some (.cells #[.int .i64 0, .int .i64 0, .int .i64 0, .int .i64 0, .int .i64 0, .int .i64 0, .int .i64 0, .int .i64 0] 27 (0, 0)) := hDD 27 (by omega)
          have hOO : ∀ s_, isDst _ s_ = false → a.tmps.getD s_ undef = (List.toArray (.string s :: undef :: .pointer (some ⟨g, 0, none⟩) :: .bool false :: .string tt :: .bool true :: .slice (some ⟨bb, off, none⟩) 8 c3 :: .bool true :: undef :: .tuple #[.string tt, .bool true] :: .string s :: .tuple #[.string tt, .bool true] :: .string tt :: .bool true :: .bool true :: .bool false :: undef :: .tuple #[.slice (some ⟨bb, off, none⟩) 8 c3, .bool true] :: .string tt :: .slice B2 8 c2 :: .tuple #[.slice (some ⟨bb, off, none⟩) 8 c3, .bool true] :: .slice (some ⟨bb, off, none⟩) 8 c3 :: .bool true :: .bool true :: .bool false :: undef :: undef :: undef :: undef :: undef :: undef :: undef :: undef :: undef :: undef :: undef :: undef :: undef :: undef :: undef :: undef :: undef :: undef :: undef :: undef :: undef :: undef :: undef :: undef :: undef :: undef :: undef :: undef :: undef :: undef :: undef :: undef :: undef :: []) : Array Value).getD s_ undef := fun s_ h_ => by rw [Array.getD_eq_getD_getElem?, Array.getD_eq_getD_getElem?, hO s_ h_]
          obtain rfl := act_lit (ys := (List.toArray (.string s :: undef :: .pointer (some ⟨g, 0, none⟩) :: .bool false :: .string tt :: .bool true :: .slice (some ⟨bb, off, none⟩) 8 c3 :: .bool true :: .pointer (some ⟨p, 0, none⟩) :: .tuple #[.string tt, .bool true] :: .string s :: .tuple #[.string tt, .bool true] :: .string tt :: .bool true :: .bool true :: .bool false :: undef :: .tuple #[.slice (some ⟨bb, off, none⟩) 8 c3, .bool true] :: .string tt :: .slice B2 8 c2 :: .tuple #[.slice (some ⟨bb, off, none⟩) 8 c3, .bool true] :: .slice (some ⟨bb, off, none⟩) 8 c3 :: .bool true :: .bool true :: .bool false :: undef :: .slice (some ⟨bb, off, none⟩) 8 c3 :: .pointer (some ⟨bb, off, none⟩) :: .int .i64 y0 :: .slice (some ⟨bb, off, none⟩) 8 c3 :: .pointer (some ⟨bb, off + 1, none⟩) :: .int .i64 y1 :: .slice (some ⟨bb, off, none⟩) 8 c3 :: .pointer (some ⟨bb, off + 2, none⟩) :: .int .i64 y2 :: .slice (some ⟨bb, off, none⟩) 8 c3 :: .pointer (some ⟨bb, off + 3, none⟩) :: .int .i64 y3 :: .slice (some ⟨bb, off, none⟩) 8 c3 :: .pointer (some ⟨bb, off + 4, none⟩) :: .int .i64 y4 :: .agg #[.int .i64 y2, .int .i64 y3, .int .i64 y4] :: .slice (some ⟨bb, off, none⟩) 8 c3 :: .pointer (some ⟨bb, off + 5, none⟩) :: .int .i64 y5 :: .slice (some ⟨bb, off, none⟩) 8 c3 :: .pointer (some ⟨bb, off + 6, none⟩) :: .int .i64 y6 :: .slice (some ⟨bb, off, none⟩) 8 c3 :: .pointer (some ⟨bb, off + 7, none⟩) :: .int .i64 y7 :: .agg #[.int .i64 y5, .int .i64 y6, .int .i64 y7] :: .agg #[.int .i64 y0, .int .i64 y1, .int .i64 y2, .int .i64 y3, .int .i64 y4, .int .i64 y5, .int .i64 y6, .int .i64 y7] :: undef :: undef :: undef :: undef :: undef :: []))) hdf hsz (fun s_ hs_ => match s_, hs_ with
              | 0, _ => hOO 0 (by kernel_rfl)
              | 1, _ => hOO 1 (by kernel_rfl)
              | 2, _ => hOO 2 (by kernel_rfl)
              | 3, _ => hOO 3 (by kernel_rfl)
              | 4, _ => hOO 4 (by kernel_rfl)
              | 5, _ => hOO 5 (by kernel_rfl)
              | 6, _ => hOO 6 (by kernel_rfl)
              | 7, _ => hOO 7 (by kernel_rfl)
              | 8, _ => f8
              | 9, _ => hOO 9 (by kernel_rfl)
              | 10, _ => hOO 10 (by kernel_rfl)
              | 11, _ => hOO 11 (by kernel_rfl)
              | 12, _ => hOO 12 (by kernel_rfl)
              | 13, _ => hOO 13 (by kernel_rfl)
              | 14, _ => hOO 14 (by kernel_rfl)
              | 15, _ => hOO 15 (by kernel_rfl)
              | 16, _ => hOO 16 (by kernel_rfl)
              | 17, _ => hOO 17 (by kernel_rfl)
              | 18, _ => hOO 18 (by kernel_rfl)
              | 19, _ => hOO 19 (by kernel_rfl)
              | 20, _ => hOO 20 (by kernel_rfl)
              | 21, _ => hOO 21 (by kernel_rfl)
              | 22, _ => hOO 22 (by kernel_rfl)
              | 23, _ => hOO 23 (by kernel_rfl)
              | 24, _ => hOO 24 (by kernel_rfl)
              | 25, _ => hOO 25 (by kernel_rfl)
              | 26, _ => (hDD 0 (by omega)).trans e0
              | 27, _ => (hDD 1 (by omega)).trans e1
              | 28, _ => (hDD 2 (by omega)).trans e2
              | 29, _ => (hDD 3 (by omega)).trans e3
              | 30, _ => (hDD 4 (by omega)).trans e4
              | 31, _ => (hDD 5 (by omega)).trans e5
              | 32, _ => (hDD 6 (by omega)).trans e6
              | 33, _ => (hDD 7 (by omega)).trans e7
              | 34, _ => (hDD 8 (by omega)).trans e8
              | 35, _ => (hDD 9 (by omega)).trans e9
              | 36, _ => (hDD 10 (by omega)).trans e10
              | 37, _ => (hDD 11 (by omega)).trans e11
              | 38, _ => (hDD 12 (by omega)).trans e12
              | 39, _ => (hDD 13 (by omega)).trans e13
              | 40, _ => (hDD 14 (by omega)).trans e14
              | 41, _ => (hDD 15 (by omega)).trans e15
              | 42, _ => (hDD 16 (by omega)).trans e16
              | 43, _ => (hDD 17 (by omega)).trans e17
              | 44, _ => (hDD 18 (by omega)).trans e18
              | 45, _ => (hDD 19 (by omega)).trans e19
              | 46, _ => (hDD 20 (by omega)).trans e20
              | 47, _ => (hDD 21 (by omega)).trans e21
              | 48, _ => (hDD 22 (by omega)).trans e22
              | 49, _ => (hDD 23 (by omega)).trans e23
              | 50, _ => (hDD 24 (by omega)).trans e24
              | 51, _ => (hDD 25 (by omega)).trans e25
              | 52, _ => (hDD 26 (by omega)).trans e26
              | 53, _ => hOO 53 (by kernel_rfl)
              | 54, _ => hOO 54 (by kernel_rfl)
              | 55, _ => hOO 55 (by kernel_rfl)
              | 56, _ => hOO 56 (by kernel_rfl)
              | 57, _ => hOO 57 (by kernel_rfl)
              | (k_ + 58), h_ => absurd h_ (by simp))
          have Y_bb := HB_bb _ hE
          have Y_g := HB_g _ hE
          clear hDD hOO hO hsz hdf e0 e1 e2 e3 e4 e5 e6 e7 e8 e9 e10 e11 e12 e13 e14 e15 e16 e17 e18 e19 e20 e21 e22 e23 e24 e25 e26 f8 HB_bb HB_g
          have A4 := Lib.hid (below_call (Below.drew A) hE)
          have P8 := Lib.hid (Box.eight_setJ Bp (.int .i64 y0) (.int .i64 y1) (.int .i64 y2) (.int .i64 y3) (.int .i64 y4) (.int .i64 y5) (.int .i64 y6) (.int .i64 y7))
          have R8 := Lib.hid (Y_g)
          have pg : ¬ p = g := by omega
          have gp : ¬ g = p := by omega
          have pw : w.heap.size ≤ p := by omega
          have lq := Bp.1
          have cq := Bp.2.1
          have fq := Bp.2.2
          clear hE Hp Bp Y_bb Y_g R A
          go_upto_region 8 with (fail)
          refine at_world (fun W => Below w.heap.size w W ∧ Box W p #[.int .i64 y0, .int .i64 y1, .int .i64 y2, .int .i64 y3, .int .i64 y4, .int .i64 y5, .int .i64 y6, .int .i64 y7] ∧ Box W g #[.int .i64 0, .int .i64 0, .int .i64 0, .int .i64 0, .int .i64 0, .int .i64 0, .int .i64 0, .int .i64 0]) ⟨by (have A5 := A4.out); (repeat (first | (with_reducible exact Below.refl _ _) | (with_reducible assumption) | (with_reducible refine Near.up _ ?_) | (with_reducible refine Below.drew ?_) | (with_reducible refine below_alloc_on ?_ _) | (with_reducible refine below_set_on ?_ (by first | (simp; done) | (simp; omega) | omega) _))), P8.out, by (have R9 := R8.out); (repeat (first | (with_reducible assumption) | (with_reducible exact box_new _ _ _) | ((with_reducible apply box_at); (first | (with_reducible rfl) | (simp <;> omega))) | (with_reducible apply Box.drew) | (with_reducible apply Box.drewN) | (with_reducible apply Box.near) | (with_reducible apply Box.alloc) | ((with_reducible apply box_far); (first | assumption | omega | (simp <;> omega))) | ((with_reducible apply Box.one_set); (with_reducible assumption)) | ((with_reducible apply Box.two_set); (with_reducible assumption)) | ((with_reducible apply Box.three_set); (with_reducible assumption)) | (with_reducible apply Box.set) | (simp only [List.size_toArray, List.length_cons, List.length_nil, Array.size_setIfInBounds] <;> omega)))⟩ ?_
          clear A4 P8 R8 lq cq fq
          rintro w5 ⟨A5, P5, R5⟩
          obtain ⟨lP, cP, fP⟩ := id P5
          obtain ⟨lR, cR, fR⟩ := id R5
          go_wp2_with (fail)
          refine (HR.out _).mono ?_
          rintro e w6 ⟨rfl, hb⟩
          replace A5 := below_call A5 hb
          replace P5 := P5.below hb
          replace R5 := R5.below hb
          clear hb lP cP fP lR cR fR HR
          obtain ⟨lP, cP, fP⟩ := id P5
          obtain ⟨lR, cR, fR⟩ := id R5
          go_wp2
          refine bodyPost_ret (v := .tuple #[.agg #[.int .i64 y0, .int .i64 y1, .int .i64 y2, .int .i64 y3, .int .i64 y4, .int .i64 y5, .int .i64 y6, .int .i64 y7], .bool true]) (by simp [results, Try.results10, go_sem, cR, cP]) rfl ⟨rfl, by (repeat (first | (with_reducible exact Below.refl _ _) | (with_reducible assumption) | (with_reducible refine Near.up _ ?_) | (with_reducible refine Below.drew ?_) | (with_reducible refine below_alloc_on ?_ _) | (with_reducible refine below_set_on ?_ (by first | (simp; done) | (simp; omega) | omega) _)))⟩
end Go.Proofs.Ytagedifalinklaa

namespace Go.Proofs.Ytagedifalinklaa
open Go.RowKit
set_option linter.unusedVariables false
set_option linter.unusedSimpArgs false
set_option maxRecDepth 100000
attribute [local go_sem] cell_set_ite Near.cell Near.frozen
attribute [local go_sem ↓] Go.wp_at_zero Go.wp_at_succ

set_option maxHeartbeats 4000000 in
theorem rnw_1 (a b : ByteArray) (x0 y0 x1 y1 x2 y2 x3 y3 x4 y4 x5 y5 x6 y6 x7 y7 : Int) (w : World)
    (HA : Hid (∀ w, Calls Try.prog 10 #[.string a] w fun e w' => e = .returned (.tuple #[.agg #[.int .i64 x0, .int .i64 x1, .int .i64 x2, .int .i64 x3, .int .i64 x4, .int .i64 x5, .int .i64 x6, .int .i64 x7], .bool true]) ∧ Below w.heap.size w w'))
    (HB : Hid (∀ w, Calls Try.prog 10 #[.string b] w fun e w' => e = .returned (.tuple #[.agg #[.int .i64 y0, .int .i64 y1, .int .i64 y2, .int .i64 y3, .int .i64 y4, .int .i64 y5, .int .i64 y6, .int .i64 y7], .bool true]) ∧ Below w.heap.size w w')) (hle : y0 ≤ x0) :
    Calls Try.prog 12 #[.agg #[.string a, .string b]] w fun e w' => e = .returned (.tuple #[.agg #[.int .i64 x0, .int .i64 x1, .int .i64 x2, .int .i64 x3, .int .i64 x4, .int .i64 x5, .int .i64 x6, .int .i64 x7], .int .i64 0, .bool true]) ∧ Below w.heap.size w w' := by
  have A : Below w.heap.size w w := Below.refl _ _
  have dl := decide_eq_true hle
  go_enter Try.func12, Try.ntmps12
  go_wp2_with (fail)
  refine (HA.out _).mono ?_
  rintro e w1 ⟨rfl, hb⟩
  replace A : Below w.heap.size w w1 := by (refine below_call ?_ hb; (repeat (first | (with_reducible exact Below.refl _ _) | (with_reducible assumption) | (with_reducible refine Near.up _ ?_) | (with_reducible refine Below.drew ?_) | (with_reducible refine below_alloc_on ?_ _) | (with_reducible refine below_set_on ?_ (by first | (simp; done) | (simp; omega) | omega) _))))
  replace P := Box.below (g := w.heap.size) (by (repeat (first | (with_reducible assumption) | (with_reducible exact box_new _ _ _) | ((with_reducible apply box_at); (first | (with_reducible rfl) | (simp <;> omega))) | (with_reducible apply Box.drew) | (with_reducible apply Box.drewN) | (with_reducible apply Box.near) | (with_reducible apply Box.alloc) | ((with_reducible apply box_far); (first | assumption | omega | (simp <;> omega))) | ((with_reducible apply Box.one_set); (with_reducible assumption)) | ((with_reducible apply Box.two_set); (with_reducible assumption)) | ((with_reducible apply Box.three_set); (with_reducible assumption)) | (with_reducible apply Box.set) | (simp only [List.size_toArray, List.length_cons, List.length_nil, Array.size_setIfInBounds] <;> omega)))) hb
  (try simp only [List.setIfInBounds_toArray, List.set_cons_zero, List.set_cons_succ] at P)
  (try clear cP fP)
  replace R := Box.below (g := w.heap.size + 1) (by (repeat (first | (with_reducible assumption) | (with_reducible exact box_new _ _ _) | ((with_reducible apply box_at); (first | (with_reducible rfl) | (simp <;> omega))) | (with_reducible apply Box.drew) | (with_reducible apply Box.drewN) | (with_reducible apply Box.near) | (with_reducible apply Box.alloc) | ((with_reducible apply box_far); (first | assumption | omega | (simp <;> omega))) | ((with_reducible apply Box.one_set); (with_reducible assumption)) | ((with_reducible apply Box.two_set); (with_reducible assumption)) | ((with_reducible apply Box.three_set); (with_reducible assumption)) | (with_reducible apply Box.set) | (simp only [List.size_toArray, List.length_cons, List.length_nil, Array.size_setIfInBounds] <;> omega)))) hb
  (try simp only [List.setIfInBounds_toArray, List.set_cons_zero, List.set_cons_succ] at R)
  (try clear cR fR)
  clear hb
  have z_w1 : w.heap.size ≤ w1.heap.size := A.size
  obtain ⟨lP_w1, cP, fP⟩ := id P
  obtain ⟨lR_w1, cR, fR⟩ := id R
  go_wp2_with (fail)
  refine (HB.out _).mono ?_
  rintro e w2 ⟨rfl, hb⟩
  replace A : Below w.heap.size w w2 := by (refine below_call ?_ hb; (repeat (first | (with_reducible exact Below.refl _ _) | (with_reducible assumption) | (with_reducible refine Near.up _ ?_) | (with_reducible refine Below.drew ?_) | (with_reducible refine below_alloc_on ?_ _) | (with_reducible refine below_set_on ?_ (by first | (simp; done) | (simp; omega) | omega) _))))
  replace P := Box.below (g := w.heap.size) (by (repeat (first | (with_reducible assumption) | (with_reducible exact box_new _ _ _) | ((with_reducible apply box_at); (first | (with_reducible rfl) | (simp <;> omega))) | (with_reducible apply Box.drew) | (with_reducible apply Box.drewN) | (with_reducible apply Box.near) | (with_reducible apply Box.alloc) | ((with_reducible apply box_far); (first | assumption | omega | (simp <;> omega))) | ((with_reducible apply Box.one_set); (with_reducible assumption)) | ((with_reducible apply Box.two_set); (with_reducible assumption)) | ((with_reducible apply Box.three_set); (with_reducible assumption)) | (with_reducible apply Box.set) | (simp only [List.size_toArray, List.length_cons, List.length_nil, Array.size_setIfInBounds] <;> omega)))) hb
  (try simp only [List.setIfInBounds_toArray, List.set_cons_zero, List.set_cons_succ] at P)
  (try clear cP fP)
  replace R := Box.below (g := w.heap.size + 1) (by (repeat (first | (with_reducible assumption) | (with_reducible exact box_new _ _ _) | ((with_reducible apply box_at); (first | (with_reducible rfl) | (simp <;> omega))) | (with_reducible apply Box.drew) | (with_reducible apply Box.drewN) | (with_reducible apply Box.near) | (with_reducible apply Box.alloc) | ((with_reducible apply box_far); (first | assumption | omega | (simp <;> omega))) | ((with_reducible apply Box.one_set); (with_reducible assumption)) | ((with_reducible apply Box.two_set); (with_reducible assumption)) | ((with_reducible apply Box.three_set); (with_reducible assumption)) | (with_reducible apply Box.set) | (simp only [List.size_toArray, List.length_cons, List.length_nil, Array.size_setIfInBounds] <;> omega)))) hb
  (try simp only [List.setIfInBounds_toArray, List.set_cons_zero, List.set_cons_succ] at R)
  (try clear cR fR)
  replace F := Box.below (g := w1.heap.size) (by (repeat (first | (with_reducible assumption) | (with_reducible exact box_new _ _ _) | ((with_reducible apply box_at); (first | (with_reducible rfl) | (simp <;> omega))) | (with_reducible apply Box.drew) | (with_reducible apply Box.drewN) | (with_reducible apply Box.near) | (with_reducible apply Box.alloc) | ((with_reducible apply box_far); (first | assumption | omega | (simp <;> omega))) | ((with_reducible apply Box.one_set); (with_reducible assumption)) | ((with_reducible apply Box.two_set); (with_reducible assumption)) | ((with_reducible apply Box.three_set); (with_reducible assumption)) | (with_reducible apply Box.set) | (simp only [List.size_toArray, List.length_cons, List.length_nil, Array.size_setIfInBounds] <;> omega)))) hb
  (try simp only [List.setIfInBounds_toArray, List.set_cons_zero, List.set_cons_succ] at F)
  (try clear cF fF)
  clear hb
  have z_w2 : w.heap.size ≤ w2.heap.size := A.size
  obtain ⟨lP_w2, cP, fP⟩ := id P
  obtain ⟨lR_w2, cR, fR⟩ := id R
  obtain ⟨lF_w2, cF, fF⟩ := id F
  go_upto_region 3 with (fail)
  refine at_world (fun W => Below w.heap.size w W ∧ Box W (w.heap.size + 1) #[.int .i64 0, .int .i64 0, .int .i64 0, .int .i64 0, .int .i64 0, .int .i64 0, .int .i64 0, .int .i64 0] ∧ Box W w1.heap.size #[.int .i64 x0, .int .i64 x1, .int .i64 x2, .int .i64 x3, .int .i64 x4, .int .i64 x5, .int .i64 x6, .int .i64 x7] ∧ Box W w2.heap.size #[.int .i64 y0, .int .i64 y1, .int .i64 y2, .int .i64 y3, .int .i64 y4, .int .i64 y5, .int .i64 y6, .int .i64 y7]) ⟨by (repeat (first | (with_reducible exact Below.refl _ _) | (with_reducible assumption) | (with_reducible refine Near.up _ ?_) | (with_reducible refine Below.drew ?_) | (with_reducible refine below_alloc_on ?_ _) | (with_reducible refine below_set_on ?_ (by first | (simp; done) | (simp; omega) | omega) _))), by (repeat (first | (with_reducible assumption) | (with_reducible exact box_new _ _ _) | ((with_reducible apply box_at); (first | (with_reducible rfl) | (simp <;> omega))) | (with_reducible apply Box.drew) | (with_reducible apply Box.drewN) | (with_reducible apply Box.near) | (with_reducible apply Box.alloc) | ((with_reducible apply box_far); (first | assumption | omega | (simp <;> omega))) | ((with_reducible apply Box.one_set); (with_reducible assumption)) | ((with_reducible apply Box.two_set); (with_reducible assumption)) | ((with_reducible apply Box.three_set); (with_reducible assumption)) | (with_reducible apply Box.set) | (simp only [List.size_toArray, List.length_cons, List.length_nil, Array.size_setIfInBounds] <;> omega))), by (repeat (first | (with_reducible assumption) | (with_reducible exact box_new _ _ _) | ((with_reducible apply box_at); (first | (with_reducible rfl) | (simp <;> omega))) | (with_reducible apply Box.drew) | (with_reducible apply Box.drewN) | (with_reducible apply Box.near) | (with_reducible apply Box.alloc) | ((with_reducible apply box_far); (first | assumption | omega | (simp <;> omega))) | ((with_reducible apply Box.one_set); (with_reducible assumption)) | ((with_reducible apply Box.two_set); (with_reducible assumption)) | ((with_reducible apply Box.three_set); (with_reducible assumption)) | (with_reducible apply Box.set) | (simp only [List.size_toArray, List.length_cons, List.length_nil, Array.size_setIfInBounds] <;> omega))), by (repeat (first | (with_reducible assumption) | (with_reducible exact box_new _ _ _) | ((with_reducible apply box_at); (first | (with_reducible rfl) | (simp <;> omega))) | (with_reducible apply Box.drew) | (with_reducible apply Box.drewN) | (with_reducible apply Box.near) | (with_reducible apply Box.alloc) | ((with_reducible apply box_far); (first | assumption | omega | (simp <;> omega))) | ((with_reducible apply Box.one_set); (with_reducible assumption)) | ((with_reducible apply Box.two_set); (with_reducible assumption)) | ((with_reducible apply Box.three_set); (with_reducible assumption)) | (with_reducible apply Box.set) | (simp only [List.size_toArray, List.length_cons, List.length_nil, Array.size_setIfInBounds] <;> omega)))⟩ ?_
  rintro w3 ⟨A3, R3, F3, G3⟩
  have n1 : ¬ w.heap.size + 1 = w1.heap.size := by omega
  have n2 : ¬ w.heap.size + 1 = w2.heap.size := by omega
  have n0 : w.heap.size ≤ w.heap.size + 1 := by omega
  clear A R F P cP fP cR fR cF fF
  generalize w2.heap.size = g at *
  generalize w1.heap.size = f at *
  generalize w.heap.size + 1 = r at *
  have n1' : ¬ f = r := fun h => n1 h.symm
  have n2' : ¬ g = r := fun h => n2 h.symm
  obtain ⟨lR, cR, fR⟩ := id R3
  obtain ⟨lF, cF, fF⟩ := id F3
  obtain ⟨lG, cG, fG⟩ := id G3
  clear HA HB R3 F3 G3
  go_wp2
  refine bodyPost_ret (v := .tuple #[.agg #[.int .i64 x0, .int .i64 x1, .int .i64 x2, .int .i64 x3, .int .i64 x4, .int .i64 x5, .int .i64 x6, .int .i64 x7], .int .i64 0, .bool true]) (by simp [results, Try.results12, go_sem, cR]) rfl ⟨rfl, by (repeat (first | (with_reducible exact Below.refl _ _) | (with_reducible assumption) | (with_reducible refine Near.up _ ?_) | (with_reducible refine Below.drew ?_) | (with_reducible refine below_alloc_on ?_ _) | (with_reducible refine below_set_on ?_ (by first | (simp; done) | (simp; omega) | omega) _)))⟩

set_option maxHeartbeats 4000000 in
theorem rnw_2 (a b : ByteArray) (x0 y0 x1 y1 x2 y2 x3 y3 x4 y4 x5 y5 x6 y6 x7 y7 : Int) (w : World)
    (HA : Hid (∀ w, Calls Try.prog 10 #[.string a] w fun e w' => e = .returned (.tuple #[.agg #[.int .i64 x0, .int .i64 x1, .int .i64 x2, .int .i64 x3, .int .i64 x4, .int .i64 x5, .int .i64 x6, .int .i64 x7], .bool true]) ∧ Below w.heap.size w w'))
    (HB : Hid (∀ w, Calls Try.prog 10 #[.string b] w fun e w' => e = .returned (.tuple #[.agg #[.int .i64 y0, .int .i64 y1, .int .i64 y2, .int .i64 y3, .int .i64 y4, .int .i64 y5, .int .i64 y6, .int .i64 y7], .bool true]) ∧ Below w.heap.size w w')) (hle : ¬ y0 ≤ x0) :
    Calls Try.prog 12 #[.agg #[.string a, .string b]] w fun e w' => e = .returned (.tuple #[.agg #[.int .i64 y0, .int .i64 y1, .int .i64 y2, .int .i64 y3, .int .i64 y4, .int .i64 y5, .int .i64 y6, .int .i64 y7], .int .i64 1, .bool true]) ∧ Below w.heap.size w w' := by
  have A : Below w.heap.size w w := Below.refl _ _
  have dl := decide_eq_false hle
  go_enter Try.func12, Try.ntmps12
  go_wp2_with (fail)
  refine (HA.out _).mono ?_
  rintro e w1 ⟨rfl, hb⟩
  replace A : Below w.heap.size w w1 := by (refine below_call ?_ hb; (repeat (first | (with_reducible exact Below.refl _ _) | (with_reducible assumption) | (with_reducible refine Near.up _ ?_) | (with_reducible refine Below.drew ?_) | (with_reducible refine below_alloc_on ?_ _) | (with_reducible refine below_set_on ?_ (by first | (simp; done) | (simp; omega) | omega) _))))
  replace P := Box.below (g := w.heap.size) (by (repeat (first | (with_reducible assumption) | (with_reducible exact box_new _ _ _) | ((with_reducible apply box_at); (first | (with_reducible rfl) | (simp <;> omega))) | (with_reducible apply Box.drew) | (with_reducible apply Box.drewN) | (with_reducible apply Box.near) | (with_reducible apply Box.alloc) | ((with_reducible apply box_far); (first | assumption | omega | (simp <;> omega))) | ((with_reducible apply Box.one_set); (with_reducible assumption)) | ((with_reducible apply Box.two_set); (with_reducible assumption)) | ((with_reducible apply Box.three_set); (with_reducible assumption)) | (with_reducible apply Box.set) | (simp only [List.size_toArray, List.length_cons, List.length_nil, Array.size_setIfInBounds] <;> omega)))) hb
  (try simp only [List.setIfInBounds_toArray, List.set_cons_zero, List.set_cons_succ] at P)
  (try clear cP fP)
  replace R := Box.below (g := w.heap.size + 1) (by (repeat (first | (with_reducible assumption) | (with_reducible exact box_new _ _ _) | ((with_reducible apply box_at); (first | (with_reducible rfl) | (simp <;> omega))) | (with_reducible apply Box.drew) | (with_reducible apply Box.drewN) | (with_reducible apply Box.near) | (with_reducible apply Box.alloc) | ((with_reducible apply box_far); (first | assumption | omega | (simp <;> omega))) | ((with_reducible apply Box.one_set); (with_reducible assumption)) | ((with_reducible apply Box.two_set); (with_reducible assumption)) | ((with_reducible apply Box.three_set); (with_reducible assumption)) | (with_reducible apply Box.set) | (simp only [List.size_toArray, List.length_cons, List.length_nil, Array.size_setIfInBounds] <;> omega)))) hb
  (try simp only [List.setIfInBounds_toArray, List.set_cons_zero, List.set_cons_succ] at R)
  (try clear cR fR)
  clear hb
  have z_w1 : w.heap.size ≤ w1.heap.size := A.size
  obtain ⟨lP_w1, cP, fP⟩ := id P
  obtain ⟨lR_w1, cR, fR⟩ := id R
  go_wp2_with (fail)
  refine (HB.out _).mono ?_
  rintro e w2 ⟨rfl, hb⟩
  replace A : Below w.heap.size w w2 := by (refine below_call ?_ hb; (repeat (first | (with_reducible exact Below.refl _ _) | (with_reducible assumption) | (with_reducible refine Near.up _ ?_) | (with_reducible refine Below.drew ?_) | (with_reducible refine below_alloc_on ?_ _) | (with_reducible refine below_set_on ?_ (by first | (simp; done) | (simp; omega) | omega) _))))
  replace P := Box.below (g := w.heap.size) (by (repeat (first | (with_reducible assumption) | (with_reducible exact box_new _ _ _) | ((with_reducible apply box_at); (first | (with_reducible rfl) | (simp <;> omega))) | (with_reducible apply Box.drew) | (with_reducible apply Box.drewN) | (with_reducible apply Box.near) | (with_reducible apply Box.alloc) | ((with_reducible apply box_far); (first | assumption | omega | (simp <;> omega))) | ((with_reducible apply Box.one_set); (with_reducible assumption)) | ((with_reducible apply Box.two_set); (with_reducible assumption)) | ((with_reducible apply Box.three_set); (with_reducible assumption)) | (with_reducible apply Box.set) | (simp only [List.size_toArray, List.length_cons, List.length_nil, Array.size_setIfInBounds] <;> omega)))) hb
  (try simp only [List.setIfInBounds_toArray, List.set_cons_zero, List.set_cons_succ] at P)
  (try clear cP fP)
  replace R := Box.below (g := w.heap.size + 1) (by (repeat (first | (with_reducible assumption) | (with_reducible exact box_new _ _ _) | ((with_reducible apply box_at); (first | (with_reducible rfl) | (simp <;> omega))) | (with_reducible apply Box.drew) | (with_reducible apply Box.drewN) | (with_reducible apply Box.near) | (with_reducible apply Box.alloc) | ((with_reducible apply box_far); (first | assumption | omega | (simp <;> omega))) | ((with_reducible apply Box.one_set); (with_reducible assumption)) | ((with_reducible apply Box.two_set); (with_reducible assumption)) | ((with_reducible apply Box.three_set); (with_reducible assumption)) | (with_reducible apply Box.set) | (simp only [List.size_toArray, List.length_cons, List.length_nil, Array.size_setIfInBounds] <;> omega)))) hb
  (try simp only [List.setIfInBounds_toArray, List.set_cons_zero, List.set_cons_succ] at R)
  (try clear cR fR)
  replace F := Box.below (g := w1.heap.size) (by (repeat (first | (with_reducible assumption) | (with_reducible exact box_new _ _ _) | ((with_reducible apply box_at); (first | (with_reducible rfl) | (simp <;> omega))) | (with_reducible apply Box.drew) | (with_reducible apply Box.drewN) | (with_reducible apply Box.near) | (with_reducible apply Box.alloc) | ((with_reducible apply box_far); (first | assumption | omega | (simp <;> omega))) | ((with_reducible apply Box.one_set); (with_reducible assumption)) | ((with_reducible apply Box.two_set); (with_reducible assumption)) | ((with_reducible apply Box.three_set); (with_reducible assumption)) | (with_reducible apply Box.set) | (simp only [List.size_toArray, List.length_cons, List.length_nil, Array.size_setIfInBounds] <;> omega)))) hb
  (try simp only [List.setIfInBounds_toArray, List.set_cons_zero, List.set_cons_succ] at F)
  (try clear cF fF)
  clear hb
  have z_w2 : w.heap.size ≤ w2.heap.size := A.size
  obtain ⟨lP_w2, cP, fP⟩ := id P
  obtain ⟨lR_w2, cR, fR⟩ := id R
  obtain ⟨lF_w2, cF, fF⟩ := id F
  go_upto_region 3 with (fail)
  refine at_world (fun W => Below w.heap.size w W ∧ Box W (w.heap.size + 1) #[.int .i64 0, .int .i64 0, .int .i64 0, .int .i64 0, .int .i64 0, .int .i64 0, .int .i64 0, .int .i64 0] ∧ Box W w1.heap.size #[.int .i64 x0, .int .i64 x1, .int .i64 x2, .int .i64 x3, .int .i64 x4, .int .i64 x5, .int .i64 x6, .int .i64 x7] ∧ Box W w2.heap.size #[.int .i64 y0, .int .i64 y1, .int .i64 y2, .int .i64 y3, .int .i64 y4, .int .i64 y5, .int .i64 y6, .int .i64 y7]) ⟨by (repeat (first | (with_reducible exact Below.refl _ _) | (with_reducible assumption) | (with_reducible refine Near.up _ ?_) | (with_reducible refine Below.drew ?_) | (with_reducible refine below_alloc_on ?_ _) | (with_reducible refine below_set_on ?_ (by first | (simp; done) | (simp; omega) | omega) _))), by (repeat (first | (with_reducible assumption) | (with_reducible exact box_new _ _ _) | ((with_reducible apply box_at); (first | (with_reducible rfl) | (simp <;> omega))) | (with_reducible apply Box.drew) | (with_reducible apply Box.drewN) | (with_reducible apply Box.near) | (with_reducible apply Box.alloc) | ((with_reducible apply box_far); (first | assumption | omega | (simp <;> omega))) | ((with_reducible apply Box.one_set); (with_reducible assumption)) | ((with_reducible apply Box.two_set); (with_reducible assumption)) | ((with_reducible apply Box.three_set); (with_reducible assumption)) | (with_reducible apply Box.set) | (simp only [List.size_toArray, List.length_cons, List.length_nil, Array.size_setIfInBounds] <;> omega))), by (repeat (first | (with_reducible assumption) | (with_reducible exact box_new _ _ _) | ((with_reducible apply box_at); (first | (with_reducible rfl) | (simp <;> omega))) | (with_reducible apply Box.drew) | (with_reducible apply Box.drewN) | (with_reducible apply Box.near) | (with_reducible apply Box.alloc) | ((with_reducible apply box_far); (first | assumption | omega | (simp <;> omega))) | ((with_reducible apply Box.one_set); (with_reducible assumption)) | ((with_reducible apply Box.two_set); (with_reducible assumption)) | ((with_reducible apply Box.three_set); (with_reducible assumption)) | (with_reducible apply Box.set) | (simp only [List.size_toArray, List.length_cons, List.length_nil, Array.size_setIfInBounds] <;> omega))), by (repeat (first | (with_reducible assumption) | (with_reducible exact box_new _ _ _) | ((with_reducible apply box_at); (first | (with_reducible rfl) | (simp <;> omega))) | (with_reducible apply Box.drew) | (with_reducible apply Box.drewN) | (with_reducible apply Box.near) | (with_reducible apply Box.alloc) | ((with_reducible apply box_far); (first | assumption | omega | (simp <;> omega))) | ((with_reducible apply Box.one_set); (with_reducible assumption)) | ((with_reducible apply Box.two_set); (with_reducible assumption)) | ((with_reducible apply Box.three_set); (with_reducible assumption)) | (with_reducible apply Box.set) | (simp only [List.size_toArray, List.length_cons, List.length_nil, Array.size_setIfInBounds] <;> omega)))⟩ ?_
  rintro w3 ⟨A3, R3, F3, G3⟩
  have n1 : ¬ w.heap.size + 1 = w1.heap.size := by omega
  have n2 : ¬ w.heap.size + 1 = w2.heap.size := by omega
  have n0 : w.heap.size ≤ w.heap.size + 1 := by omega
  clear A R F P cP fP cR fR cF fF
  generalize w2.heap.size = g at *
  generalize w1.heap.size = f at *
  generalize w.heap.size + 1 = r at *
  have n1' : ¬ f = r := fun h => n1 h.symm
  have n2' : ¬ g = r := fun h => n2 h.symm
  obtain ⟨lR, cR, fR⟩ := id R3
  obtain ⟨lF, cF, fF⟩ := id F3
  obtain ⟨lG, cG, fG⟩ := id G3
  clear HA HB R3 F3 G3
  go_wp2
  refine bodyPost_ret (v := .tuple #[.agg #[.int .i64 y0, .int .i64 y1, .int .i64 y2, .int .i64 y3, .int .i64 y4, .int .i64 y5, .int .i64 y6, .int .i64 y7], .int .i64 1, .bool true]) (by simp [results, Try.results12, go_sem, cR]) rfl ⟨rfl, by (repeat (first | (with_reducible exact Below.refl _ _) | (with_reducible assumption) | (with_reducible refine Near.up _ ?_) | (with_reducible refine Below.drew ?_) | (with_reducible refine below_alloc_on ?_ _) | (with_reducible refine below_set_on ?_ (by first | (simp; done) | (simp; omega) | omega) _)))⟩

set_option maxHeartbeats 4000000 in
theorem rnw_3 (a b : ByteArray) (x0 y0 x1 y1 x2 y2 x3 y3 x4 y4 x5 y5 x6 y6 x7 y7 : Int) (w : World)
    (HA : Hid (∀ w, Calls Try.prog 10 #[.string a] w fun e w' => e = .returned (.tuple #[.agg #[.int .i64 x0, .int .i64 x1, .int .i64 x2, .int .i64 x3, .int .i64 x4, .int .i64 x5, .int .i64 x6, .int .i64 x7], .bool true]) ∧ Below w.heap.size w w'))
    (HB : Hid (∀ w, Calls Try.prog 10 #[.string b] w fun e w' => e = .returned (.tuple #[.agg #[.int .i64 y0, .int .i64 y1, .int .i64 y2, .int .i64 y3, .int .i64 y4, .int .i64 y5, .int .i64 y6, .int .i64 y7], .bool false]) ∧ Below w.heap.size w w'))  :
    Calls Try.prog 12 #[.agg #[.string a, .string b]] w fun e w' => e = .returned (.tuple #[.agg #[.int .i64 x0, .int .i64 x1, .int .i64 x2, .int .i64 x3, .int .i64 x4, .int .i64 x5, .int .i64 x6, .int .i64 x7], .int .i64 0, .bool true]) ∧ Below w.heap.size w w' := by
  have A : Below w.heap.size w w := Below.refl _ _
  skip
  go_enter Try.func12, Try.ntmps12
  go_wp2_with (fail)
  refine (HA.out _).mono ?_
  rintro e w1 ⟨rfl, hb⟩
  replace A : Below w.heap.size w w1 := by (refine below_call ?_ hb; (repeat (first | (with_reducible exact Below.refl _ _) | (with_reducible assumption) | (with_reducible refine Near.up _ ?_) | (with_reducible refine Below.drew ?_) | (with_reducible refine below_alloc_on ?_ _) | (with_reducible refine below_set_on ?_ (by first | (simp; done) | (simp; omega) | omega) _))))
  replace P := Box.below (g := w.heap.size) (by (repeat (first | (with_reducible assumption) | (with_reducible exact box_new _ _ _) | ((with_reducible apply box_at); (first | (with_reducible rfl) | (simp <;> omega))) | (with_reducible apply Box.drew) | (with_reducible apply Box.drewN) | (with_reducible apply Box.near) | (with_reducible apply Box.alloc) | ((with_reducible apply box_far); (first | assumption | omega | (simp <;> omega))) | ((with_reducible apply Box.one_set); (with_reducible assumption)) | ((with_reducible apply Box.two_set); (with_reducible assumption)) | ((with_reducible apply Box.three_set); (with_reducible assumption)) | (with_reducible apply Box.set) | (simp only [List.size_toArray, List.length_cons, List.length_nil, Array.size_setIfInBounds] <;> omega)))) hb
  (try simp only [List.setIfInBounds_toArray, List.set_cons_zero, List.set_cons_succ] at P)
  (try clear cP fP)
  replace R := Box.below (g := w.heap.size + 1) (by (repeat (first | (with_reducible assumption) | (with_reducible exact box_new _ _ _) | ((with_reducible apply box_at); (first | (with_reducible rfl) | (simp <;> omega))) | (with_reducible apply Box.drew) | (with_reducible apply Box.drewN) | (with_reducible apply Box.near) | (with_reducible apply Box.alloc) | ((with_reducible apply box_far); (first | assumption | omega | (simp <;> omega))) | ((with_reducible apply Box.one_set); (with_reducible assumption)) | ((with_reducible apply Box.two_set); (with_reducible assumption)) | ((with_reducible apply Box.three_set); (with_reducible assumption)) | (with_reducible apply Box.set) | (simp only [List.size_toArray, List.length_cons, List.length_nil, Array.size_setIfInBounds] <;> omega)))) hb
  (try simp only [List.setIfInBounds_toArray, List.set_cons_zero, List.set_cons_succ] at R)
  (try clear cR fR)
  clear hb
  have z_w1 : w.heap.size ≤ w1.heap.size := A.size
  obtain ⟨lP_w1, cP, fP⟩ := id P
  obtain ⟨lR_w1, cR, fR⟩ := id R
  go_wp2_with (fail)
  refine (HB.out _).mono ?_
  rintro e w2 ⟨rfl, hb⟩
  replace A : Below w.heap.size w w2 := by (refine below_call ?_ hb; (repeat (first | (with_reducible exact Below.refl _ _) | (with_reducible assumption) | (with_reducible refine Near.up _ ?_) | (with_reducible refine Below.drew ?_) | (with_reducible refine below_alloc_on ?_ _) | (with_reducible refine below_set_on ?_ (by first | (simp; done) | (simp; omega) | omega) _))))
  replace P := Box.below (g := w.heap.size) (by (repeat (first | (with_reducible assumption) | (with_reducible exact box_new _ _ _) | ((with_reducible apply box_at); (first | (with_reducible rfl) | (simp <;> omega))) | (with_reducible apply Box.drew) | (with_reducible apply Box.drewN) | (with_reducible apply Box.near) | (with_reducible apply Box.alloc) | ((with_reducible apply box_far); (first | assumption | omega | (simp <;> omega))) | ((with_reducible apply Box.one_set); (with_reducible assumption)) | ((with_reducible apply Box.two_set); (with_reducible assumption)) | ((with_reducible apply Box.three_set); (with_reducible assumption)) | (with_reducible apply Box.set) | (simp only [List.size_toArray, List.length_cons, List.length_nil, Array.size_setIfInBounds] <;> omega)))) hb
  (try simp only [List.setIfInBounds_toArray, List.set_cons_zero, List.set_cons_succ] at P)
  (try clear cP fP)
  replace R := Box.below (g := w.heap.size + 1) (by (repeat (first | (with_reducible assumption) | (with_reducible exact box_new _ _ _) | ((with_reducible apply box_at); (first | (with_reducible rfl) | (simp <;> omega))) | (with_reducible apply Box.drew) | (with_reducible apply Box.drewN) | (with_reducible apply Box.near) | (with_reducible apply Box.alloc) | ((with_reducible apply box_far); (first | assumption | omega | (simp <;> omega))) | ((with_reducible apply Box.one_set); (with_reducible assumption)) | ((with_reducible apply Box.two_set); (with_reducible assumption)) | ((with_reducible apply Box.three_set); (with_reducible assumption)) | (with_reducible apply Box.set) | (simp only [List.size_toArray, List.length_cons, List.length_nil, Array.size_setIfInBounds] <;> omega)))) hb
  (try simp only [List.setIfInBounds_toArray, List.set_cons_zero, List.set_cons_succ] at R)
  (try clear cR fR)
  replace F := Box.below (g := w1.heap.size) (by (repeat (first | (with_reducible assumption) | (with_reducible exact box_new _ _ _) | ((with_reducible apply box_at); (first | (with_reducible rfl) | (simp <;> omega))) | (with_reducible apply Box.drew) | (with_reducible apply Box.drewN) | (with_reducible apply Box.near) | (with_reducible apply Box.alloc) | ((with_reducible apply box_far); (first | assumption | omega | (simp <;> omega))) | ((with_reducible apply Box.one_set); (with_reducible assumption)) | ((with_reducible apply Box.two_set); (with_reducible assumption)) | ((with_reducible apply Box.three_set); (with_reducible assumption)) | (with_reducible apply Box.set) | (simp only [List.size_toArray, List.length_cons, List.length_nil, Array.size_setIfInBounds] <;> omega)))) hb
  (try simp only [List.setIfInBounds_toArray, List.set_cons_zero, List.set_cons_succ] at F)
  (try clear cF fF)
  clear hb
  have z_w2 : w.heap.size ≤ w2.heap.size := A.size
  obtain ⟨lP_w2, cP, fP⟩ := id P
  obtain ⟨lR_w2, cR, fR⟩ := id R
  obtain ⟨lF_w2, cF, fF⟩ := id F
  go_upto_region 3 with (fail)
  refine at_world (fun W => Below w.heap.size w W ∧ Box W (w.heap.size + 1) #[.int .i64 0, .int .i64 0, .int .i64 0, .int .i64 0, .int .i64 0, .int .i64 0, .int .i64 0, .int .i64 0] ∧ Box W w1.heap.size #[.int .i64 x0, .int .i64 x1, .int .i64 x2, .int .i64 x3, .int .i64 x4, .int .i64 x5, .int .i64 x6, .int .i64 x7] ∧ Box W w2.heap.size #[.int .i64 y0, .int .i64 y1, .int .i64 y2, .int .i64 y3, .int .i64 y4, .int .i64 y5, .int .i64 y6, .int .i64 y7]) ⟨by (repeat (first | (with_reducible exact Below.refl _ _) | (with_reducible assumption) | (with_reducible refine Near.up _ ?_) | (with_reducible refine Below.drew ?_) | (with_reducible refine below_alloc_on ?_ _) | (with_reducible refine below_set_on ?_ (by first | (simp; done) | (simp; omega) | omega) _))), by (repeat (first | (with_reducible assumption) | (with_reducible exact box_new _ _ _) | ((with_reducible apply box_at); (first | (with_reducible rfl) | (simp <;> omega))) | (with_reducible apply Box.drew) | (with_reducible apply Box.drewN) | (with_reducible apply Box.near) | (with_reducible apply Box.alloc) | ((with_reducible apply box_far); (first | assumption | omega | (simp <;> omega))) | ((with_reducible apply Box.one_set); (with_reducible assumption)) | ((with_reducible apply Box.two_set); (with_reducible assumption)) | ((with_reducible apply Box.three_set); (with_reducible assumption)) | (with_reducible apply Box.set) | (simp only [List.size_toArray, List.length_cons, List.length_nil, Array.size_setIfInBounds] <;> omega))), by (repeat (first | (with_reducible assumption) | (with_reducible exact box_new _ _ _) | ((with_reducible apply box_at); (first | (with_reducible rfl) | (simp <;> omega))) | (with_reducible apply Box.drew) | (with_reducible apply Box.drewN) | (with_reducible apply Box.near) | (with_reducible apply Box.alloc) | ((with_reducible apply box_far); (first | assumption | omega | (simp <;> omega))) | ((with_reducible apply Box.one_set); (with_reducible assumption)) | ((with_reducible apply Box.two_set); (with_reducible assumption)) | ((with_reducible apply Box.three_set); (with_reducible assumption)) | (with_reducible apply Box.set) | (simp only [List.size_toArray, List.length_cons, List.length_nil, Array.size_setIfInBounds] <;> omega))), by (repeat (first | (with_reducible assumption) | (with_reducible exact box_new _ _ _) | ((with_reducible apply box_at); (first | (with_reducible rfl) | (simp <;> omega))) | (with_reducible apply Box.drew) | (with_reducible apply Box.drewN) | (with_reducible apply Box.near) | (with_reducible apply Box.alloc) | ((with_reducible apply box_far); (first | assumption | omega | (simp <;> omega))) | ((with_reducible apply Box.one_set); (with_reducible assumption)) | ((with_reducible apply Box.two_set); (with_reducible assumption)) | ((with_reducible apply Box.three_set); (with_reducible assumption)) | (with_reducible apply Box.set) | (simp only [List.size_toArray, List.length_cons, List.length_nil, Array.size_setIfInBounds] <;> omega)))⟩ ?_
  rintro w3 ⟨A3, R3, F3, G3⟩
  have n1 : ¬ w.heap.size + 1 = w1.heap.size := by omega
  have n2 : ¬ w.heap.size + 1 = w2.heap.size := by omega
  have n0 : w.heap.size ≤ w.heap.size + 1 := by omega
  clear A R F P cP fP cR fR cF fF
  generalize w2.heap.size = g at *
  generalize w1.heap.size = f at *
  generalize w.heap.size + 1 = r at *
  have n1' : ¬ f = r := fun h => n1 h.symm
  have n2' : ¬ g = r := fun h => n2 h.symm
  obtain ⟨lR, cR, fR⟩ := id R3
  obtain ⟨lF, cF, fF⟩ := id F3
  obtain ⟨lG, cG, fG⟩ := id G3
  clear HA HB R3 F3 G3
  go_wp2
  refine bodyPost_ret (v := .tuple #[.agg #[.int .i64 x0, .int .i64 x1, .int .i64 x2, .int .i64 x3, .int .i64 x4, .int .i64 x5, .int .i64 x6, .int .i64 x7], .int .i64 0, .bool true]) (by simp [results, Try.results12, go_sem, cR]) rfl ⟨rfl, by (repeat (first | (with_reducible exact Below.refl _ _) | (with_reducible assumption) | (with_reducible refine Near.up _ ?_) | (with_reducible refine Below.drew ?_) | (with_reducible refine below_alloc_on ?_ _) | (with_reducible refine below_set_on ?_ (by first | (simp; done) | (simp; omega) | omega) _)))⟩

set_option maxHeartbeats 4000000 in
theorem rnw_4 (a b : ByteArray) (x0 y0 x1 y1 x2 y2 x3 y3 x4 y4 x5 y5 x6 y6 x7 y7 : Int) (w : World)
    (HA : Hid (∀ w, Calls Try.prog 10 #[.string a] w fun e w' => e = .returned (.tuple #[.agg #[.int .i64 x0, .int .i64 x1, .int .i64 x2, .int .i64 x3, .int .i64 x4, .int .i64 x5, .int .i64 x6, .int .i64 x7], .bool false]) ∧ Below w.heap.size w w'))
    (HB : Hid (∀ w, Calls Try.prog 10 #[.string b] w fun e w' => e = .returned (.tuple #[.agg #[.int .i64 y0, .int .i64 y1, .int .i64 y2, .int .i64 y3, .int .i64 y4, .int .i64 y5, .int .i64 y6, .int .i64 y7], .bool true]) ∧ Below w.heap.size w w'))  :
    Calls Try.prog 12 #[.agg #[.string a, .string b]] w fun e w' => e = .returned (.tuple #[.agg #[.int .i64 y0, .int .i64 y1, .int .i64 y2, .int .i64 y3, .int .i64 y4, .int .i64 y5, .int .i64 y6, .int .i64 y7], .int .i64 1, .bool true]) ∧ Below w.heap.size w w' := by
  have A : Below w.heap.size w w := Below.refl _ _
  skip
  go_enter Try.func12, Try.ntmps12
  go_wp2_with (fail)
  refine (HA.out _).mono ?_
  rintro e w1 ⟨rfl, hb⟩
  replace A : Below w.heap.size w w1 := by (refine below_call ?_ hb; (repeat (first | (with_reducible exact Below.refl _ _) | (with_reducible assumption) | (with_reducible refine Near.up _ ?_) | (with_reducible refine Below.drew ?_) | (with_reducible refine below_alloc_on ?_ _) | (with_reducible refine below_set_on ?_ (by first | (simp; done) | (simp; omega) | omega) _))))
  replace P := Box.below (g := w.heap.size) (by (repeat (first | (with_reducible assumption) | (with_reducible exact box_new _ _ _) | ((with_reducible apply box_at); (first | (with_reducible rfl) | (simp <;> omega))) | (with_reducible apply Box.drew) | (with_reducible apply Box.drewN) | (with_reducible apply Box.near) | (with_reducible apply Box.alloc) | ((with_reducible apply box_far); (first | assumption | omega | (simp <;> omega))) | ((with_reducible apply Box.one_set); (with_reducible assumption)) | ((with_reducible apply Box.two_set); (with_reducible assumption)) | ((with_reducible apply Box.three_set); (with_reducible assumption)) | (with_reducible apply Box.set) | (simp only [List.size_toArray, List.length_cons, List.length_nil, Array.size_setIfInBounds] <;> omega)))) hb
  (try simp only [List.setIfInBounds_toArray, List.set_cons_zero, List.set_cons_succ] at P)
  (try clear cP fP)
  replace R := Box.below (g := w.heap.size + 1) (by (repeat (first | (with_reducible assumption) | (with_reducible exact box_new _ _ _) | ((with_reducible apply box_at); (first | (with_reducible rfl) | (simp <;> omega))) | (with_reducible apply Box.drew) | (with_reducible apply Box.drewN) | (with_reducible apply Box.near) | (with_reducible apply Box.alloc) | ((with_reducible apply box_far); (first | assumption | omega | (simp <;> omega))) | ((with_reducible apply Box.one_set); (with_reducible assumption)) | ((with_reducible apply Box.two_set); (with_reducible assumption)) | ((with_reducible apply Box.three_set); (with_reducible assumption)) | (with_reducible apply Box.set) | (simp only [List.size_toArray, List.length_cons, List.length_nil, Array.size_setIfInBounds] <;> omega)))) hb
  (try simp only [List.setIfInBounds_toArray, List.set_cons_zero, List.set_cons_succ] at R)
  (try clear cR fR)
  clear hb
  have z_w1 : w.heap.size ≤ w1.heap.size := A.size
  obtain ⟨lP_w1, cP, fP⟩ := id P
  obtain ⟨lR_w1, cR, fR⟩ := id R
  go_wp2_with (fail)
  refine (HB.out _).mono ?_
  rintro e w2 ⟨rfl, hb⟩
  replace A : Below w.heap.size w w2 := by (refine below_call ?_ hb; (repeat (first | (with_reducible exact Below.refl _ _) | (with_reducible assumption) | (with_reducible refine Near.up _ ?_) | (with_reducible refine Below.drew ?_) | (with_reducible refine below_alloc_on ?_ _) | (with_reducible refine below_set_on ?_ (by first | (simp; done) | (simp; omega) | omega) _))))
  replace P := Box.below (g := w.heap.size) (by (repeat (first | (with_reducible assumption) | (with_reducible exact box_new _ _ _) | ((with_reducible apply box_at); (first | (with_reducible rfl) | (simp <;> omega))) | (with_reducible apply Box.drew) | (with_reducible apply Box.drewN) | (with_reducible apply Box.near) | (with_reducible apply Box.alloc) | ((with_reducible apply box_far); (first | assumption | omega | (simp <;> omega))) | ((with_reducible apply Box.one_set); (with_reducible assumption)) | ((with_reducible apply Box.two_set); (with_reducible assumption)) | ((with_reducible apply Box.three_set); (with_reducible assumption)) | (with_reducible apply Box.set) | (simp only [List.size_toArray, List.length_cons, List.length_nil, Array.size_setIfInBounds] <;> omega)))) hb
  (try simp only [List.setIfInBounds_toArray, List.set_cons_zero, List.set_cons_succ] at P)
  (try clear cP fP)
  replace R := Box.below (g := w.heap.size + 1) (by (repeat (first | (with_reducible assumption) | (with_reducible exact box_new _ _ _) | ((with_reducible apply box_at); (first | (with_reducible rfl) | (simp <;> omega))) | (with_reducible apply Box.drew) | (with_reducible apply Box.drewN) | (with_reducible apply Box.near) | (with_reducible apply Box.alloc) | ((with_reducible apply box_far); (first | assumption | omega | (simp <;> omega))) | ((with_reducible apply Box.one_set); (with_reducible assumption)) | ((with_reducible apply Box.two_set); (with_reducible assumption)) | ((with_reducible apply Box.three_set); (with_reducible assumption)) | (with_reducible apply Box.set) | (simp only [List.size_toArray, List.length_cons, List.length_nil, Array.size_setIfInBounds] <;> omega)))) hb
  (try simp only [List.setIfInBounds_toArray, List.set_cons_zero, List.set_cons_succ] at R)
  (try clear cR fR)
  replace F := Box.below (g := w1.heap.size) (by (repeat (first | (with_reducible assumption) | (with_reducible exact box_new _ _ _) | ((with_reducible apply box_at); (first | (with_reducible rfl) | (simp <;> omega))) | (with_reducible apply Box.drew) | (with_reducible apply Box.drewN) | (with_reducible apply Box.near) | (with_reducible apply Box.alloc) | ((with_reducible apply box_far); (first | assumption | omega | (simp <;> omega))) | ((with_reducible apply Box.one_set); (with_reducible assumption)) | ((with_reducible apply Box.two_set); (with_reducible assumption)) | ((with_reducible apply Box.three_set); (with_reducible assumption)) | (with_reducible apply Box.set) | (simp only [List.size_toArray, List.length_cons, List.length_nil, Array.size_setIfInBounds] <;> omega)))) hb
  (try simp only [List.setIfInBounds_toArray, List.set_cons_zero, List.set_cons_succ] at F)
  (try clear cF fF)
  clear hb
  have z_w2 : w.heap.size ≤ w2.heap.size := A.size
  obtain ⟨lP_w2, cP, fP⟩ := id P
  obtain ⟨lR_w2, cR, fR⟩ := id R
  obtain ⟨lF_w2, cF, fF⟩ := id F
  go_upto_region 3 with (fail)
  refine at_world (fun W => Below w.heap.size w W ∧ Box W (w.heap.size + 1) #[.int .i64 0, .int .i64 0, .int .i64 0, .int .i64 0, .int .i64 0, .int .i64 0, .int .i64 0, .int .i64 0] ∧ Box W w1.heap.size #[.int .i64 x0, .int .i64 x1, .int .i64 x2, .int .i64 x3, .int .i64 x4, .int .i64 x5, .int .i64 x6, .int .i64 x7] ∧ Box W w2.heap.size #[.int .i64 y0, .int .i64 y1, .int .i64 y2, .int .i64 y3, .int .i64 y4, .int .i64 y5, .int .i64 y6, .int .i64 y7]) ⟨by (repeat (first | (with_reducible exact Below.refl _ _) | (with_reducible assumption) | (with_reducible refine Near.up _ ?_) | (with_reducible refine Below.drew ?_) | (with_reducible refine below_alloc_on ?_ _) | (with_reducible refine below_set_on ?_ (by first | (simp; done) | (simp; omega) | omega) _))), by (repeat (first | (with_reducible assumption) | (with_reducible exact box_new _ _ _) | ((with_reducible apply box_at); (first | (with_reducible rfl) | (simp <;> omega))) | (with_reducible apply Box.drew) | (with_reducible apply Box.drewN) | (with_reducible apply Box.near) | (with_reducible apply Box.alloc) | ((with_reducible apply box_far); (first | assumption | omega | (simp <;> omega))) | ((with_reducible apply Box.one_set); (with_reducible assumption)) | ((with_reducible apply Box.two_set); (with_reducible assumption)) | ((with_reducible apply Box.three_set); (with_reducible assumption)) | (with_reducible apply Box.set) | (simp only [List.size_toArray, List.length_cons, List.length_nil, Array.size_setIfInBounds] <;> omega))), by (repeat (first | (with_reducible assumption) | (with_reducible exact box_new _ _ _) | ((with_reducible apply box_at); (first | (with_reducible rfl) | (simp <;> omega))) | (with_reducible apply Box.drew) | (with_reducible apply Box.drewN) | (with_reducible apply Box.near) | (with_reducible apply Box.alloc) | ((with_reducible apply box_far); (first | assumption | omega | (simp <;> omega))) | ((with_reducible apply Box.one_set); (with_reducible assumption)) | ((with_reducible apply Box.two_set); (with_reducible assumption)) | ((with_reducible apply Box.three_set); (with_reducible assumption)) | (with_reducible apply Box.set) | (simp only [List.size_toArray, List.length_cons, List.length_nil, Array.size_setIfInBounds] <;> omega))), by (repeat (first | (with_reducible assumption) | (with_reducible exact box_new _ _ _) | ((with_reducible apply box_at); (first | (with_reducible rfl) | (simp <;> omega))) | (with_reducible apply Box.drew) | (with_reducible apply Box.drewN) | (with_reducible apply Box.near) | (with_reducible apply Box.alloc) | ((with_reducible apply box_far); (first | assumption | omega | (simp <;> omega))) | ((with_reducible apply Box.one_set); (with_reducible assumption)) | ((with_reducible apply Box.two_set); (with_reducible assumption)) | ((with_reducible apply Box.three_set); (with_reducible assumption)) | (with_reducible apply Box.set) | (simp only [List.size_toArray, List.length_cons, List.length_nil, Array.size_setIfInBounds] <;> omega)))⟩ ?_
  rintro w3 ⟨A3, R3, F3, G3⟩
  have n1 : ¬ w.heap.size + 1 = w1.heap.size := by omega
  have n2 : ¬ w.heap.size + 1 = w2.heap.size := by omega
  have n0 : w.heap.size ≤ w.heap.size + 1 := by omega
  clear A R F P cP fP cR fR cF fF
  generalize w2.heap.size = g at *
  generalize w1.heap.size = f at *
  generalize w.heap.size + 1 = r at *
  have n1' : ¬ f = r := fun h => n1 h.symm
  have n2' : ¬ g = r := fun h => n2 h.symm
  obtain ⟨lR, cR, fR⟩ := id R3
  obtain ⟨lF, cF, fF⟩ := id F3
  obtain ⟨lG, cG, fG⟩ := id G3
  clear HA HB R3 F3 G3
  go_wp2
  refine bodyPost_ret (v := .tuple #[.agg #[.int .i64 y0, .int .i64 y1, .int .i64 y2, .int .i64 y3, .int .i64 y4, .int .i64 y5, .int .i64 y6, .int .i64 y7], .int .i64 1, .bool true]) (by simp [results, Try.results12, go_sem, cR]) rfl ⟨rfl, by (repeat (first | (with_reducible exact Below.refl _ _) | (with_reducible assumption) | (with_reducible refine Near.up _ ?_) | (with_reducible refine Below.drew ?_) | (with_reducible refine below_alloc_on ?_ _) | (with_reducible refine below_set_on ?_ (by first | (simp; done) | (simp; omega) | omega) _)))⟩

set_option maxHeartbeats 4000000 in
theorem rnw_5 (a b : ByteArray) (x0 y0 x1 y1 x2 y2 x3 y3 x4 y4 x5 y5 x6 y6 x7 y7 : Int) (w : World)
    (HA : Hid (∀ w, Calls Try.prog 10 #[.string a] w fun e w' => e = .returned (.tuple #[.agg #[.int .i64 x0, .int .i64 x1, .int .i64 x2, .int .i64 x3, .int .i64 x4, .int .i64 x5, .int .i64 x6, .int .i64 x7], .bool false]) ∧ Below w.heap.size w w'))
    (HB : Hid (∀ w, Calls Try.prog 10 #[.string b] w fun e w' => e = .returned (.tuple #[.agg #[.int .i64 y0, .int .i64 y1, .int .i64 y2, .int .i64 y3, .int .i64 y4, .int .i64 y5, .int .i64 y6, .int .i64 y7], .bool false]) ∧ Below w.heap.size w w'))  :
    Calls Try.prog 12 #[.agg #[.string a, .string b]] w fun e w' => e = .returned (.tuple #[.agg #[.int .i64 0, .int .i64 0, .int .i64 0, .int .i64 0, .int .i64 0, .int .i64 0, .int .i64 0, .int .i64 0], .int .i64 0, .bool false]) ∧ Below w.heap.size w w' := by
  have A : Below w.heap.size w w := Below.refl _ _
  skip
  go_enter Try.func12, Try.ntmps12
  go_wp2_with (fail)
  refine (HA.out _).mono ?_
  rintro e w1 ⟨rfl, hb⟩
  replace A : Below w.heap.size w w1 := by (refine below_call ?_ hb; (repeat (first | (with_reducible exact Below.refl _ _) | (with_reducible assumption) | (with_reducible refine Near.up _ ?_) | (with_reducible refine Below.drew ?_) | (with_reducible refine below_alloc_on ?_ _) | (with_reducible refine below_set_on ?_ (by first | (simp; done) | (simp; omega) | omega) _))))
  replace P := Box.below (g := w.heap.size) (by (repeat (first | (with_reducible assumption) | (with_reducible exact box_new _ _ _) | ((with_reducible apply box_at); (first | (with_reducible rfl) | (simp <;> omega))) | (with_reducible apply Box.drew) | (with_reducible apply Box.drewN) | (with_reducible apply Box.near) | (with_reducible apply Box.alloc) | ((with_reducible apply box_far); (first | assumption | omega | (simp <;> omega))) | ((with_reducible apply Box.one_set); (with_reducible assumption)) | ((with_reducible apply Box.two_set); (with_reducible assumption)) | ((with_reducible apply Box.three_set); (with_reducible assumption)) | (with_reducible apply Box.set) | (simp only [List.size_toArray, List.length_cons, List.length_nil, Array.size_setIfInBounds] <;> omega)))) hb
  (try simp only [List.setIfInBounds_toArray, List.set_cons_zero, List.set_cons_succ] at P)
  (try clear cP fP)
  replace R := Box.below (g := w.heap.size + 1) (by (repeat (first | (with_reducible assumption) | (with_reducible exact box_new _ _ _) | ((with_reducible apply box_at); (first | (with_reducible rfl) | (simp <;> omega))) | (with_reducible apply Box.drew) | (with_reducible apply Box.drewN) | (with_reducible apply Box.near) | (with_reducible apply Box.alloc) | ((with_reducible apply box_far); (first | assumption | omega | (simp <;> omega))) | ((with_reducible apply Box.one_set); (with_reducible assumption)) | ((with_reducible apply Box.two_set); (with_reducible assumption)) | ((with_reducible apply Box.three_set); (with_reducible assumption)) | (with_reducible apply Box.set) | (simp only [List.size_toArray, List.length_cons, List.length_nil, Array.size_setIfInBounds] <;> omega)))) hb
  (try simp only [List.setIfInBounds_toArray, List.set_cons_zero, List.set_cons_succ] at R)
  (try clear cR fR)
  clear hb
  have z_w1 : w.heap.size ≤ w1.heap.size := A.size
  obtain ⟨lP_w1, cP, fP⟩ := id P
  obtain ⟨lR_w1, cR, fR⟩ := id R
  go_wp2_with (fail)
  refine (HB.out _).mono ?_
  rintro e w2 ⟨rfl, hb⟩
  replace A : Below w.heap.size w w2 := by (refine below_call ?_ hb; (repeat (first | (with_reducible exact Below.refl _ _) | (with_reducible assumption) | (with_reducible refine Near.up _ ?_) | (with_reducible refine Below.drew ?_) | (with_reducible refine below_alloc_on ?_ _) | (with_reducible refine below_set_on ?_ (by first | (simp; done) | (simp; omega) | omega) _))))
  replace P := Box.below (g := w.heap.size) (by (repeat (first | (with_reducible assumption) | (with_reducible exact box_new _ _ _) | ((with_reducible apply box_at); (first | (with_reducible rfl) | (simp <;> omega))) | (with_reducible apply Box.drew) | (with_reducible apply Box.drewN) | (with_reducible apply Box.near) | (with_reducible apply Box.alloc) | ((with_reducible apply box_far); (first | assumption | omega | (simp <;> omega))) | ((with_reducible apply Box.one_set); (with_reducible assumption)) | ((with_reducible apply Box.two_set); (with_reducible assumption)) | ((with_reducible apply Box.three_set); (with_reducible assumption)) | (with_reducible apply Box.set) | (simp only [List.size_toArray, List.length_cons, List.length_nil, Array.size_setIfInBounds] <;> omega)))) hb
  (try simp only [List.setIfInBounds_toArray, List.set_cons_zero, List.set_cons_succ] at P)
  (try clear cP fP)
  replace R := Box.below (g := w.heap.size + 1) (by (repeat (first | (with_reducible assumption) | (with_reducible exact box_new _ _ _) | ((with_reducible apply box_at); (first | (with_reducible rfl) | (simp <;> omega))) | (with_reducible apply Box.drew) | (with_reducible apply Box.drewN) | (with_reducible apply Box.near) | (with_reducible apply Box.alloc) | ((with_reducible apply box_far); (first | assumption | omega | (simp <;> omega))) | ((with_reducible apply Box.one_set); (with_reducible assumption)) | ((with_reducible apply Box.two_set); (with_reducible assumption)) | ((with_reducible apply Box.three_set); (with_reducible assumption)) | (with_reducible apply Box.set) | (simp only [List.size_toArray, List.length_cons, List.length_nil, Array.size_setIfInBounds] <;> omega)))) hb
  (try simp only [List.setIfInBounds_toArray, List.set_cons_zero, List.set_cons_succ] at R)
  (try clear cR fR)
  replace F := Box.below (g := w1.heap.size) (by (repeat (first | (with_reducible assumption) | (with_reducible exact box_new _ _ _) | ((with_reducible apply box_at); (first | (with_reducible rfl) | (simp <;> omega))) | (with_reducible apply Box.drew) | (with_reducible apply Box.drewN) | (with_reducible apply Box.near) | (with_reducible apply Box.alloc) | ((with_reducible apply box_far); (first | assumption | omega | (simp <;> omega))) | ((with_reducible apply Box.one_set); (with_reducible assumption)) | ((with_reducible apply Box.two_set); (with_reducible assumption)) | ((with_reducible apply Box.three_set); (with_reducible assumption)) | (with_reducible apply Box.set) | (simp only [List.size_toArray, List.length_cons, List.length_nil, Array.size_setIfInBounds] <;> omega)))) hb
  (try simp only [List.setIfInBounds_toArray, List.set_cons_zero, List.set_cons_succ] at F)
  (try clear cF fF)
  clear hb
  have z_w2 : w.heap.size ≤ w2.heap.size := A.size
  obtain ⟨lP_w2, cP, fP⟩ := id P
  obtain ⟨lR_w2, cR, fR⟩ := id R
  obtain ⟨lF_w2, cF, fF⟩ := id F
  go_upto_region 3 with (fail)
  refine at_world (fun W => Below w.heap.size w W ∧ Box W (w.heap.size + 1) #[.int .i64 0, .int .i64 0, .int .i64 0, .int .i64 0, .int .i64 0, .int .i64 0, .int .i64 0, .int .i64 0] ∧ Box W w1.heap.size #[.int .i64 x0, .int .i64 x1, .int .i64 x2, .int .i64 x3, .int .i64 x4, .int .i64 x5, .int .i64 x6, .int .i64 x7] ∧ Box W w2.heap.size #[.int .i64 y0, .int .i64 y1, .int .i64 y2, .int .i64 y3, .int .i64 y4, .int .i64 y5, .int .i64 y6, .int .i64 y7]) ⟨by (repeat (first | (with_reducible exact Below.refl _ _) | (with_reducible assumption) | (with_reducible refine Near.up _ ?_) | (with_reducible refine Below.drew ?_) | (with_reducible refine below_alloc_on ?_ _) | (with_reducible refine below_set_on ?_ (by first | (simp; done) | (simp; omega) | omega) _))), by (repeat (first | (with_reducible assumption) | (with_reducible exact box_new _ _ _) | ((with_reducible apply box_at); (first | (with_reducible rfl) | (simp <;> omega))) | (with_reducible apply Box.drew) | (with_reducible apply Box.drewN) | (with_reducible apply Box.near) | (with_reducible apply Box.alloc) | ((with_reducible apply box_far); (first | assumption | omega | (simp <;> omega))) | ((with_reducible apply Box.one_set); (with_reducible assumption)) | ((with_reducible apply Box.two_set); (with_reducible assumption)) | ((with_reducible apply Box.three_set); (with_reducible assumption)) | (with_reducible apply Box.set) | (simp only [List.size_toArray, List.length_cons, List.length_nil, Array.size_setIfInBounds] <;> omega))), by (repeat (first | (with_reducible assumption) | (with_reducible exact box_new _ _ _) | ((with_reducible apply box_at); (first | (with_reducible rfl) | (simp <;> omega))) | (with_reducible apply Box.drew) | (with_reducible apply Box.drewN) | (with_reducible apply Box.near) | (with_reducible apply Box.alloc) | ((with_reducible apply box_far); (first | assumption | omega | (simp <;> omega))) | ((with_reducible apply Box.one_set); (with_reducible assumption)) | ((with_reducible apply Box.two_set); (with_reducible assumption)) | ((with_reducible apply Box.three_set); (with_reducible assumption)) | (with_reducible apply Box.set) | (simp only [List.size_toArray, List.length_cons, List.length_nil, Array.size_setIfInBounds] <;> omega))), by (repeat (first | (with_reducible assumption) | (with_reducible exact box_new _ _ _) | ((with_reducible apply box_at); (first | (with_reducible rfl) | (simp <;> omega))) | (with_reducible apply Box.drew) | (with_reducible apply Box.drewN) | (with_reducible apply Box.near) | (with_reducible apply Box.alloc) | ((with_reducible apply box_far); (first | assumption | omega | (simp <;> omega))) | ((with_reducible apply Box.one_set); (with_reducible assumption)) | ((with_reducible apply Box.two_set); (with_reducible assumption)) | ((with_reducible apply Box.three_set); (with_reducible assumption)) | (with_reducible apply Box.set) | (simp only [List.size_toArray, List.length_cons, List.length_nil, Array.size_setIfInBounds] <;> omega)))⟩ ?_
  rintro w3 ⟨A3, R3, F3, G3⟩
  have n1 : ¬ w.heap.size + 1 = w1.heap.size := by omega
  have n2 : ¬ w.heap.size + 1 = w2.heap.size := by omega
  have n0 : w.heap.size ≤ w.heap.size + 1 := by omega
  clear A R F P cP fP cR fR cF fF
  generalize w2.heap.size = g at *
  generalize w1.heap.size = f at *
  generalize w.heap.size + 1 = r at *
  have n1' : ¬ f = r := fun h => n1 h.symm
  have n2' : ¬ g = r := fun h => n2 h.symm
  obtain ⟨lR, cR, fR⟩ := id R3
  obtain ⟨lF, cF, fF⟩ := id F3
  obtain ⟨lG, cG, fG⟩ := id G3
  clear HA HB R3 F3 G3
  go_wp2
  refine bodyPost_ret (v := .tuple #[.agg #[.int .i64 0, .int .i64 0, .int .i64 0, .int .i64 0, .int .i64 0, .int .i64 0, .int .i64 0, .int .i64 0], .int .i64 0, .bool false]) (by simp [results, Try.results12, go_sem, cR]) rfl ⟨rfl, by (repeat (first | (with_reducible exact Below.refl _ _) | (with_reducible assumption) | (with_reducible refine Near.up _ ?_) | (with_reducible refine Below.drew ?_) | (with_reducible refine below_alloc_on ?_ _) | (with_reducible refine below_set_on ?_ (by first | (simp; done) | (simp; omega) | omega) _)))⟩

theorem rj_newest (a b : ByteArray) (w : World) (ha : a.size ≤ 1000000) (hb : b.size ≤ 1000000) :
    Calls Try.prog 12 #[.agg #[.string a, .string b]] w fun e w' => e = .returned (.tuple #[.agg #[.int .i64 (gtV (nwT a b) 0), .int .i64 (gtV (nwT a b) 1), .int .i64 (gtV (nwT a b) 2), .int .i64 (gtV (nwT a b) 3), .int .i64 (gtV (nwT a b) 4), .int .i64 (gtV (nwT a b) 5), .int .i64 (gtV (nwT a b) 6), .int .i64 (gtV (nwT a b) 7)], .int .i64 (nwS a b), .bool (gtB (nwT a b))]) ∧ Below w.heap.size w w' := by
  have HA := Lib.hid fun w => rj_get a w ha
  have HB := Lib.hid fun w => rj_get b w hb
  cases hA : gtB a <;> cases hB : gtB b
  · rw [hA] at HA
    rw [hB] at HB
    have e1 : nwT a b = b := by unfold nwT nwF; rw [hA]; rfl
    have e2 : nwS a b = 0 := by unfold nwS nwF; rw [hA, hB]; rfl
    rw [e1, e2, hB]
    simp only [gt_none hB]
    exact rnw_5 a b _ _ _ _ _ _ _ _ _ _ _ _ _ _ _ _ w HA HB
  · rw [hA] at HA
    rw [hB] at HB
    have e1 : nwT a b = b := by unfold nwT nwF; rw [hA]; rfl
    have e2 : nwS a b = 1 := by unfold nwS nwF; rw [hA, hB]; rfl
    rw [e1, e2, hB]
    exact rnw_4 a b _ _ _ _ _ _ _ _ _ _ _ _ _ _ _ _ w HA HB
  · rw [hA] at HA
    rw [hB] at HB
    have e1 : nwT a b = a := by unfold nwT nwF; rw [hA, hB]; rfl
    have e2 : nwS a b = 0 := by unfold nwS nwF; rw [hA, hB]; rfl
    rw [e1, e2, hA]
    exact rnw_3 a b _ _ _ _ _ _ _ _ _ _ _ _ _ _ _ _ w HA HB
  · rw [hA] at HA
    rw [hB] at HB
    by_cases h : gtV b 0 ≤ gtV a 0
    · have e1 : nwT a b = a := by unfold nwT nwF; rw [hA, hB, decide_eq_true h]; rfl
      have e2 : nwS a b = 0 := by unfold nwS nwF; rw [hA, hB, decide_eq_true h]; rfl
      rw [e1, e2, hA]
      exact rnw_1 a b _ _ _ _ _ _ _ _ _ _ _ _ _ _ _ _ w HA HB h
    · have e1 : nwT a b = b := by unfold nwT nwF; rw [hA, hB, decide_eq_false h]; rfl
      have e2 : nwS a b = 1 := by unfold nwS nwF; rw [hA, hB, decide_eq_false h]; rfl
      rw [e1, e2, hB]
      exact rnw_2 a b _ _ _ _ _ _ _ _ _ _ _ _ _ _ _ _ w HA HB h

end Go.Proofs.Ytagedifalinklaa
