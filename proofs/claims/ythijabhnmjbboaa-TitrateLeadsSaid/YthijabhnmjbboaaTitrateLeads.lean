/- TitrateLeads holds of every programme and every rate: each rate can be changed to from the one ahead, there are at most eight, and the last one is the wanted one. No condition. -/
import Derived.Test.YthijabhnmjbboaaLaw38
import Derived.Test.YthijabhnmjbboaaLeaf
import Derived.Deep.DeepCutAuto
import Derived.Deep.LoopGhost
namespace Go.Proofs.Ythijabhnmjbboaa.titrateLeads
open Go.ChangeShapes Go.WideShapes Go.ChangeAt Go.RowKit
set_option linter.unusedVariables false
set_option linter.unusedSimpArgs false
attribute [local go_sem] cell_set_ite Near.cell Near.frozen
attribute [local go_sem ↓] Go.wp_at_zero Go.wp_at_succ

theorem step_is {q v s n : Int} (h : ckV q v s = 0) (h2 : ckV n v s = 0) : chE q v s (stV q n) = 0 := by
  obtain ⟨_, q0, _, _, _, _⟩ := ck_ok h
  obtain ⟨_, n0, _, _, _, _⟩ := ck_ok h2
  have h3 := st_ck h h2
  unfold chE
  rw [if_neg (by simpa using h), if_neg (by simpa using h3), if_pos (st_st q0 n0).symm]
theorem getD_mid {zs : List Int} {x : Int} {ys : List Int} : (zs ++ x :: ys).getD zs.length 0 = x := by
  simp [List.getD]

set_option maxRecDepth 100000 in
set_option maxHeartbeats 2000000 in
theorem bad (r v s n : Int) (W : World) (h : ¬ (ckV r v s = 0 ∧ ckV n v s = 0)) :
    Calls Try.prog 10 #[.agg #[.int .i64 r, .int .i64 v, .int .i64 s], .int .i64 n] W fun e W' => e = .returned (.bool true) ∧ Below W.heap.size W W' := by
  have A : Below W.heap.size W W := Below.refl _ _
  have H1 := fun w => tt_towards r v s n w
  rw [show twL r v s n = [] from if_neg h] at H1
  have H2 := Lib.hid (fun w => pr_check r v s w)
  have H3 := Lib.hid (fun w => pr_check n v s w)
  have hE : twE r v s n ≠ 0 := by
    unfold twE
    by_cases h1 : ckV r v s = 0
    · rw [if_neg (by simpa using h1)]; exact fun h2 => h ⟨h1, h2⟩
    · rw [if_pos h1]; exact h1
  by_cases h1 : ckV r v s = 0
  · have h2 : ckV n v s ≠ 0 := fun h2 => h ⟨h1, h2⟩
    rw [h1] at H2
    generalize twE r v s n = E at *
    generalize ckV n v s = F at *
    have t1 : (E != 0) = true := by simpa using hE
    have t2 : (F != 0) = true := by simpa using h2
    have H1 := Lib.hid H1
    clear h h1 h2 hE
    go_enter Try.func10, Try.ntmps10
    go_wp2_with (fail)
    refine (H1.out _).mono ?_
    rintro e w1 ⟨B, d, rfl, hd, hi, hb⟩
    replace A : Below W.heap.size W w1 := below_call (by (repeat (first | (with_reducible exact Below.refl _ _) | (with_reducible assumption) | (with_reducible refine Near.up _ ?_) | (with_reducible refine Below.drew ?_) | (with_reducible refine below_alloc_on ?_ _) | (with_reducible refine below_set_on ?_ (by first | (simp; done) | (simp; omega) | omega) _)))) hb
    have P := Box.below (g := W.heap.size) (by (repeat (first | (with_reducible assumption) | (with_reducible exact box_new _ _ _) | ((with_reducible apply box_at); (first | (with_reducible rfl) | (simp <;> omega))) | (with_reducible apply Box.drew) | (with_reducible apply Box.drewN) | (with_reducible apply Box.near) | (with_reducible apply Box.alloc) | ((with_reducible apply box_far); (first | assumption | omega | (simp <;> omega))) | ((with_reducible apply Box.one_set); (with_reducible assumption)) | ((with_reducible apply Box.two_set); (with_reducible assumption)) | ((with_reducible apply Box.three_set); (with_reducible assumption)) | (with_reducible apply Box.set) | (simp only [List.size_toArray, List.length_cons, List.length_nil, Array.size_setIfInBounds] <;> omega)))) hb (cs := #[.int .i64 r, .int .i64 v, .int .i64 s])
    clear hb hi hd
    obtain ⟨lP, cP, fP⟩ := id P
    go_wp2_with (fail)
    refine (H2.out _).mono ?_
    rintro e w2 ⟨rfl, hb⟩
    replace A : Below W.heap.size W w2 := by (refine below_call ?_ hb; (repeat (first | (with_reducible exact Below.refl _ _) | (with_reducible assumption) | (with_reducible refine Near.up _ ?_) | (with_reducible refine Below.drew ?_) | (with_reducible refine below_alloc_on ?_ _) | (with_reducible refine below_set_on ?_ (by first | (simp; done) | (simp; omega) | omega) _))))
    replace P := Box.below (g := W.heap.size) (by (repeat (first | (with_reducible assumption) | (with_reducible exact box_new _ _ _) | ((with_reducible apply box_at); (first | (with_reducible rfl) | (simp <;> omega))) | (with_reducible apply Box.drew) | (with_reducible apply Box.drewN) | (with_reducible apply Box.near) | (with_reducible apply Box.alloc) | ((with_reducible apply box_far); (first | assumption | omega | (simp <;> omega))) | ((with_reducible apply Box.one_set); (with_reducible assumption)) | ((with_reducible apply Box.two_set); (with_reducible assumption)) | ((with_reducible apply Box.three_set); (with_reducible assumption)) | (with_reducible apply Box.set) | (simp only [List.size_toArray, List.length_cons, List.length_nil, Array.size_setIfInBounds] <;> omega)))) hb
    (try simp only [List.setIfInBounds_toArray, List.set_cons_zero, List.set_cons_succ] at P)
    (try clear cP fP)
    clear hb
    have z_w2 : W.heap.size ≤ w2.heap.size := A.size
    obtain ⟨lP_w2, cP, fP⟩ := id P
    go_wp2_with (fail)
    refine (H3.out _).mono ?_
    rintro e w3 ⟨rfl, hb⟩
    replace A : Below W.heap.size W w3 := by (refine below_call ?_ hb; (repeat (first | (with_reducible exact Below.refl _ _) | (with_reducible assumption) | (with_reducible refine Near.up _ ?_) | (with_reducible refine Below.drew ?_) | (with_reducible refine below_alloc_on ?_ _) | (with_reducible refine below_set_on ?_ (by first | (simp; done) | (simp; omega) | omega) _))))
    replace P := Box.below (g := W.heap.size) (by (repeat (first | (with_reducible assumption) | (with_reducible exact box_new _ _ _) | ((with_reducible apply box_at); (first | (with_reducible rfl) | (simp <;> omega))) | (with_reducible apply Box.drew) | (with_reducible apply Box.drewN) | (with_reducible apply Box.near) | (with_reducible apply Box.alloc) | ((with_reducible apply box_far); (first | assumption | omega | (simp <;> omega))) | ((with_reducible apply Box.one_set); (with_reducible assumption)) | ((with_reducible apply Box.two_set); (with_reducible assumption)) | ((with_reducible apply Box.three_set); (with_reducible assumption)) | (with_reducible apply Box.set) | (simp only [List.size_toArray, List.length_cons, List.length_nil, Array.size_setIfInBounds] <;> omega)))) hb
    (try simp only [List.setIfInBounds_toArray, List.set_cons_zero, List.set_cons_succ] at P)
    (try clear cP fP)
    clear hb
    have z_w3 : W.heap.size ≤ w3.heap.size := A.size
    obtain ⟨lP_w3, cP, fP⟩ := id P
    go_wp2_with (fail)
    refine (law38_awake _).mono ?_
    rintro e w4 ⟨rfl, hb⟩
    replace A : Below W.heap.size W w4 := by (refine below_call ?_ hb; (repeat (first | (with_reducible exact Below.refl _ _) | (with_reducible assumption) | (with_reducible refine Near.up _ ?_) | (with_reducible refine Below.drew ?_) | (with_reducible refine below_alloc_on ?_ _) | (with_reducible refine below_set_on ?_ (by first | (simp; done) | (simp; omega) | omega) _))))
    clear hb
    have z_w4 : W.heap.size ≤ w4.heap.size := A.size
    go_wp2
    all_goals go_ret
    all_goals exact ⟨rfl, A⟩
  · generalize twE r v s n = E at *
    generalize ckV r v s = F at *
    have t1 : (E != 0) = true := by simpa using hE
    have t2 : (F != 0) = true := by simpa using h1
    have H1 := Lib.hid H1
    clear h h1 hE
    go_enter Try.func10, Try.ntmps10
    go_wp2_with (fail)
    refine (H1.out _).mono ?_
    rintro e w1 ⟨B, d, rfl, hd, hi, hb⟩
    replace A : Below W.heap.size W w1 := below_call (by (repeat (first | (with_reducible exact Below.refl _ _) | (with_reducible assumption) | (with_reducible refine Near.up _ ?_) | (with_reducible refine Below.drew ?_) | (with_reducible refine below_alloc_on ?_ _) | (with_reducible refine below_set_on ?_ (by first | (simp; done) | (simp; omega) | omega) _)))) hb
    have P := Box.below (g := W.heap.size) (by (repeat (first | (with_reducible assumption) | (with_reducible exact box_new _ _ _) | ((with_reducible apply box_at); (first | (with_reducible rfl) | (simp <;> omega))) | (with_reducible apply Box.drew) | (with_reducible apply Box.drewN) | (with_reducible apply Box.near) | (with_reducible apply Box.alloc) | ((with_reducible apply box_far); (first | assumption | omega | (simp <;> omega))) | ((with_reducible apply Box.one_set); (with_reducible assumption)) | ((with_reducible apply Box.two_set); (with_reducible assumption)) | ((with_reducible apply Box.three_set); (with_reducible assumption)) | (with_reducible apply Box.set) | (simp only [List.size_toArray, List.length_cons, List.length_nil, Array.size_setIfInBounds] <;> omega)))) hb (cs := #[.int .i64 r, .int .i64 v, .int .i64 s])
    clear hb hi hd
    obtain ⟨lP, cP, fP⟩ := id P
    go_wp2_with (fail)
    refine (H2.out _).mono ?_
    rintro e w2 ⟨rfl, hb⟩
    replace A : Below W.heap.size W w2 := by (refine below_call ?_ hb; (repeat (first | (with_reducible exact Below.refl _ _) | (with_reducible assumption) | (with_reducible refine Near.up _ ?_) | (with_reducible refine Below.drew ?_) | (with_reducible refine below_alloc_on ?_ _) | (with_reducible refine below_set_on ?_ (by first | (simp; done) | (simp; omega) | omega) _))))
    replace P := Box.below (g := W.heap.size) (by (repeat (first | (with_reducible assumption) | (with_reducible exact box_new _ _ _) | ((with_reducible apply box_at); (first | (with_reducible rfl) | (simp <;> omega))) | (with_reducible apply Box.drew) | (with_reducible apply Box.drewN) | (with_reducible apply Box.near) | (with_reducible apply Box.alloc) | ((with_reducible apply box_far); (first | assumption | omega | (simp <;> omega))) | ((with_reducible apply Box.one_set); (with_reducible assumption)) | ((with_reducible apply Box.two_set); (with_reducible assumption)) | ((with_reducible apply Box.three_set); (with_reducible assumption)) | (with_reducible apply Box.set) | (simp only [List.size_toArray, List.length_cons, List.length_nil, Array.size_setIfInBounds] <;> omega)))) hb
    (try simp only [List.setIfInBounds_toArray, List.set_cons_zero, List.set_cons_succ] at P)
    (try clear cP fP)
    clear hb
    have z_w2 : W.heap.size ≤ w2.heap.size := A.size
    obtain ⟨lP_w2, cP, fP⟩ := id P
    go_wp2_with (fail)
    refine (law38_awake _).mono ?_
    rintro e w4 ⟨rfl, hb⟩
    replace A : Below W.heap.size W w4 := by (refine below_call ?_ hb; (repeat (first | (with_reducible exact Below.refl _ _) | (with_reducible assumption) | (with_reducible refine Near.up _ ?_) | (with_reducible refine Below.drew ?_) | (with_reducible refine below_alloc_on ?_ _) | (with_reducible refine below_set_on ?_ (by first | (simp; done) | (simp; omega) | omega) _))))
    clear hb
    have z_w4 : W.heap.size ≤ w4.heap.size := A.size
    go_wp2
    all_goals go_ret
    all_goals exact ⟨rfl, A⟩

set_option maxRecDepth 100000 in
set_option maxHeartbeats 4000000 in
theorem good (r v s n : Int) (W : World) (h1 : ckV r v s = 0) (h2 : ckV n v s = 0) :
    Calls Try.prog 10 #[.agg #[.int .i64 r, .int .i64 v, .int .i64 s], .int .i64 n] W fun e W' => e = .returned (.bool true) ∧ Below W.heap.size W W' := by
  have A : Below W.heap.size W W := Below.refl _ _
  have H1 := fun w => tt_towards r v s n w
  rw [show twL r v s n = wayL 8 r n from if_pos ⟨h1, h2⟩, show twE r v s n = 0 by unfold twE; rw [if_neg (by simpa using h1), h2]] at H1
  have H2 := fun w => pr_check r v s w
  have H3 := fun w => pr_check n v s w
  rw [h1] at H2
  rw [h2] at H3
  have H1 := Lib.hid H1
  have H2 := Lib.hid H2
  have H3 := Lib.hid H3
  obtain ⟨_, r0, r1, _, _, _⟩ := ck_ok h1
  obtain ⟨_, n0, n1, _, _, _⟩ := ck_ok h2
  have hreach := reach_8 r0 r1 n0 n1
  have hl := way_len 8 r n
  have HC1 := Lib.hid h1
  have HC2 := Lib.hid h2
  clear h1 h2
  obtain ⟨Y, hY⟩ : ∃ Y, wayL 8 r n = Y := ⟨_, rfl⟩
  rw [hY] at H1 hl
  go_enter Try.func10, Try.ntmps10
  go_wp2_with (fail)
  refine (H1.out _).mono ?_
  rintro e w1 ⟨B, d, rfl, hd, hi, hb⟩
  have A1 : Below W.heap.size W w1 := below_call (by (repeat (first | (with_reducible exact Below.refl _ _) | (with_reducible assumption) | (with_reducible refine Near.up _ ?_) | (with_reducible refine Below.drew ?_) | (with_reducible refine below_alloc_on ?_ _) | (with_reducible refine below_set_on ?_ (by first | (simp; done) | (simp; omega) | omega) _)))) hb
  have P1 := Box.below (g := W.heap.size) (by (repeat (first | (with_reducible assumption) | (with_reducible exact box_new _ _ _) | ((with_reducible apply box_at); (first | (with_reducible rfl) | (simp <;> omega))) | (with_reducible apply Box.drew) | (with_reducible apply Box.drewN) | (with_reducible apply Box.near) | (with_reducible apply Box.alloc) | ((with_reducible apply box_far); (first | assumption | omega | (simp <;> omega))) | ((with_reducible apply Box.one_set); (with_reducible assumption)) | ((with_reducible apply Box.two_set); (with_reducible assumption)) | ((with_reducible apply Box.three_set); (with_reducible assumption)) | (with_reducible apply Box.set) | (simp only [List.size_toArray, List.length_cons, List.length_nil, Array.size_setIfInBounds] <;> omega)))) hb (cs := #[.int .i64 r, .int .i64 v, .int .i64 s])
  clear hb
  have HI := Lib.hid hi
  clear hi
  obtain ⟨lP, cP, fP⟩ := id P1
  replace A : Below w1.heap.size w1 w1 := Below.refl _ _
  have P := P1
  have lP1 := P1.1
  go_wp2_with (fail)
  refine (H2.out _).mono ?_
  rintro e w2 ⟨rfl, hb⟩
  replace A : Below w1.heap.size w1 w2 := by (refine below_call ?_ hb; (repeat (first | (with_reducible exact Below.refl _ _) | (with_reducible assumption) | (with_reducible refine Near.up _ ?_) | (with_reducible refine Below.drew ?_) | (with_reducible refine below_alloc_on ?_ _) | (with_reducible refine below_set_on ?_ (by first | (simp; done) | (simp; omega) | omega) _))))
  replace P := Box.below (g := W.heap.size) (by (repeat (first | (with_reducible assumption) | (with_reducible exact box_new _ _ _) | ((with_reducible apply box_at); (first | (with_reducible rfl) | (simp <;> omega))) | (with_reducible apply Box.drew) | (with_reducible apply Box.drewN) | (with_reducible apply Box.near) | (with_reducible apply Box.alloc) | ((with_reducible apply box_far); (first | assumption | omega | (simp <;> omega))) | ((with_reducible apply Box.one_set); (with_reducible assumption)) | ((with_reducible apply Box.two_set); (with_reducible assumption)) | ((with_reducible apply Box.three_set); (with_reducible assumption)) | (with_reducible apply Box.set) | (simp only [List.size_toArray, List.length_cons, List.length_nil, Array.size_setIfInBounds] <;> omega)))) hb
  (try simp only [List.setIfInBounds_toArray, List.set_cons_zero, List.set_cons_succ] at P)
  (try clear cP fP)
  clear hb
  have z_w2 : w1.heap.size ≤ w2.heap.size := A.size
  obtain ⟨lP_w2, cP, fP⟩ := id P
  go_wp2_with (fail)
  refine (H3.out _).mono ?_
  rintro e w3 ⟨rfl, hb⟩
  replace A : Below w1.heap.size w1 w3 := by (refine below_call ?_ hb; (repeat (first | (with_reducible exact Below.refl _ _) | (with_reducible assumption) | (with_reducible refine Near.up _ ?_) | (with_reducible refine Below.drew ?_) | (with_reducible refine below_alloc_on ?_ _) | (with_reducible refine below_set_on ?_ (by first | (simp; done) | (simp; omega) | omega) _))))
  replace P := Box.below (g := W.heap.size) (by (repeat (first | (with_reducible assumption) | (with_reducible exact box_new _ _ _) | ((with_reducible apply box_at); (first | (with_reducible rfl) | (simp <;> omega))) | (with_reducible apply Box.drew) | (with_reducible apply Box.drewN) | (with_reducible apply Box.near) | (with_reducible apply Box.alloc) | ((with_reducible apply box_far); (first | assumption | omega | (simp <;> omega))) | ((with_reducible apply Box.one_set); (with_reducible assumption)) | ((with_reducible apply Box.two_set); (with_reducible assumption)) | ((with_reducible apply Box.three_set); (with_reducible assumption)) | (with_reducible apply Box.set) | (simp only [List.size_toArray, List.length_cons, List.length_nil, Array.size_setIfInBounds] <;> omega)))) hb
  (try simp only [List.setIfInBounds_toArray, List.set_cons_zero, List.set_cons_succ] at P)
  (try clear cP fP)
  clear hb
  have z_w3 : w1.heap.size ≤ w3.heap.size := A.size
  obtain ⟨lP_w3, cP, fP⟩ := id P
  go_upto_region 6 with fail
  replace A := below_alloc_on A (.cells #[.int .i64 r, .int .i64 v, .int .i64 s] 50)
  have Q := box_new w3 #[.int .i64 r, .int .i64 v, .int .i64 s] 50
  generalize w3.alloc (.cells #[.int .i64 r, .int .i64 v, .int .i64 s] 50) = w4 at *
  have hg : w1.heap.size ≤ w3.heap.size := z_w3
  generalize w3.heap.size = g at *
  clear P cP fP lP
  go_loopg [43] 8 (fun k i wr => ∃ (q : Int) (zs : List Int), k ≤ 8 ∧ i = .int .i64 (zs.length : Nat) ∧ Hid (ckV q v s = 0) ∧ Reach k q n ∧ Y = zs ++ wayL k q n ∧ Below w1.heap.size w1 wr ∧ Box wr g #[.int .i64 q, .int .i64 v, .int .i64 s])
  case atStart => exact ⟨r, [], Nat.le_refl _, rfl, HC1, hreach, hY.symm, A, Q⟩
  case round =>
    clear A Q hY hreach
    obtain ⟨q, zs, hk, rfl, hck, hq, hYz, A, Q⟩ := hrel
    obtain ⟨_, q0, q1, _, _, _⟩ := ck_ok hck.out
    have hlen := congrArg List.length hYz
    rw [List.length_append] at hlen
    by_cases hn : q = n
    · subst hn
      rw [way_done] at hlen
      have e1 : zs.length = Y.length := by simpa using hlen.symm
      rw [e1]
      have t1 : (q == q) = true := by simp
      have t2 : decide ((Y.length : Int) ≤ 8) = true := decide_eq_true (by omega)
      obtain ⟨lQ, cQ, fQ⟩ := id Q
      clear hq hYz hlen e1
      go_wp2_with (fail)
      refine (law38_awake _).mono ?_
      rintro e w5 ⟨rfl, hb⟩
      replace A : Below w1.heap.size w1 w5 := by (refine below_call ?_ hb; (repeat (first | (with_reducible exact Below.refl _ _) | (with_reducible assumption) | (with_reducible refine Near.up _ ?_) | (with_reducible refine Below.drew ?_) | (with_reducible refine below_alloc_on ?_ _) | (with_reducible refine below_set_on ?_ (by first | (simp; done) | (simp; omega) | omega) _))))
      clear hb
      have z_w5 : w1.heap.size ≤ w5.heap.size := A.size
      go_wp2
      all_goals go_ret
      all_goals exact ⟨rfl, A1.trans (A.mono A1.size)⟩
    · obtain ⟨j, rfl, hw⟩ := way_more hq hn
      rw [hw] at hYz hlen
      have hr2 := reach_next hq q0 n0 hn
      have hne := st_ne q0 n0 hn
      have HS := Lib.hid (fun w => tt_change q v s (stV q n) w)
      rw [step_is hck.out HC2.out] at HS
      have hck2 := Lib.hid (st_ck hck.out HC2.out)
      have hlt : zs.length < Y.length := by rw [hlen]; simp
      have hgx : Y.getD zs.length 0 = stV q n := by rw [hYz]; exact getD_mid
      generalize stV q n = X at *
      rw [show ∀ a, orN 0 a = a from fun a => rfl, show ∀ a, orN 0 a = a from fun a => rfl, show ∀ a, orN 0 a = a from fun a => rfl] at HS
      obtain ⟨b, off, rfl, hbs, hcell⟩ := HI.out.at_ hlt
      rw [hgx] at hcell
      clear hgx hw hlen hq
      have HY := Lib.hid hYz
      have HR := Lib.hid hr2
      clear hYz hr2
      obtain ⟨m, hm⟩ : ∃ m, zs.length = m := ⟨_, rfl⟩
      rw [hm] at hlt hcell
      simp only [hm]
      have HM := Lib.hid hm
      clear hm
      have X0 : Bx w1 g #[.int .i64 q, .int .i64 v, .int .i64 s] wr := ⟨Q, A, hg⟩
      have lq := X0.lt
      have zw : w1.heap.size ≤ wr.heap.size := A.size
      have t3 : (X == q) = false := by simpa using hne
      have t4 : (X != X) = false := by simp
      go_upto_region 8 with fail
      go_cut [9, 10, 43] from 43 to 86 (fun x f i wx => ∃ d, x = .pointer (some ⟨d, 0, none⟩) ∧ f = .int .i64 0 ∧ i = .int .i64 (m : Nat) ∧ d ≠ g ∧ w1.heap.size ≤ d ∧ Bx w1 g #[.int .i64 q, .int .i64 v, .int .i64 s] wx ∧ Box wx d #[.int .i64 X, .int .i64 v, .int .i64 s])
      case first =>
        go_region_held3 (fun w' => w'.cell? ⟨g, 0, none⟩ = some (.int .i64 q) ∧ w'.cell? ⟨g, 1, none⟩ = some (.int .i64 v) ∧ w'.cell? ⟨g, 2, none⟩ = some (.int .i64 s) ∧ g < w'.heap.size ∧ Bx w1 g #[.int .i64 q, .int .i64 v, .int .i64 s] w' ∧ w'.cell? ⟨b, off + m, none⟩ = some (.int .i64 X))
          ((exact ⟨Bx.cell (W := w1) (g := g) (cs := #[.int .i64 q, .int .i64 v, .int .i64 s]) (by (repeat (first | assumption | (exact (by assumption : (_ : World).cell? ⟨g, 0, none⟩ = some (.int .i64 q) ∧ (_ : World).cell? ⟨g, 1, none⟩ = some (.int .i64 v) ∧ (_ : World).cell? ⟨g, 2, none⟩ = some (.int .i64 s) ∧ g < (_ : World).heap.size ∧ Bx w1 g #[.int .i64 q, .int .i64 v, .int .i64 s] (_ : World) ∧ (_ : World).cell? ⟨b, off + m, none⟩ = some (.int .i64 X)).2.2.2.2.1) | (refine Bx.call ?_ hb) | (refine Bx.drew ?_) | (refine Bx.alloc ?_ _) | (refine Bx.far2 ?_ (by first | (simp; done) | (simp; omega) | omega) (by first | (simp; done) | (simp; omega) | omega) _)))) 0 _ rfl, Bx.cell (W := w1) (g := g) (cs := #[.int .i64 q, .int .i64 v, .int .i64 s]) (by (repeat (first | assumption | (exact (by assumption : (_ : World).cell? ⟨g, 0, none⟩ = some (.int .i64 q) ∧ (_ : World).cell? ⟨g, 1, none⟩ = some (.int .i64 v) ∧ (_ : World).cell? ⟨g, 2, none⟩ = some (.int .i64 s) ∧ g < (_ : World).heap.size ∧ Bx w1 g #[.int .i64 q, .int .i64 v, .int .i64 s] (_ : World) ∧ (_ : World).cell? ⟨b, off + m, none⟩ = some (.int .i64 X)).2.2.2.2.1) | (refine Bx.call ?_ hb) | (refine Bx.drew ?_) | (refine Bx.alloc ?_ _) | (refine Bx.far2 ?_ (by first | (simp; done) | (simp; omega) | omega) (by first | (simp; done) | (simp; omega) | omega) _)))) 1 _ rfl, Bx.cell (W := w1) (g := g) (cs := #[.int .i64 q, .int .i64 v, .int .i64 s]) (by (repeat (first | assumption | (exact (by assumption : (_ : World).cell? ⟨g, 0, none⟩ = some (.int .i64 q) ∧ (_ : World).cell? ⟨g, 1, none⟩ = some (.int .i64 v) ∧ (_ : World).cell? ⟨g, 2, none⟩ = some (.int .i64 s) ∧ g < (_ : World).heap.size ∧ Bx w1 g #[.int .i64 q, .int .i64 v, .int .i64 s] (_ : World) ∧ (_ : World).cell? ⟨b, off + m, none⟩ = some (.int .i64 X)).2.2.2.2.1) | (refine Bx.call ?_ hb) | (refine Bx.drew ?_) | (refine Bx.alloc ?_ _) | (refine Bx.far2 ?_ (by first | (simp; done) | (simp; omega) | omega) (by first | (simp; done) | (simp; omega) | omega) _)))) 2 _ rfl, Bx.lt (W := w1) (g := g) (cs := #[.int .i64 q, .int .i64 v, .int .i64 s]) (by (repeat (first | assumption | (exact (by assumption : (_ : World).cell? ⟨g, 0, none⟩ = some (.int .i64 q) ∧ (_ : World).cell? ⟨g, 1, none⟩ = some (.int .i64 v) ∧ (_ : World).cell? ⟨g, 2, none⟩ = some (.int .i64 s) ∧ g < (_ : World).heap.size ∧ Bx w1 g #[.int .i64 q, .int .i64 v, .int .i64 s] (_ : World) ∧ (_ : World).cell? ⟨b, off + m, none⟩ = some (.int .i64 X)).2.2.2.2.1) | (refine Bx.call ?_ hb) | (refine Bx.drew ?_) | (refine Bx.alloc ?_ _) | (refine Bx.far2 ?_ (by first | (simp; done) | (simp; omega) | omega) (by first | (simp; done) | (simp; omega) | omega) _)))), (by (repeat (first | assumption | (exact (by assumption : (_ : World).cell? ⟨g, 0, none⟩ = some (.int .i64 q) ∧ (_ : World).cell? ⟨g, 1, none⟩ = some (.int .i64 v) ∧ (_ : World).cell? ⟨g, 2, none⟩ = some (.int .i64 s) ∧ g < (_ : World).heap.size ∧ Bx w1 g #[.int .i64 q, .int .i64 v, .int .i64 s] (_ : World) ∧ (_ : World).cell? ⟨b, off + m, none⟩ = some (.int .i64 X)).2.2.2.2.1) | (refine Bx.call ?_ hb) | (refine Bx.drew ?_) | (refine Bx.alloc ?_ _) | (refine Bx.far2 ?_ (by first | (simp; done) | (simp; omega) | omega) (by first | (simp; done) | (simp; omega) | omega) _)))), ((Bx.bel (W := w1) (g := g) (cs := #[.int .i64 q, .int .i64 v, .int .i64 s]) (by (repeat (first | assumption | (exact (by assumption : (_ : World).cell? ⟨g, 0, none⟩ = some (.int .i64 q) ∧ (_ : World).cell? ⟨g, 1, none⟩ = some (.int .i64 v) ∧ (_ : World).cell? ⟨g, 2, none⟩ = some (.int .i64 s) ∧ g < (_ : World).heap.size ∧ Bx w1 g #[.int .i64 q, .int .i64 v, .int .i64 s] (_ : World) ∧ (_ : World).cell? ⟨b, off + m, none⟩ = some (.int .i64 X)).2.2.2.2.1) | (refine Bx.call ?_ hb) | (refine Bx.drew ?_) | (refine Bx.alloc ?_ _) | (refine Bx.far2 ?_ (by first | (simp; done) | (simp; omega) | omega) (by first | (simp; done) | (simp; omega) | omega) _))))).cell (p := ⟨b, off + m, none⟩) hbs).trans hcell⟩))
          (first | (go_at_call 35; refine (HS.out _).mono ?_; rintro e w5 ⟨rfl, hb⟩; have Y0 : Bx w1 g #[.int .i64 q, .int .i64 v, .int .i64 s] w5 := (by (repeat (first | assumption | (exact (by assumption : (_ : World).cell? ⟨g, 0, none⟩ = some (.int .i64 q) ∧ (_ : World).cell? ⟨g, 1, none⟩ = some (.int .i64 v) ∧ (_ : World).cell? ⟨g, 2, none⟩ = some (.int .i64 s) ∧ g < (_ : World).heap.size ∧ Bx w1 g #[.int .i64 q, .int .i64 v, .int .i64 s] (_ : World) ∧ (_ : World).cell? ⟨b, off + m, none⟩ = some (.int .i64 X)).2.2.2.2.1) | (refine Bx.call ?_ hb) | (refine Bx.drew ?_) | (refine Bx.alloc ?_ _) | (refine Bx.far2 ?_ (by first | (simp; done) | (simp; omega) | omega) (by first | (simp; done) | (simp; omega) | omega) _)))); have y0 := Y0.lt; (first | (have Z := (box_new _ _ _).drew.below hb; have z0 := Z.three.1; have z1 := Z.three.2.1; have z2 := Z.three.2.2.1; have zf := Z.three.2.2.2.1; have zl := Z.1) | (have Z := (box_new _ _ _).below hb; have z0 := Z.three.1; have z1 := Z.three.2.1; have z2 := Z.three.2.2.1; have zf := Z.three.2.2.2.1; have zl := Z.1) | skip)))
        all_goals go_wp2_with (fail)
        all_goals go_meet
        all_goals exact ⟨_, rfl, rfl, rfl, by omega, by omega, by (repeat (first | (with_reducible assumption) | (with_reducible refine Bx.drew ?_) | (with_reducible refine Bx.alloc ?_ _) | (with_reducible refine Bx.far2 ?_ (by first | (simp; done) | (simp; omega) | omega) (by first | (simp; done) | (simp; omega) | omega) _))), by (repeat (first | (with_reducible assumption) | (with_reducible exact box_new _ _ _) | ((with_reducible apply box_at); (first | (with_reducible rfl) | (simp <;> omega))) | (with_reducible apply Box.drew) | (with_reducible apply Box.drewN) | (with_reducible apply Box.near) | (with_reducible apply Box.alloc) | ((with_reducible apply box_far); (first | assumption | omega | (simp <;> omega))) | ((with_reducible apply Box.one_set); (with_reducible assumption)) | ((with_reducible apply Box.two_set); (with_reducible assumption)) | ((with_reducible apply Box.three_set); (with_reducible assumption)) | (with_reducible apply Box.set) | (simp only [List.size_toArray, List.length_cons, List.length_nil, Array.size_setIfInBounds] <;> omega)))⟩
      case rest =>
        clear X0 lq zw A Q
        obtain ⟨d2, rfl, rfl, rfl, hd1, hd2, X0, D⟩ := hcut
        have A := X0.bel
        have Q := X0.box
        have hcell2 := (A.cell (p := ⟨b, off + m, none⟩) hbs).trans hcell
        have hbq : b < wc.heap.size := Nat.lt_of_lt_of_le hbs A.size
        have P2 := P1.below A
        obtain ⟨lQ, cQ, fQ⟩ := id Q
        obtain ⟨lD, cD, fD⟩ := id D
        obtain ⟨lP2, cP2, fP2⟩ := id P2
        clear HS hcell X0
        go_wp2
        refine wp_region_calm (by kernel_rfl) (by kernel_rfl) ?_
        repeat (go_big_quiet_step ((fail)))
        refine wpQuiet_nil ?_
        intro _ hw'
        obtain ⟨u, rfl⟩ := hw'
        have A6 := u.up A
        have Q6 := Q.near u
        have D6 := D.near u
        generalize u.at_ = w6 at *
        clear A Q D lQ cQ fQ lD cD fD lP2 cP2 fP2 P2 hcell2 hbq
        obtain ⟨lQ, cQ, fQ⟩ := id Q6
        obtain ⟨lD, cD, fD⟩ := id D6
        go_wp2
        go_roundg j
        case rel => exact ⟨X, zs ++ [X], by omega, by rw [List.length_append, HM.out, List.length_singleton]; go_num, hck2, HR.out, by rw [HY.out]; simp, by (repeat (first | (with_reducible exact Below.refl _ _) | (with_reducible assumption) | (with_reducible refine Near.up _ ?_) | (with_reducible refine Below.drew ?_) | (with_reducible refine below_alloc_on ?_ _) | (with_reducible refine below_set_on ?_ (by first | (simp; done) | (simp; omega) | omega) _))), Q6.three_set _ _ _⟩
        case measure => omega
theorem walk (r : Int) (wr : (Lit.int .i64 r).wf = true) (v : Int) (wv : (Lit.int .i64 v).wf = true) (s : Int) (ws : (Lit.int .i64 s).wf = true) (n : Int) (wn : (Lit.int .i64 n).wf = true) (W : World) :
    Calls Try.prog 10 #[.agg #[.int .i64 r, .int .i64 v, .int .i64 s], .int .i64 n] W fun e W' => e = .returned (.bool true) ∧ Below W.heap.size W W' := by
  by_cases h : ckV r v s = 0 ∧ ckV n v s = 0
  · exact good r v s n W h.1 h.2
  · exact bad r v s n W h

set_option maxRecDepth 100000 in
theorem lifted (os : Os) (started : os.Started) (H : Type) (enc : TypeId × Value → H) :
    ReturnsInHanded {} Try.checked os 10 .any (Rows.titrateLeadsSpec.pre6 enc Try.prog Try.f10 Rows.titrateLeadsRow.domain false) (Rows.titrateLeadsSpec.post enc Try.prog Try.f10 false true false false) := by
  refine law_lift started (by kernel_rfl) Try.func10 rfl rfl ?_ (by kernel_rfl)
    (ChangeSpec.witness6 (enc := enc) (C := Try.checked) false ⟨#[], #[.agg #[.int .i64 0, .int .i64 0, .int .i64 0], .int .i64 0], []⟩ 8 (by kernel_rfl) (by kernel_rfl) (by kernel_rfl) (by kernel_rfl)) ?_
  · intro ds hl
    match ds, hl with
    | [_, _], _ => exact ⟨rfl, rfl, rfl⟩
  · intro W base args ds p hval hA hlt hwt
    rw [Try.params10] at hA hval hwt
    obtain ⟨v0, vs0, d0, ds0, p0, q0, hargs, rfl, rfl, h0, r0⟩ := trodAll_cons hA
    obtain ⟨v1, vs1, d1, ds1, p1, q1, rfl, rfl, rfl, h1, r1⟩ := trodAll_cons r0
    obtain ⟨rfl, rfl, rfl⟩ := trodAll_nil r1
    obtain rfl : args = #[v0, v1] := by cases args; simp_all
    obtain ⟨cs0, rfl, l0, k0⟩ := open_leaves 5 [.int .i64, .int .i64, .int .i64] (by kernel_rfl) (by kernel_rfl) (hval 0 50 v0 rfl rfl) h0
    match cs0, l0, k0 with
    | [y0_0, y0_1, y0_2], _, k0 =>
    obtain ⟨x0_0, e0_0, w0_0⟩ : leafIs (.int .i64) y0_0 := k0 0 _ rfl
    subst e0_0
    obtain ⟨x0_1, e0_1, w0_1⟩ : leafIs (.int .i64) y0_1 := k0 1 _ rfl
    subst e0_1
    obtain ⟨x0_2, e0_2, w0_2⟩ : leafIs (.int .i64) y0_2 := k0 2 _ rfl
    subst e0_2
    obtain ⟨a1, rfl, rfl, rfl, w1⟩ := open_int Try.underlying3 (hval 1 3 v1 rfl rfl) h1
    exact walk x0_0 w0_0 x0_1 w0_1 x0_2 w0_2 a1 w1 W

theorem over : Rows.titrateLeadsRow.holds Try.pinned (OpenSpec.ofChange Rows.titrateLeadsSpec) :=
  OpenClaim.holds_of_wide 10 Try.f10 rfl rfl rfl rfl rfl rfl rfl ⟨rfl, rfl, rfl, rfl, rfl⟩ rfl rfl rfl rfl rfl (by kernel_rfl) Try.func10 (by kernel_rfl)
    (of_decide_eq_true (by kernel_rfl)) (by unfold Func.isWrapper; first | (rw [if_pos (by decide +kernel)]; kernel_rfl) | (rw [if_neg (by decide +kernel)]; exact ⟨rfl, rfl⟩))
    (fun os started H enc _ => lifted os started H enc)

theorem proved : Rows.TitrateLeadsSaid := over
#print axioms proved
end Go.Proofs.Ythijabhnmjbboaa.titrateLeads
