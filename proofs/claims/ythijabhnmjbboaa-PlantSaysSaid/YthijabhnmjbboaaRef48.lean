/- The document's tick of a plant, and the law package's own check. -/
import Derived.Test.YthijabhnmjbboaaPlantS
namespace Go.Proofs.Ythijabhnmjbboaa
open Go.RowKit
set_option linter.unusedVariables false
set_option linter.unusedSimpArgs false
attribute [local go_sem] cell_set_ite Near.cell Near.frozen

set_option maxHeartbeats 1000000 in
theorem rq_step (L P S F o h s : Int) (l1 : L ≤ 9223372036854775807) (s1 : S ≤ 9223372036854775807) (w : World) :
    Calls Try.prog 22 #[.agg #[.int .i64 L, .int .i64 P, .int .i64 S, .int .i64 F], .int .i64 o, .int .i64 h, .int .i64 s] w fun e w' =>
      e = .returned (.tuple #[.agg #[.int .i64 (plL L P s o h), .int .i64 (plP L P s o h), .int .i64 (plS L P S s o h), .int .i64 (plF L P F s o h)], .int .i64 (plX L P S s o h)]) ∧ Below w.heap.size w w' := by
  have A : Below w.heap.size w w := Below.refl _ _
  have HU := Lib.hid (fun w => rp_unit s w)
  have HF := Lib.hid (fun w => rp_flow o h w)
  have ⟨f0, f1⟩ := fw_bd o h
  unfold plS plX
  rcases pl_ways L P S F s o h with ⟨k, e1, e2, e3, e4⟩ | ⟨k, q, e1, e2, e3, e4⟩ | ⟨k, q, e1, e2, e3, e4⟩
  · rw [e1, e2, e3, e4]
    have hk := of_decide_eq_false k
    generalize unV s = U at *
    clear e1 e2 e3 e4 k HF f0 f1
    by_cases hs : S ≤ 0
    · rw [if_pos hs, if_pos hs]
      have t1 := decide_eq_true hs
      by_cases hu : 0 < U
      · have t2 := decide_eq_true hu
        have t3 : decide (0 < L) = false := decide_eq_false (by omega)
        clear hs hk
        go_enter Try.func22, Try.ntmps22
        go_wp2_with (go_at_call 24; refine (HU.out _).mono ?_; rintro e w' ⟨rfl, rfl⟩)
        refine bodyPost_ret (v := .tuple #[.agg #[.int .i64 L, .int .i64 P, .int .i64 S, .int .i64 F], .int .i64 3000]) (by simp [results, Try.results22, go_sem]) rfl ⟨rfl, by (repeat (first | (with_reducible exact Below.refl _ _) | (with_reducible assumption) | (with_reducible refine Near.up _ ?_) | (with_reducible refine Below.drew ?_) | (with_reducible refine below_alloc_on ?_ _) | (with_reducible refine below_set_on ?_ (by first | (simp; done) | (simp; omega) | omega) _)))⟩
      · have t2 := decide_eq_false hu
        clear hs hk
        go_enter Try.func22, Try.ntmps22
        go_wp2_with (go_at_call 24; refine (HU.out _).mono ?_; rintro e w' ⟨rfl, rfl⟩)
        refine bodyPost_ret (v := .tuple #[.agg #[.int .i64 L, .int .i64 P, .int .i64 S, .int .i64 F], .int .i64 3000]) (by simp [results, Try.results22, go_sem]) rfl ⟨rfl, by (repeat (first | (with_reducible exact Below.refl _ _) | (with_reducible assumption) | (with_reducible refine Near.up _ ?_) | (with_reducible refine Below.drew ?_) | (with_reducible refine below_alloc_on ?_ _) | (with_reducible refine below_set_on ?_ (by first | (simp; done) | (simp; omega) | omega) _)))⟩
    · rw [if_neg hs, if_neg hs]
      have t1 := decide_eq_false hs
      by_cases hu : 0 < U
      · have t2 := decide_eq_true hu
        have t3 : decide (0 < L) = false := decide_eq_false (by omega)
        go_enter Try.func22, Try.ntmps22
        go_wp2_with (go_at_call 24; refine (HU.out _).mono ?_; rintro e w' ⟨rfl, rfl⟩)
        refine bodyPost_ret (v := .tuple #[.agg #[.int .i64 L, .int .i64 P, .int .i64 (S - 1), .int .i64 F], .int .i64 2000]) (by simp [results, Try.results22, go_sem]) rfl ⟨rfl, by (repeat (first | (with_reducible exact Below.refl _ _) | (with_reducible assumption) | (with_reducible refine Near.up _ ?_) | (with_reducible refine Below.drew ?_) | (with_reducible refine below_alloc_on ?_ _) | (with_reducible refine below_set_on ?_ (by first | (simp; done) | (simp; omega) | omega) _)))⟩
      · have t2 := decide_eq_false hu
        go_enter Try.func22, Try.ntmps22
        go_wp2_with (go_at_call 24; refine (HU.out _).mono ?_; rintro e w' ⟨rfl, rfl⟩)
        refine bodyPost_ret (v := .tuple #[.agg #[.int .i64 L, .int .i64 P, .int .i64 (S - 1), .int .i64 F], .int .i64 2000]) (by simp [results, Try.results22, go_sem]) rfl ⟨rfl, by (repeat (first | (with_reducible exact Below.refl _ _) | (with_reducible assumption) | (with_reducible refine Near.up _ ?_) | (with_reducible refine Below.drew ?_) | (with_reducible refine below_alloc_on ?_ _) | (with_reducible refine below_set_on ?_ (by first | (simp; done) | (simp; omega) | omega) _)))⟩
  · rw [e1, e2, e3, e4]
    obtain ⟨u0, u1, l0⟩ := w_of k
    generalize fwV o h = fl at *
    generalize unV s = U at *
    obtain ⟨X, hX⟩ : ∃ X, max P 0 = X := ⟨_, rfl⟩
    have hX2 : (if P < 0 then 0 else P) = X := by split <;> omega
    have x0 : 0 ≤ X := by omega
    rw [hX] at q ⊢
    obtain ⟨M, hM⟩ : ∃ M, min X U = M := ⟨_, rfl⟩
    have hM2 : (if U < X then U else X) = M := by split <;> omega
    have m0 : 0 ≤ M := by omega
    have m1 : M ≤ U := by omega
    rw [hM] at q ⊢
    clear e1 e2 e3 e4 k
    have t2 : decide (0 < U) = true := decide_eq_true (by omega)
    have t3 : decide (0 < L) = true := decide_eq_true l0
    have t4 : decide (U ≤ M + fl) = false := decide_eq_false (by omega)
    have i1 : IntKind.i64.wrap (M + fl) = M + fl := IntWalk.i64_in _ (by omega)
    by_cases hs : S ≤ 0
    · rw [if_pos hs, if_pos hs]
      have t1 := decide_eq_true hs
      go_enter Try.func22, Try.ntmps22
      go_wp2_with (go_at_call 24; refine (HU.out _).mono ?_; rintro e w' ⟨rfl, rfl⟩)
      refine wp_region_calm_tail 10 (by kernel_rfl) (by kernel_rfl) ?_
      simp only [List.take_succ_cons, List.take_zero, List.drop_succ_cons, List.drop_zero]
      repeat (go_big_quiet_step (((go_at_call 26; exact calm_same _ (HF.out _)))))
      refine wpQuiet_nil ?_
      intro _ hw'
      obtain ⟨u, rfl⟩ := hw'
      have R2 : Box u.at_ (w.heap.size + 1) #[.int .i64 0, .int .i64 0, .int .i64 0, .int .i64 0] := by (repeat (first | (with_reducible assumption) | (with_reducible exact box_new _ _ _) | ((with_reducible apply box_at); (first | (with_reducible rfl) | (simp <;> omega))) | (with_reducible apply Box.drew) | (with_reducible apply Box.drewN) | (with_reducible apply Box.near) | (with_reducible apply Box.alloc) | ((with_reducible apply box_far); (first | assumption | omega | (simp <;> omega))) | ((with_reducible apply Box.one_set); (with_reducible assumption)) | ((with_reducible apply Box.two_set); (with_reducible assumption)) | ((with_reducible apply Box.three_set); (with_reducible assumption)) | (with_reducible apply Box.set) | (simp only [List.size_toArray, List.length_cons, List.length_nil, Array.size_setIfInBounds] <;> omega)))
      have P2 : Box u.at_ w.heap.size #[.int .i64 L, .int .i64 P, .int .i64 S, .int .i64 F] := by (repeat (first | (with_reducible assumption) | (with_reducible exact box_new _ _ _) | ((with_reducible apply box_at); (first | (with_reducible rfl) | (simp <;> omega))) | (with_reducible apply Box.drew) | (with_reducible apply Box.drewN) | (with_reducible apply Box.near) | (with_reducible apply Box.alloc) | ((with_reducible apply box_far); (first | assumption | omega | (simp <;> omega))) | ((with_reducible apply Box.one_set); (with_reducible assumption)) | ((with_reducible apply Box.two_set); (with_reducible assumption)) | ((with_reducible apply Box.three_set); (with_reducible assumption)) | (with_reducible apply Box.set) | (simp only [List.size_toArray, List.length_cons, List.length_nil, Array.size_setIfInBounds] <;> omega)))
      obtain ⟨lR, cR, fR⟩ := id R2
      obtain ⟨lP, cP, fP⟩ := id P2
      go_wp2
      refine bodyPost_ret (v := .tuple #[.agg #[.int .i64 L, .int .i64 (M + fl), .int .i64 S, .int .i64 F], .int .i64 3000]) (by simp [results, Try.results22, go_sem, cR, cP]) rfl ⟨rfl, by (repeat (first | (with_reducible exact Below.refl _ _) | (with_reducible assumption) | (with_reducible refine Near.up _ ?_) | (with_reducible refine Below.drew ?_) | (with_reducible refine below_alloc_on ?_ _) | (with_reducible refine below_set_on ?_ (by first | (simp; done) | (simp; omega) | omega) _)))⟩
    · rw [if_neg hs, if_neg hs]
      have t1 := decide_eq_false hs
      go_enter Try.func22, Try.ntmps22
      go_wp2_with (go_at_call 24; refine (HU.out _).mono ?_; rintro e w' ⟨rfl, rfl⟩)
      refine wp_region_calm_tail 10 (by kernel_rfl) (by kernel_rfl) ?_
      simp only [List.take_succ_cons, List.take_zero, List.drop_succ_cons, List.drop_zero]
      repeat (go_big_quiet_step (((go_at_call 26; exact calm_same _ (HF.out _)))))
      refine wpQuiet_nil ?_
      intro _ hw'
      obtain ⟨u, rfl⟩ := hw'
      have R2 : Box u.at_ (w.heap.size + 1) #[.int .i64 0, .int .i64 0, .int .i64 0, .int .i64 0] := by (repeat (first | (with_reducible assumption) | (with_reducible exact box_new _ _ _) | ((with_reducible apply box_at); (first | (with_reducible rfl) | (simp <;> omega))) | (with_reducible apply Box.drew) | (with_reducible apply Box.drewN) | (with_reducible apply Box.near) | (with_reducible apply Box.alloc) | ((with_reducible apply box_far); (first | assumption | omega | (simp <;> omega))) | ((with_reducible apply Box.one_set); (with_reducible assumption)) | ((with_reducible apply Box.two_set); (with_reducible assumption)) | ((with_reducible apply Box.three_set); (with_reducible assumption)) | (with_reducible apply Box.set) | (simp only [List.size_toArray, List.length_cons, List.length_nil, Array.size_setIfInBounds] <;> omega)))
      have P2 : Box u.at_ w.heap.size #[.int .i64 L, .int .i64 P, .int .i64 S, .int .i64 F] := by (repeat (first | (with_reducible assumption) | (with_reducible exact box_new _ _ _) | ((with_reducible apply box_at); (first | (with_reducible rfl) | (simp <;> omega))) | (with_reducible apply Box.drew) | (with_reducible apply Box.drewN) | (with_reducible apply Box.near) | (with_reducible apply Box.alloc) | ((with_reducible apply box_far); (first | assumption | omega | (simp <;> omega))) | ((with_reducible apply Box.one_set); (with_reducible assumption)) | ((with_reducible apply Box.two_set); (with_reducible assumption)) | ((with_reducible apply Box.three_set); (with_reducible assumption)) | (with_reducible apply Box.set) | (simp only [List.size_toArray, List.length_cons, List.length_nil, Array.size_setIfInBounds] <;> omega)))
      obtain ⟨lR, cR, fR⟩ := id R2
      obtain ⟨lP, cP, fP⟩ := id P2
      go_wp2
      refine bodyPost_ret (v := .tuple #[.agg #[.int .i64 L, .int .i64 (M + fl), .int .i64 (S - 1), .int .i64 F], .int .i64 2000]) (by simp [results, Try.results22, go_sem, cR, cP]) rfl ⟨rfl, by (repeat (first | (with_reducible exact Below.refl _ _) | (with_reducible assumption) | (with_reducible refine Near.up _ ?_) | (with_reducible refine Below.drew ?_) | (with_reducible refine below_alloc_on ?_ _) | (with_reducible refine below_set_on ?_ (by first | (simp; done) | (simp; omega) | omega) _)))⟩
  · rw [e1, e2, e3, e4]
    obtain ⟨u0, u1, l0⟩ := w_of k
    generalize fwV o h = fl at *
    generalize unV s = U at *
    obtain ⟨X, hX⟩ : ∃ X, max P 0 = X := ⟨_, rfl⟩
    have hX2 : (if P < 0 then 0 else P) = X := by split <;> omega
    have x0 : 0 ≤ X := by omega
    rw [hX] at q ⊢
    obtain ⟨M, hM⟩ : ∃ M, min X U = M := ⟨_, rfl⟩
    have hM2 : (if U < X then U else X) = M := by split <;> omega
    have m0 : 0 ≤ M := by omega
    have m1 : M ≤ U := by omega
    rw [hM] at q ⊢
    obtain ⟨G, hG⟩ : ∃ G, min (max F 0) 1099511627776 = G := ⟨_, rfl⟩
    have g0 : 0 ≤ G := by omega
    have g1 : G ≤ 1099511627776 := by omega
    rw [hG]
    clear e1 e2 e3 e4 k
    have t2 : decide (0 < U) = true := decide_eq_true (by omega)
    have t3 : decide (0 < L) = true := decide_eq_true l0
    have t4 : decide (U ≤ M + fl) = true := decide_eq_true q
    have i1 : IntKind.i64.wrap (M + fl) = M + fl := IntWalk.i64_in _ (by omega)
    have i2 : IntKind.i64.wrap (M + fl - U) = M + fl - U := IntWalk.i64_in _ (by omega)
    have i3 : IntKind.i64.wrap (G + 1) = G + 1 := IntWalk.i64_in _ (by omega)
    rw [if_neg (by omega), if_neg (by omega)]
    go_enter Try.func22, Try.ntmps22
    go_wp2_with (go_at_call 24; refine (HU.out _).mono ?_; rintro e w' ⟨rfl, rfl⟩)
    refine wp_region_calm_tail 10 (by kernel_rfl) (by kernel_rfl) ?_
    simp only [List.take_succ_cons, List.take_zero, List.drop_succ_cons, List.drop_zero]
    repeat (go_big_quiet_step (((go_at_call 26; exact calm_same _ (HF.out _)))))
    refine wpQuiet_nil ?_
    intro _ hw'
    obtain ⟨u, rfl⟩ := hw'
    have R2 : Box u.at_ (w.heap.size + 1) #[.int .i64 0, .int .i64 0, .int .i64 0, .int .i64 0] := by (repeat (first | (with_reducible assumption) | (with_reducible exact box_new _ _ _) | ((with_reducible apply box_at); (first | (with_reducible rfl) | (simp <;> omega))) | (with_reducible apply Box.drew) | (with_reducible apply Box.drewN) | (with_reducible apply Box.near) | (with_reducible apply Box.alloc) | ((with_reducible apply box_far); (first | assumption | omega | (simp <;> omega))) | ((with_reducible apply Box.one_set); (with_reducible assumption)) | ((with_reducible apply Box.two_set); (with_reducible assumption)) | ((with_reducible apply Box.three_set); (with_reducible assumption)) | (with_reducible apply Box.set) | (simp only [List.size_toArray, List.length_cons, List.length_nil, Array.size_setIfInBounds] <;> omega)))
    have P2 : Box u.at_ w.heap.size #[.int .i64 L, .int .i64 P, .int .i64 S, .int .i64 F] := by (repeat (first | (with_reducible assumption) | (with_reducible exact box_new _ _ _) | ((with_reducible apply box_at); (first | (with_reducible rfl) | (simp <;> omega))) | (with_reducible apply Box.drew) | (with_reducible apply Box.drewN) | (with_reducible apply Box.near) | (with_reducible apply Box.alloc) | ((with_reducible apply box_far); (first | assumption | omega | (simp <;> omega))) | ((with_reducible apply Box.one_set); (with_reducible assumption)) | ((with_reducible apply Box.two_set); (with_reducible assumption)) | ((with_reducible apply Box.three_set); (with_reducible assumption)) | (with_reducible apply Box.set) | (simp only [List.size_toArray, List.length_cons, List.length_nil, Array.size_setIfInBounds] <;> omega)))
    obtain ⟨lR, cR, fR⟩ := id R2
    obtain ⟨lP, cP, fP⟩ := id P2
    go_wp2
    all_goals refine bodyPost_ret (v := .tuple #[.agg #[.int .i64 (L - 1), .int .i64 (M + fl - U), .int .i64 2, .int .i64 (G + 1)], .int .i64 2000]) (by simp [results, Try.results22, go_sem, cR, cP]) rfl ⟨rfl, by (repeat (first | (with_reducible exact Below.refl _ _) | (with_reducible assumption) | (with_reducible refine Near.up _ ?_) | (with_reducible refine Below.drew ?_) | (with_reducible refine below_alloc_on ?_ _) | (with_reducible refine below_set_on ?_ (by first | (simp; done) | (simp; omega) | omega) _)))⟩

set_option maxRecDepth 100000 in
theorem law48_awake (w : World) : Calls Try.prog 27 #[] w fun e w' => e = .returned (.bool true) ∧ Below w.heap.size w w' := by
  have A : Below w.heap.size w w := Below.refl _ _
  have H1 := fun w => pl_step 9 5999999 0 0 1 1 60 (by omega) (by omega) w
  rw [show plL 9 5999999 60 1 1 = 8 by decide +kernel, show plP 9 5999999 60 1 1 = 7 by decide +kernel, show plS 9 5999999 0 60 1 1 = 2 by decide +kernel, show plF 9 5999999 0 60 1 1 = 1 by decide +kernel, show plX 9 5999999 0 60 1 1 = 2000 by decide +kernel] at H1
  have H2 := fun w => pl_step 0 5 0 0 300 256 60 (by omega) (by omega) w
  rw [show plL 0 5 60 300 256 = 0 by decide +kernel, show plP 0 5 60 300 256 = 5 by decide +kernel, show plS 0 5 0 60 300 256 = 0 by decide +kernel, show plF 0 5 0 60 300 256 = 0 by decide +kernel, show plX 0 5 0 60 300 256 = 3000 by decide +kernel] at H2
  have H1 := Lib.hid H1
  have H2 := Lib.hid H2
  have e1 : unV 60 = 6000000 := by decide +kernel
  have e2 : unV 7 = 0 := by decide +kernel
  have e3 : fwV 300 256 = 614400 := by decide +kernel
  go_enter Try.func27, Try.ntmps27
  go_wp2_with (fail)
  refine (H1.out _).mono ?_
  rintro e w1 ⟨rfl, hb⟩
  replace A : Below w.heap.size w w1 := by (refine below_call ?_ hb; (repeat (first | (with_reducible exact Below.refl _ _) | (with_reducible assumption) | (with_reducible refine Near.up _ ?_) | (with_reducible refine Below.drew ?_) | (with_reducible refine below_alloc_on ?_ _) | (with_reducible refine below_set_on ?_ (by first | (simp; done) | (simp; omega) | omega) _))))
  clear hb
  have z_w1 : w.heap.size ≤ w1.heap.size := A.size
  go_wp2_with (fail)
  refine (H2.out _).mono ?_
  rintro e w2 ⟨rfl, hb⟩
  have A2 : Below w.heap.size w w2 := below_call (by (repeat (first | (with_reducible exact Below.refl _ _) | (with_reducible assumption) | (with_reducible refine Near.up _ ?_) | (with_reducible refine Below.drew ?_) | (with_reducible refine below_alloc_on ?_ _) | (with_reducible refine below_set_on ?_ (by first | (simp; done) | (simp; omega) | omega) _)))) hb
  have Q2 := Box.below (g := w1.heap.size) (by (repeat (first | (with_reducible assumption) | (with_reducible exact box_new _ _ _) | ((with_reducible apply box_at); (first | (with_reducible rfl) | (simp <;> omega))) | (with_reducible apply Box.drew) | (with_reducible apply Box.drewN) | (with_reducible apply Box.near) | (with_reducible apply Box.alloc) | ((with_reducible apply box_far); (first | assumption | omega | (simp <;> omega))) | ((with_reducible apply Box.one_set); (with_reducible assumption)) | ((with_reducible apply Box.two_set); (with_reducible assumption)) | ((with_reducible apply Box.three_set); (with_reducible assumption)) | (with_reducible apply Box.set) | (simp only [List.size_toArray, List.length_cons, List.length_nil, Array.size_setIfInBounds] <;> omega)))) hb (cs := #[.int .i64 8, .int .i64 7, .int .i64 2, .int .i64 1])
  clear hb
  obtain ⟨lQ, cQ, fQ⟩ := id Q2
  go_wp2_with (first | (go_at_call 23; refine (pl_unit _ _).mono ?_; rintro e w' ⟨rfl, rfl⟩) | (go_at_call 25; refine (pl_flow _ _ _).mono ?_; rintro e w' ⟨rfl, rfl⟩))
  all_goals go_ret
  all_goals exact ⟨rfl, by (repeat (first | (with_reducible exact Below.refl _ _) | (with_reducible assumption) | (with_reducible refine Near.up _ ?_) | (with_reducible refine Below.drew ?_) | (with_reducible refine below_alloc_on ?_ _) | (with_reducible refine below_set_on ?_ (by first | (simp; done) | (simp; omega) | omega) _)))⟩
end Go.Proofs.Ythijabhnmjbboaa
