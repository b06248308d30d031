/- Contracts of package plant: a tick. -/
import Derived.Test.YtmgbegmhanbcnaaPlant
namespace Go.Proofs.Ytmgbegmhanbcnaa
set_option maxRecDepth 100000
open Go.RowKit
set_option linter.unusedVariables false
set_option linter.unusedSimpArgs false
attribute [local go_sem] cell_set_ite Near.cell Near.frozen

theorem run_none (L P S F fl U : Int) (f0 : 0 ≤ fl) (f1 : fl ≤ 2457600) (u0 : 6000000 ≤ U) (u1 : U ≤ 36000000) (h : min (max P 0) U + fl < U) (w : World) :
    Calls Try.prog 30 #[.agg #[.int .i64 L, .int .i64 P, .int .i64 S, .int .i64 F], .int .i64 fl, .int .i64 U] w fun e w' => e = .returned (.agg #[.int .i64 L, .int .i64 (min (max P 0) U + fl), .int .i64 S, .int .i64 F]) ∧ Below w.heap.size w w' := by
  have A : Below w.heap.size w w := Below.refl _ _
  have HW := Lib.hid (fun w => pl_within P U (by omega) w)
  obtain ⟨M, hM⟩ : ∃ M, min (max P 0) U = M := ⟨_, rfl⟩
  have m0 : 0 ≤ M := by omega
  have m1 : M ≤ U := by omega
  rw [hM] at h HW ⊢
  clear hM
  have t1 : decide (U ≤ M + fl) = false := decide_eq_false (by omega)
  go_enter Try.func30, Try.ntmps30
  go_wp2_with (go_at_call 28; refine (HW.out _).mono ?_; rintro e w' ⟨rfl, rfl⟩)
  refine bodyPost_ret (v := .agg #[.int .i64 L, .int .i64 (M + fl), .int .i64 S, .int .i64 F]) (by simp [results, Try.results30, go_sem]) rfl ⟨rfl, by (repeat (first | (with_reducible exact Below.refl _ _) | (with_reducible assumption) | (with_reducible refine Near.up _ ?_) | (with_reducible refine Below.drew ?_) | (with_reducible refine below_alloc_on ?_ _) | (with_reducible refine below_set_on ?_ (by first | (simp; done) | (simp; omega) | omega) _)))⟩
theorem run_drop (L P S F fl U : Int) (l0 : 0 < L) (l1 : L ≤ 9223372036854775807) (f0 : 0 ≤ fl) (f1 : fl ≤ 2457600) (u0 : 6000000 ≤ U) (u1 : U ≤ 36000000) (h : U ≤ min (max P 0) U + fl) (w : World) :
    Calls Try.prog 30 #[.agg #[.int .i64 L, .int .i64 P, .int .i64 S, .int .i64 F], .int .i64 fl, .int .i64 U] w fun e w' => e = .returned (.agg #[.int .i64 (L - 1), .int .i64 (min (max P 0) U + fl - U), .int .i64 3, .int .i64 (min (max F 0) 1099511627776 + 1)]) ∧ Below w.heap.size w w' := by
  have A : Below w.heap.size w w := Below.refl _ _
  have HW := Lib.hid (fun w => pl_within P U (by omega) w)
  have HF := Lib.hid (fun w => pl_within F 1099511627776 (by omega) w)
  obtain ⟨M, hM⟩ : ∃ M, min (max P 0) U = M := ⟨_, rfl⟩
  obtain ⟨K, hK⟩ : ∃ K, min (max F 0) 1099511627776 = K := ⟨_, rfl⟩
  have m0 : 0 ≤ M := by omega
  have m1 : M ≤ U := by omega
  have k0 : 0 ≤ K := by omega
  have k1 : K ≤ 1099511627776 := by omega
  rw [hM] at h HW ⊢
  rw [hK] at HF ⊢
  clear hM hK
  have t1 : decide (U ≤ M + fl) = true := decide_eq_true (by omega)
  go_enter Try.func30, Try.ntmps30
  go_wp2_with (first | (go_at_call 28; (with_reducible refine (HW.out _).mono ?_); rintro e w' ⟨rfl, rfl⟩) | (go_at_call 28; (with_reducible refine (HF.out _).mono ?_); rintro e w' ⟨rfl, rfl⟩))
  refine bodyPost_ret (v := .agg #[.int .i64 (L - 1), .int .i64 (M + fl - U), .int .i64 3, .int .i64 (K + 1)]) (by simp [results, Try.results30, go_sem]) rfl ⟨rfl, by (repeat (first | (with_reducible exact Below.refl _ _) | (with_reducible assumption) | (with_reducible refine Near.up _ ?_) | (with_reducible refine Below.drew ?_) | (with_reducible refine below_alloc_on ?_ _) | (with_reducible refine below_set_on ?_ (by first | (simp; done) | (simp; omega) | omega) _)))⟩

theorem pl_ways (L P S F s o h : Int) :
    (plW L s = false ∧ plL L P s o h = L ∧ plP L P s o h = P ∧ plS1 L P S s o h = S ∧ plF L P F s o h = F) ∨
    (plW L s = true ∧ min (max P 0) (unV s) + fwV o h < unV s ∧ plL L P s o h = L ∧ plP L P s o h = min (max P 0) (unV s) + fwV o h ∧ plS1 L P S s o h = S ∧ plF L P F s o h = F) ∨
    (plW L s = true ∧ unV s ≤ min (max P 0) (unV s) + fwV o h ∧ plL L P s o h = L - 1 ∧ plP L P s o h = min (max P 0) (unV s) + fwV o h - unV s ∧ plS1 L P S s o h = 3 ∧ plF L P F s o h = min (max F 0) 1099511627776 + 1) := by
  unfold plL plP plS1 plF plD plQ
  generalize min (max P 0) (unV s) + fwV o h = Q
  cases plW L s
  · simp
  · by_cases hq : unV s ≤ Q
    · have : decide (unV s ≤ Q) = true := decide_eq_true hq
      simp [this]; omega
    · have : decide (unV s ≤ Q) = false := decide_eq_false hq
      simp [this]; omega
theorem w_of {L s : Int} (h : plW L s = true) : 6000000 ≤ unV s ∧ unV s ≤ 36000000 ∧ 0 < L := by
  have := of_decide_eq_true h
  rcases un_ways s with ⟨_, e⟩ | ⟨_, u0, u1, _⟩ <;> omega
/-- Shade, and light. -/
def shV (S : Int) : Int := if S ≤ 0 then S else S - 1
def lxV (S : Int) : Int := if S ≤ 0 then 3000 else 2000

set_option maxHeartbeats 1000000 in
theorem pl_step (L P S F o h s : Int) (l1 : L ≤ 9223372036854775807) (s1 : S ≤ 9223372036854775807) (w : World) :
    Calls Try.prog 22 #[.agg #[.int .i64 L, .int .i64 P, .int .i64 S, .int .i64 F], .int .i64 o, .int .i64 h, .int .i64 s] w fun e w' =>
      e = .returned (.tuple #[.agg #[.int .i64 (plL L P s o h), .int .i64 (plP L P s o h), .int .i64 (plS L P S s o h), .int .i64 (plF L P F s o h)], .int .i64 (plX L P S s o h)]) ∧ Below w.heap.size w w' := by
  have A : Below w.heap.size w w := Below.refl _ _
  have HU := Lib.hid (fun w => pl_unit s w)
  have HF := Lib.hid (fun w => pl_flow o h w)
  have ⟨f0, f1⟩ := fw_bd o h
  unfold plS plX
  rcases pl_ways L P S F s o h with ⟨k, e1, e2, e3, e4⟩ | ⟨k, q, e1, e2, e3, e4⟩ | ⟨k, q, e1, e2, e3, e4⟩
  · rw [e1, e2, e3, e4]
    have hk := of_decide_eq_false k
    generalize unV s = U at *
    clear e1 e2 e3 e4 k HF f0 f1
    by_cases hs : S ≤ 0
    · rw [if_pos hs, if_pos hs]
      have t1 := decide_eq_true hs
      by_cases hu : 0 < U
      · have t2 := decide_eq_true hu
        have t3 : decide (0 < L) = false := decide_eq_false (by omega)
        clear hs hk
        go_enter Try.func22, Try.ntmps22
        go_wp2_with (go_at_call 21; refine (HU.out _).mono ?_; rintro e w' ⟨rfl, rfl⟩)
        refine bodyPost_ret (v := .tuple #[.agg #[.int .i64 L, .int .i64 P, .int .i64 S, .int .i64 F], .int .i64 3000]) (by simp [results, Try.results22, go_sem]) rfl ⟨rfl, by (repeat (first | (with_reducible exact Below.refl _ _) | (with_reducible assumption) | (with_reducible refine Near.up _ ?_) | (with_reducible refine Below.drew ?_) | (with_reducible refine below_alloc_on ?_ _) | (with_reducible refine below_set_on ?_ (by first | (simp; done) | (simp; omega) | omega) _)))⟩
      · have t2 := decide_eq_false hu
        clear hs hk
        go_enter Try.func22, Try.ntmps22
        go_wp2_with (go_at_call 21; refine (HU.out _).mono ?_; rintro e w' ⟨rfl, rfl⟩)
        refine bodyPost_ret (v := .tuple #[.agg #[.int .i64 L, .int .i64 P, .int .i64 S, .int .i64 F], .int .i64 3000]) (by simp [results, Try.results22, go_sem]) rfl ⟨rfl, by (repeat (first | (with_reducible exact Below.refl _ _) | (with_reducible assumption) | (with_reducible refine Near.up _ ?_) | (with_reducible refine Below.drew ?_) | (with_reducible refine below_alloc_on ?_ _) | (with_reducible refine below_set_on ?_ (by first | (simp; done) | (simp; omega) | omega) _)))⟩
    · rw [if_neg hs, if_neg hs]
      have t1 := decide_eq_false hs
      by_cases hu : 0 < U
      · have t2 := decide_eq_true hu
        have t3 : decide (0 < L) = false := decide_eq_false (by omega)
        go_enter Try.func22, Try.ntmps22
        go_wp2_with (go_at_call 21; refine (HU.out _).mono ?_; rintro e w' ⟨rfl, rfl⟩)
        refine bodyPost_ret (v := .tuple #[.agg #[.int .i64 L, .int .i64 P, .int .i64 (S - 1), .int .i64 F], .int .i64 2000]) (by simp [results, Try.results22, go_sem]) rfl ⟨rfl, by (repeat (first | (with_reducible exact Below.refl _ _) | (with_reducible assumption) | (with_reducible refine Near.up _ ?_) | (with_reducible refine Below.drew ?_) | (with_reducible refine below_alloc_on ?_ _) | (with_reducible refine below_set_on ?_ (by first | (simp; done) | (simp; omega) | omega) _)))⟩
      · have t2 := decide_eq_false hu
        go_enter Try.func22, Try.ntmps22
        go_wp2_with (go_at_call 21; refine (HU.out _).mono ?_; rintro e w' ⟨rfl, rfl⟩)
        refine bodyPost_ret (v := .tuple #[.agg #[.int .i64 L, .int .i64 P, .int .i64 (S - 1), .int .i64 F], .int .i64 2000]) (by simp [results, Try.results22, go_sem]) rfl ⟨rfl, by (repeat (first | (with_reducible exact Below.refl _ _) | (with_reducible assumption) | (with_reducible refine Near.up _ ?_) | (with_reducible refine Below.drew ?_) | (with_reducible refine below_alloc_on ?_ _) | (with_reducible refine below_set_on ?_ (by first | (simp; done) | (simp; omega) | omega) _)))⟩
  · rw [e1, e2, e3, e4]
    obtain ⟨u0, u1, l0⟩ := w_of k
    have HR := Lib.hid (fun w => run_none L P S F (fwV o h) (unV s) f0 f1 u0 u1 q w)
    generalize fwV o h = fl at *
    generalize unV s = U at *
    generalize min (max P 0) U + fl = Q at *
    clear e1 e2 e3 e4 k
    have t2 : decide (0 < U) = true := decide_eq_true (by omega)
    have t3 : decide (0 < L) = true := decide_eq_true l0
    by_cases hs : S ≤ 0
    · rw [if_pos hs, if_pos hs]
      have t1 := decide_eq_true hs
      go_enter Try.func22, Try.ntmps22
      go_wp2_with (go_at_call 21; refine (HU.out _).mono ?_; rintro e w' ⟨rfl, rfl⟩)
      refine wp_region_calm_tail 6 (by kernel_rfl) (by kernel_rfl) ?_
      simp only [List.take_succ_cons, List.take_zero, List.drop_succ_cons, List.drop_zero]
      repeat (go_big_quiet_step ((first | ((go_at_call 20; exact calm_same _ (HF.out _))) | ((go_at_call 30; exact calm_of _ (HR.out _))))))
      refine wpQuiet_nil ?_
      intro _ hw'
      obtain ⟨u, rfl⟩ := hw'
      have R2 : Box u.at_ (w.heap.size + 1) #[.int .i64 0, .int .i64 0, .int .i64 0, .int .i64 0] := by (repeat (first | (with_reducible assumption) | (with_reducible exact box_new _ _ _) | ((with_reducible apply box_at); (first | (with_reducible rfl) | (simp <;> omega))) | (with_reducible apply Box.drew) | (with_reducible apply Box.drewN) | (with_reducible apply Box.near) | (with_reducible apply Box.alloc) | ((with_reducible apply box_far); (first | assumption | omega | (simp <;> omega))) | ((with_reducible apply Box.one_set); (with_reducible assumption)) | ((with_reducible apply Box.two_set); (with_reducible assumption)) | ((with_reducible apply Box.three_set); (with_reducible assumption)) | (with_reducible apply Box.set) | (simp only [List.size_toArray, List.length_cons, List.length_nil, Array.size_setIfInBounds] <;> omega)))
      have P2 : Box u.at_ w.heap.size #[.int .i64 L, .int .i64 P, .int .i64 S, .int .i64 F] := by (repeat (first | (with_reducible assumption) | (with_reducible exact box_new _ _ _) | ((with_reducible apply box_at); (first | (with_reducible rfl) | (simp <;> omega))) | (with_reducible apply Box.drew) | (with_reducible apply Box.drewN) | (with_reducible apply Box.near) | (with_reducible apply Box.alloc) | ((with_reducible apply box_far); (first | assumption | omega | (simp <;> omega))) | ((with_reducible apply Box.one_set); (with_reducible assumption)) | ((with_reducible apply Box.two_set); (with_reducible assumption)) | ((with_reducible apply Box.three_set); (with_reducible assumption)) | (with_reducible apply Box.set) | (simp only [List.size_toArray, List.length_cons, List.length_nil, Array.size_setIfInBounds] <;> omega)))
      obtain ⟨lR, cR, fR⟩ := id R2
      obtain ⟨lP, cP, fP⟩ := id P2
      go_wp2
      refine bodyPost_ret (v := .tuple #[.agg #[.int .i64 L, .int .i64 Q, .int .i64 S, .int .i64 F], .int .i64 3000]) (by simp [results, Try.results22, go_sem, cR, cP]) rfl ⟨rfl, by (repeat (first | (with_reducible exact Below.refl _ _) | (with_reducible assumption) | (with_reducible refine Near.up _ ?_) | (with_reducible refine Below.drew ?_) | (with_reducible refine below_alloc_on ?_ _) | (with_reducible refine below_set_on ?_ (by first | (simp; done) | (simp; omega) | omega) _)))⟩
    · rw [if_neg hs, if_neg hs]
      have t1 := decide_eq_false hs
      go_enter Try.func22, Try.ntmps22
      go_wp2_with (go_at_call 21; refine (HU.out _).mono ?_; rintro e w' ⟨rfl, rfl⟩)
      refine wp_region_calm_tail 6 (by kernel_rfl) (by kernel_rfl) ?_
      simp only [List.take_succ_cons, List.take_zero, List.drop_succ_cons, List.drop_zero]
      repeat (go_big_quiet_step ((first | ((go_at_call 20; exact calm_same _ (HF.out _))) | ((go_at_call 30; exact calm_of _ (HR.out _))))))
      refine wpQuiet_nil ?_
      intro _ hw'
      obtain ⟨u, rfl⟩ := hw'
      have R2 : Box u.at_ (w.heap.size + 1) #[.int .i64 0, .int .i64 0, .int .i64 0, .int .i64 0] := by (repeat (first | (with_reducible assumption) | (with_reducible exact box_new _ _ _) | ((with_reducible apply box_at); (first | (with_reducible rfl) | (simp <;> omega))) | (with_reducible apply Box.drew) | (with_reducible apply Box.drewN) | (with_reducible apply Box.near) | (with_reducible apply Box.alloc) | ((with_reducible apply box_far); (first | assumption | omega | (simp <;> omega))) | ((with_reducible apply Box.one_set); (with_reducible assumption)) | ((with_reducible apply Box.two_set); (with_reducible assumption)) | ((with_reducible apply Box.three_set); (with_reducible assumption)) | (with_reducible apply Box.set) | (simp only [List.size_toArray, List.length_cons, List.length_nil, Array.size_setIfInBounds] <;> omega)))
      have P2 : Box u.at_ w.heap.size #[.int .i64 L, .int .i64 P, .int .i64 S, .int .i64 F] := by (repeat (first | (with_reducible assumption) | (with_reducible exact box_new _ _ _) | ((with_reducible apply box_at); (first | (with_reducible rfl) | (simp <;> omega))) | (with_reducible apply Box.drew) | (with_reducible apply Box.drewN) | (with_reducible apply Box.near) | (with_reducible apply Box.alloc) | ((with_reducible apply box_far); (first | assumption | omega | (simp <;> omega))) | ((with_reducible apply Box.one_set); (with_reducible assumption)) | ((with_reducible apply Box.two_set); (with_reducible assumption)) | ((with_reducible apply Box.three_set); (with_reducible assumption)) | (with_reducible apply Box.set) | (simp only [List.size_toArray, List.length_cons, List.length_nil, Array.size_setIfInBounds] <;> omega)))
      obtain ⟨lR, cR, fR⟩ := id R2
      obtain ⟨lP, cP, fP⟩ := id P2
      go_wp2
      refine bodyPost_ret (v := .tuple #[.agg #[.int .i64 L, .int .i64 Q, .int .i64 (S - 1), .int .i64 F], .int .i64 2000]) (by simp [results, Try.results22, go_sem, cR, cP]) rfl ⟨rfl, by (repeat (first | (with_reducible exact Below.refl _ _) | (with_reducible assumption) | (with_reducible refine Near.up _ ?_) | (with_reducible refine Below.drew ?_) | (with_reducible refine below_alloc_on ?_ _) | (with_reducible refine below_set_on ?_ (by first | (simp; done) | (simp; omega) | omega) _)))⟩
  · rw [e1, e2, e3, e4]
    obtain ⟨u0, u1, l0⟩ := w_of k
    have HR := Lib.hid (fun w => run_drop L P S F (fwV o h) (unV s) l0 l1 f0 f1 u0 u1 q w)
    generalize fwV o h = fl at *
    generalize unV s = U at *
    generalize min (max P 0) U + fl - U = Q at *
    generalize min (max F 0) 1099511627776 + 1 = G at *
    clear e1 e2 e3 e4 k q
    have t2 : decide (0 < U) = true := decide_eq_true (by omega)
    have t3 : decide (0 < L) = true := decide_eq_true l0
    rw [if_neg (by omega), if_neg (by omega)]
    go_enter Try.func22, Try.ntmps22
    go_wp2_with (go_at_call 21; refine (HU.out _).mono ?_; rintro e w' ⟨rfl, rfl⟩)
    refine wp_region_calm_tail 6 (by kernel_rfl) (by kernel_rfl) ?_
    simp only [List.take_succ_cons, List.take_zero, List.drop_succ_cons, List.drop_zero]
    repeat (go_big_quiet_step ((first | ((go_at_call 20; exact calm_same _ (HF.out _))) | ((go_at_call 30; exact calm_of _ (HR.out _))))))
    refine wpQuiet_nil ?_
    intro _ hw'
    obtain ⟨u, rfl⟩ := hw'
    have R2 : Box u.at_ (w.heap.size + 1) #[.int .i64 0, .int .i64 0, .int .i64 0, .int .i64 0] := by (repeat (first | (with_reducible assumption) | (with_reducible exact box_new _ _ _) | ((with_reducible apply box_at); (first | (with_reducible rfl) | (simp <;> omega))) | (with_reducible apply Box.drew) | (with_reducible apply Box.drewN) | (with_reducible apply Box.near) | (with_reducible apply Box.alloc) | ((with_reducible apply box_far); (first | assumption | omega | (simp <;> omega))) | ((with_reducible apply Box.one_set); (with_reducible assumption)) | ((with_reducible apply Box.two_set); (with_reducible assumption)) | ((with_reducible apply Box.three_set); (with_reducible assumption)) | (with_reducible apply Box.set) | (simp only [List.size_toArray, List.length_cons, List.length_nil, Array.size_setIfInBounds] <;> omega)))
    have P2 : Box u.at_ w.heap.size #[.int .i64 L, .int .i64 P, .int .i64 S, .int .i64 F] := by (repeat (first | (with_reducible assumption) | (with_reducible exact box_new _ _ _) | ((with_reducible apply box_at); (first | (with_reducible rfl) | (simp <;> omega))) | (with_reducible apply Box.drew) | (with_reducible apply Box.drewN) | (with_reducible apply Box.near) | (with_reducible apply Box.alloc) | ((with_reducible apply box_far); (first | assumption | omega | (simp <;> omega))) | ((with_reducible apply Box.one_set); (with_reducible assumption)) | ((with_reducible apply Box.two_set); (with_reducible assumption)) | ((with_reducible apply Box.three_set); (with_reducible assumption)) | (with_reducible apply Box.set) | (simp only [List.size_toArray, List.length_cons, List.length_nil, Array.size_setIfInBounds] <;> omega)))
    obtain ⟨lR, cR, fR⟩ := id R2
    obtain ⟨lP, cP, fP⟩ := id P2
    go_wp2
    refine bodyPost_ret (v := .tuple #[.agg #[.int .i64 (L - 1), .int .i64 Q, .int .i64 2, .int .i64 G], .int .i64 2000]) (by simp [results, Try.results22, go_sem, cR, cP]) rfl ⟨rfl, by (repeat (first | (with_reducible exact Below.refl _ _) | (with_reducible assumption) | (with_reducible refine Near.up _ ?_) | (with_reducible refine Below.drew ?_) | (with_reducible refine below_alloc_on ?_ _) | (with_reducible refine below_set_on ?_ (by first | (simp; done) | (simp; omega) | omega) _)))⟩
end Go.Proofs.Ytmgbegmhanbcnaa
