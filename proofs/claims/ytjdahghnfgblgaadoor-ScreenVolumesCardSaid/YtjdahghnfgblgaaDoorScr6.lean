/- The law package's own check: a face of which all is known. -/
import Derived.Test.YtjdahghnfgblgaaDoorScr5
import Derived.BigQuiet
namespace Go.Proofs.YtjdahghnfgblgaaDoor
open Go.RowKit Go.Deep
set_option linter.unusedVariables false
set_option linter.unusedSimpArgs false
set_option maxRecDepth 100000
attribute [local go_sem] cell_set_ite Near.cell Near.frozen
attribute [local go_sem ↓] Go.wp_at_zero Go.wp_at_succ
attribute [-go_sem] run_string_add_if

theorem Box.eightB {w : World} {g : Nat} {v0 v1 v2 v3 v4 v5 v6 v7 : Value} (h : Box w g #[v0, v1, v2, v3, v4, v5, v6, v7]) : w.cell? ⟨g, 0, none⟩ = some v0 ∧ w.cell? ⟨g, 1, none⟩ = some v1 ∧ w.cell? ⟨g, 2, none⟩ = some v2 ∧ w.cell? ⟨g, 3, none⟩ = some v3 ∧ w.cell? ⟨g, 4, none⟩ = some v4 ∧ w.cell? ⟨g, 5, none⟩ = some v5 ∧ w.cell? ⟨g, 6, none⟩ = some v6 ∧ w.cell? ⟨g, 7, none⟩ = some v7 ∧ (∀ i, w.frozen? ⟨g, i, none⟩ = false) ∧ g < w.heap.size :=
  ⟨h.2.1 0, h.2.1 1, h.2.1 2, h.2.1 3, h.2.1 4, h.2.1 5, h.2.1 6, h.2.1 7, h.2.2, h.1⟩
theorem it60 : itS 60 = ⟨#[54, 48]⟩ := by
  unfold itS
  rw [show (60 : Int) = ((60 : Nat) : Int) from rfl, Lib.itoa_nonneg, dec_big (by omega), dec_small (by omega)]
  rfl
theorem vl1 : vlS (cntV9 12345) = (⟨#[49, 50, 46, 51, 52, 53, 32, 109, 76]⟩ : ByteArray) := by decide +kernel
theorem vl2 : vlS (cntV9 7) = (⟨#[48, 46, 48, 48, 55, 32, 109, 76]⟩ : ByteArray) := by decide +kernel

set_option maxHeartbeats 4000000 in
theorem sc_text (w : World) (h : ScT w) : Calls Tryd.prog 9 #[.agg #[.int .i64 3, .int .i64 2, .int .i64 2, .int .i64 128, .int .i64 0, .int .i64 12345, .int .i64 60, .int .i64 25]] w fun e w' => e = .returned (.string (⟨#[82, 85, 78, 78, 73, 78, 71, 32, 49, 50, 46, 51, 52, 53, 32, 109, 76, 32, 54, 48, 32, 109, 76, 47, 104, 10, 33, 32, 68, 79, 79, 82, 10]⟩ : ByteArray)) ∧ Below w.heap.size w w' := by
  have HT := Lib.hid h
  have k0 : ∀ w, (Op.stringOp .add (⟨#[82, 85, 78, 78, 73, 78, 71]⟩ : ByteArray) (⟨#[32]⟩ : ByteArray)).run Tryd.prog w = .ok (.string (⟨#[82, 85, 78, 78, 73, 78, 71, 32]⟩ : ByteArray)) w := fun w => run_string_add_sum w _ _ (by decide)
  have k1 : ∀ w, (Op.stringOp .add (⟨#[82, 85, 78, 78, 73, 78, 71, 32]⟩ : ByteArray) (⟨#[49, 50, 46, 51, 52, 53, 32, 109, 76]⟩ : ByteArray)).run Tryd.prog w = .ok (.string (⟨#[82, 85, 78, 78, 73, 78, 71, 32, 49, 50, 46, 51, 52, 53, 32, 109, 76]⟩ : ByteArray)) w := fun w => run_string_add_sum w _ _ (by decide)
  have k2 : ∀ w, (Op.stringOp .add (⟨#[32]⟩ : ByteArray) (⟨#[54, 48]⟩ : ByteArray)).run Tryd.prog w = .ok (.string (⟨#[32, 54, 48]⟩ : ByteArray)) w := fun w => run_string_add_sum w _ _ (by decide)
  have k3 : ∀ w, (Op.stringOp .add (⟨#[32, 54, 48]⟩ : ByteArray) (⟨#[32, 109, 76, 47, 104]⟩ : ByteArray)).run Tryd.prog w = .ok (.string (⟨#[32, 54, 48, 32, 109, 76, 47, 104]⟩ : ByteArray)) w := fun w => run_string_add_sum w _ _ (by decide)
  have k4 : ∀ w, (Op.stringOp .add (⟨#[82, 85, 78, 78, 73, 78, 71, 32, 49, 50, 46, 51, 52, 53, 32, 109, 76]⟩ : ByteArray) (⟨#[32, 54, 48, 32, 109, 76, 47, 104]⟩ : ByteArray)).run Tryd.prog w = .ok (.string (⟨#[82, 85, 78, 78, 73, 78, 71, 32, 49, 50, 46, 51, 52, 53, 32, 109, 76, 32, 54, 48, 32, 109, 76, 47, 104]⟩ : ByteArray)) w := fun w => run_string_add_sum w _ _ (by decide)
  have k5 : ∀ w, (Op.stringOp .add (⟨#[82, 85, 78, 78, 73, 78, 71, 32, 49, 50, 46, 51, 52, 53, 32, 109, 76, 32, 54, 48, 32, 109, 76, 47, 104]⟩ : ByteArray) (⟨#[10]⟩ : ByteArray)).run Tryd.prog w = .ok (.string (⟨#[82, 85, 78, 78, 73, 78, 71, 32, 49, 50, 46, 51, 52, 53, 32, 109, 76, 32, 54, 48, 32, 109, 76, 47, 104, 10]⟩ : ByteArray)) w := fun w => run_string_add_sum w _ _ (by decide)
  have k6 : ∀ w, (Op.stringOp .add (⟨#[82, 85, 78, 78, 73, 78, 71, 32, 49, 50, 46, 51, 52, 53, 32, 109, 76, 32, 54, 48, 32, 109, 76, 47, 104, 10]⟩ : ByteArray) (⟨#[33, 32, 68, 79, 79, 82, 10]⟩ : ByteArray)).run Tryd.prog w = .ok (.string (⟨#[82, 85, 78, 78, 73, 78, 71, 32, 49, 50, 46, 51, 52, 53, 32, 109, 76, 32, 54, 48, 32, 109, 76, 47, 104, 10, 33, 32, 68, 79, 79, 82, 10]⟩ : ByteArray)) w := fun w => run_string_add_sum w _ _ (by decide)
  have HN := Lib.hid (show ∀ w, ScT w → Calls Tryd.prog 20 #[.int .i64 3] w fun e w' => e = .returned (.string (⟨#[82, 85, 78, 78, 73, 78, 71]⟩ : ByteArray)) ∧ Below w.heap.size w w' from fun w h => (md_name 3 w h.names).mono fun _ _ ⟨he, hw⟩ => ⟨he, by rw [← hw]; exact Below.refl _ _⟩)
  have HV := Lib.hid (show ∀ w, ScT w → Calls Tryd.prog 8 #[.int .i64 12345] w fun e w' => e = .returned (.string (⟨#[49, 50, 46, 51, 52, 53, 32, 109, 76]⟩ : ByteArray)) ∧ Below w.heap.size w w' from fun w h => vl1 ▸ sc_volume 12345 w h.tab)
  have HI := Lib.hid (show ∀ w, ScT w → Calls Tryd.prog 18 #[.int .i64 60] w fun e w' => e = .returned (.string (⟨#[54, 48]⟩ : ByteArray)) ∧ Below w.heap.size w w' from fun w h => it60 ▸ sc_itoa 60 (by omega) (by omega) w h.tab)
  have HF := Lib.hid (show ∀ w, Calls Tryd.prog 21 #[.int .i64 3] w fun e w' => e = .returned (.bool true) ∧ w = w' from fun w => md_infuses 3 w)
  have HL := Lib.hid (fun w h => sc_alarmed w h)
  have A : Below w.heap.size w w := Below.refl _ _
  clear h
  go_enter Tryd.func9, Tryd.ntmps9
  go_upto_region 1 with (fail)
  refine at_world (fun x => Below w.heap.size w x ∧ Box x w.heap.size #[.int .i64 3, .int .i64 2, .int .i64 2, .int .i64 128, .int .i64 0, .int .i64 12345, .int .i64 60, .int .i64 25]) ⟨by (repeat (first | (with_reducible exact Below.refl _ _) | (with_reducible assumption) | (with_reducible refine Near.up _ ?_) | (with_reducible refine Below.drew ?_) | (with_reducible refine below_alloc_on ?_ _) | (with_reducible refine below_set_on ?_ (by first | (simp; done) | (simp; omega) | omega) _))), by (repeat (first | (with_reducible assumption) | (with_reducible exact box_new _ _ _) | ((with_reducible apply box_at); (first | (with_reducible rfl) | (simp <;> omega))) | (with_reducible apply Box.drew) | (with_reducible apply Box.drewN) | (with_reducible apply Box.near) | (with_reducible apply Box.alloc) | ((with_reducible apply box_far); (first | assumption | omega | (simp <;> omega))) | ((with_reducible apply Box.one_set); (with_reducible assumption)) | ((with_reducible apply Box.two_set); (with_reducible assumption)) | ((with_reducible apply Box.three_set); (with_reducible assumption)) | (with_reducible apply Box.set) | (simp only [List.size_toArray, List.length_cons, List.length_nil, Array.size_setIfInBounds] <;> omega)))⟩ ?_
  clear A
  rintro w1 ⟨A, R⟩
  obtain ⟨g, hg⟩ : ∃ g, w.heap.size = g := ⟨_, rfl⟩
  rw [hg] at R
  simp only [hg]
  clear hg
  have HT1 := Lib.hid (HT.out.stays A)
  obtain ⟨c0, c1, c2, c3, c4, c5, c6, c7, cf, cl⟩ := R.eightB
  refine wp_region_calm (by kernel_rfl) (by kernel_rfl) ?_
  repeat (go_big_quiet_step ((first | ((go_at_call 20; exact calm_of _ (HN.out _ (HT1.out.stays (Near.below _))))) | ((go_at_call 8; exact calm_of _ (HV.out _ (HT1.out.stays (Near.below _))))))))
  refine wpQuiet_nil ?_
  intro _ hw'
  obtain ⟨u, rfl⟩ := hw'
  have A2 := u.up A
  have R2 := R.near u
  have HT2 := Lib.hid (HT1.out.stays u.below)
  clear A R HT1 HT c0 c1 c2 c3 c4 c5 c6 c7 cf cl
  generalize u.at_ = w2 at *
  clear u
  obtain ⟨c0, c1, c2, c3, c4, c5, c6, c7, cf, cl⟩ := R2.eightB
  go_wp2_with (go_at_call 21; refine (HF.out _).mono ?_; rintro e w' ⟨rfl, rfl⟩)
  refine (HI.out _ HT2.out).mono ?_
  rintro e w3 ⟨rfl, hb⟩
  have A3 := below_call A2 hb
  have R3 := R2.below hb
  have HT3 := Lib.hid (HT2.out.stays hb)
  clear hb A2 R2 HT2 c0 c1 c2 c3 c4 c5 c6 c7 cf cl
  obtain ⟨c0, c1, c2, c3, c4, c5, c6, c7, cf, cl⟩ := R3.eightB
  go_wp2_with (fail)
  refine (HL.out _ HT3.out).mono ?_
  rintro e w4 ⟨rfl, hb⟩
  have A4 := below_call A3 hb
  clear hb
  go_wp2
  go_ret
  exact ⟨rfl, A4⟩

set_option maxHeartbeats 8000000 in
theorem law43_awake (w : World) (h : ScT w) : Calls Tryd.prog 5 #[] w fun e w' => e = .returned (.bool true) ∧ Below w.heap.size w w' := by
  have hp : pkB [3, 2, 2, 128, 0, 12345, 60, 25] wsS = true := by decide +kernel
  have HF := fun w => sc_frame 3 2 2 128 0 12345 60 25 (by simp) w
  rw [hp] at HF
  have hs := fc_size hp
  have HP := fun w => sc_parse (fcS [3, 2, 2, 128, 0, 12345, 60, 25]) w (by omega)
  rw [pr_put hp] at HP
  simp only [fpV_put hp, List.getD_cons_zero, List.getD_cons_succ] at HP
  generalize fcS [3, 2, 2, 128, 0, 12345, 60, 25] = fs at *
  have HF := Lib.hid HF
  have HP := Lib.hid HP
  have HV := Lib.hid (show ∀ w, ScT w → Calls Tryd.prog 8 #[.int .i64 12345] w fun e w' => e = .returned (.string (⟨#[49, 50, 46, 51, 52, 53, 32, 109, 76]⟩ : ByteArray)) ∧ Below w.heap.size w w' from fun w h => vl1 ▸ sc_volume 12345 w h.tab)
  have HW := Lib.hid (show ∀ w, ScT w → Calls Tryd.prog 8 #[.int .i64 7] w fun e w' => e = .returned (.string (⟨#[48, 46, 48, 48, 55, 32, 109, 76]⟩ : ByteArray)) ∧ Below w.heap.size w w' from fun w h => vl2 ▸ sc_volume 7 w h.tab)
  have HX := Lib.hid (fun w h => sc_text w h)
  have HT := Lib.hid h
  have A : Below w.heap.size w w := Below.refl _ _
  clear h hp
  go_enter Tryd.func5, Tryd.ntmps5
  go_upto_region 2 with (fail)
  refine at_world (fun x => Below w.heap.size w x ∧ Box x w.heap.size #[.int .i64 3, .int .i64 2, .int .i64 2, .int .i64 128, .int .i64 0, .int .i64 12345, .int .i64 60, .int .i64 25]) ⟨by (repeat (first | (with_reducible exact Below.refl _ _) | (with_reducible assumption) | (with_reducible refine Near.up _ ?_) | (with_reducible refine Below.drew ?_) | (with_reducible refine below_alloc_on ?_ _) | (with_reducible refine below_set_on ?_ (by first | (simp; done) | (simp; omega) | omega) _))), box_cast (by (repeat (first | (with_reducible assumption) | (with_reducible exact box_new _ _ _) | ((with_reducible apply box_at); (first | (with_reducible rfl) | (simp <;> omega))) | (with_reducible apply Box.drew) | (with_reducible apply Box.drewN) | (with_reducible apply Box.near) | (with_reducible apply Box.alloc) | ((with_reducible apply box_far); (first | assumption | omega | (simp <;> omega))) | ((with_reducible apply Box.one_set); (with_reducible assumption)) | ((with_reducible apply Box.two_set); (with_reducible assumption)) | ((with_reducible apply Box.three_set); (with_reducible assumption)) | (with_reducible apply Box.set) | (simp only [List.size_toArray, List.length_cons, List.length_nil, Array.size_setIfInBounds] <;> omega)))) (by first | rfl | simp)⟩ ?_
  clear A
  rintro w1 ⟨A1, F1⟩
  obtain ⟨g, hg⟩ : ∃ g, w.heap.size = g := ⟨_, rfl⟩
  have og : w.heap.size ≤ g := by omega
  rw [hg] at F1
  simp only [hg]
  clear hg
  have T1 := Lib.hid (HT.out.stays A1)
  have cf := F1.2.1
  have lf := F1.1
  go_wp2_with (fail)
  refine (HF.out _).mono ?_
  rintro e w2 ⟨rfl, hb⟩
  have A2 := below_call A1 hb
  have F2 := F1.below hb
  have T2 := Lib.hid (T1.out.stays hb)
  clear hb A1 F1 T1 cf lf
  have cf := F2.2.1
  have lf := F2.1
  go_wp2_with (fail)
  refine (HP.out _).mono ?_
  rintro e w3 ⟨rfl, hb⟩
  have A3 := below_call A2 hb
  have F3 := F2.below hb
  have T3 := Lib.hid (T2.out.stays hb)
  clear hb A2 F2 T2 cf lf
  go_upto_region 4 with (fail)
  refine at_world (fun x => Below w.heap.size w x ∧ Box x g #[.int .i64 3, .int .i64 2, .int .i64 2, .int .i64 128, .int .i64 0, .int .i64 12345, .int .i64 60, .int .i64 25] ∧ Box x w3.heap.size #[.int .i64 3, .int .i64 2, .int .i64 2, .int .i64 128, .int .i64 0, .int .i64 12345, .int .i64 60, .int .i64 25]) ⟨by (repeat (first | (with_reducible exact Below.refl _ _) | (with_reducible assumption) | (with_reducible refine Near.up _ ?_) | (with_reducible refine Below.drew ?_) | (with_reducible refine below_alloc_on ?_ _) | (with_reducible refine below_set_on ?_ (by first | (simp; done) | (simp; omega) | omega) _))), by (repeat (first | (with_reducible assumption) | (with_reducible exact box_new _ _ _) | ((with_reducible apply box_at); (first | (with_reducible rfl) | (simp <;> omega))) | (with_reducible apply Box.drew) | (with_reducible apply Box.drewN) | (with_reducible apply Box.near) | (with_reducible apply Box.alloc) | ((with_reducible apply box_far); (first | assumption | omega | (simp <;> omega))) | ((with_reducible apply Box.one_set); (with_reducible assumption)) | ((with_reducible apply Box.two_set); (with_reducible assumption)) | ((with_reducible apply Box.three_set); (with_reducible assumption)) | (with_reducible apply Box.set) | (simp only [List.size_toArray, List.length_cons, List.length_nil, Array.size_setIfInBounds] <;> omega))), box_cast (by (repeat (first | (with_reducible assumption) | (with_reducible exact box_new _ _ _) | ((with_reducible apply box_at); (first | (with_reducible rfl) | (simp <;> omega))) | (with_reducible apply Box.drew) | (with_reducible apply Box.drewN) | (with_reducible apply Box.near) | (with_reducible apply Box.alloc) | ((with_reducible apply box_far); (first | assumption | omega | (simp <;> omega))) | ((with_reducible apply Box.one_set); (with_reducible assumption)) | ((with_reducible apply Box.two_set); (with_reducible assumption)) | ((with_reducible apply Box.three_set); (with_reducible assumption)) | (with_reducible apply Box.set) | (simp only [List.size_toArray, List.length_cons, List.length_nil, Array.size_setIfInBounds] <;> omega)))) (by first | rfl | simp)⟩ ?_
  clear A3 F3
  rintro w4 ⟨A4, F4, G4⟩
  obtain ⟨g2, hg2⟩ : ∃ g2, w3.heap.size = g2 := ⟨_, rfl⟩
  rw [hg2] at G4
  simp only [hg2]
  clear hg2
  have T4 := Lib.hid (HT.out.stays A4)
  have cf := F4.2.1
  have lf := F4.1
  have cg := G4.2.1
  have lg := G4.1
  go_wp2_with (fail)
  refine (HV.out _ T4.out).mono ?_
  rintro e w5 ⟨rfl, hb⟩
  have A5 := below_call A4 hb
  have F5 := F4.below hb
  have T5 := Lib.hid (T4.out.stays hb)
  clear hb A4 F4 G4 T4 cf lf cg lg
  have cf := F5.2.1
  have lf := F5.1
  go_wp2_with (fail)
  refine (HW.out _ T5.out).mono ?_
  rintro e w6 ⟨rfl, hb⟩
  have A6 := below_call A5 hb
  have F6 := F5.below hb
  have T6 := Lib.hid (T5.out.stays hb)
  clear hb A5 F5 T5 cf lf
  have cf := F6.2.1
  have lf := F6.1
  go_wp2_with (fail)
  refine (HX.out _ T6.out).mono ?_
  rintro e w7 ⟨rfl, hb⟩
  have A7 := below_call A6 hb
  clear hb A6 F6 T6 cf lf
  go_wp2
  go_ret
  exact ⟨rfl, A7⟩
end Go.Proofs.YtjdahghnfgblgaaDoor
