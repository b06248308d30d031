/- The document's step. -/
import Derived.Test.YteeiebopfjlffaaRefP
namespace Go.Proofs.Yteeiebopfjlffaa
open Go.RowKit Ieee
set_option linter.unusedVariables false
set_option linter.unusedSimpArgs false
set_option maxRecDepth 100000
attribute [local go_sem] cell_set_ite run_store_real Near.cell Near.frozen

theorem tk_sum (r : Rw) (k0 : 0 ≤ r.key) (k1 : r.key < 256) : numS 0 1 ++ reS r.adc ++ reS r.tilt ++ reS r.bat ++ reS r.enc ++ numS ((trN r.door r.wr : Nat) : Int) 1 ++ numS r.key 1 = ⟨(tkL r).toArray⟩ := by
  have h0 := toS_succ r 0 (by omega)
  have h1 := toS_succ r 1 (by omega)
  have h2 := toS_succ r 2 (by omega)
  have h3 := toS_succ r 3 (by omega)
  rw [← toS_four r k0 k1, ← h3, ← h2, ← h1, ← h0, toS_zero]
  rfl
set_option maxHeartbeats 4000000 in
theorem rp_step (x : Sp) (hr : wfR x.raw) (k0 : -9223372036854775808 ≤ x.raw.key) (k1 : x.raw.key ≤ 9223372036854775807) (hz : x.torn.size ≤ maxLen) (w : World) :
    Calls Try.prog 16 #[spV x] w fun e w' => e = .returned (.tuple #[.string (stS x), .bool (stB x)]) ∧ Below w.heap.size w w' := by
  have D0 : Below w.heap.size w w := Below.refl _ _
  have HCS := Lib.hid (cutS x)
  have eB : stB x = if x.cut then decide (x.torn.size ≤ 64) else wkB x.raw := rfl
  have eS : x.cut = false → stS x = wkS x.raw := fun hc => by
    unfold stS wkS stL
    rw [eB, hc]
    rfl
  obtain ⟨raw, cut, torn⟩ := x
  simp only at eB eS HCS k0 k1 hz hr
  cases cut with
  | false =>
    have eS := eS rfl
    simp only [Bool.false_eq_true, if_false] at eB
    rw [eS, eB]
    clear eS eB HCS
    obtain ⟨adc, tilt, bat, enc, door, key, wr⟩ := raw
    obtain ⟨h1, h2, h3, h4⟩ := hr
    have NK := Lib.hid fun w => ref7_num key 1 k0 k1 w
    show Calls _ _ #[.agg #[.float .f64 adc, .float .f64 tilt, .float .f64 bat, .float .f64 enc, .bool door, .int .i64 key, .bool wr, .bool false, .string torn]] w _
    simp only at h1 h2 h3 h4 k0 k1
    by_cases hk : 0 ≤ key ∧ key < 256
    · have e1 : wkB ⟨adc, tilt, bat, enc, door, key, wr⟩ = true := decide_eq_true hk
      have e2 : wkS ⟨adc, tilt, bat, enc, door, key, wr⟩ = ⟨(tkL ⟨adc, tilt, bat, enc, door, key, wr⟩).toArray⟩ := by unfold wkS; rw [e1]; rfl
      have e3 := tk_sum ⟨adc, tilt, bat, enc, door, key, wr⟩ hk.1 hk.2
      rw [e1, e2, ← e3]
      clear e1 e2 e3
      obtain ⟨N, rfl⟩ := Int.eq_ofNat_of_zero_le hk.1
      have hS := numS_is N 1 (by omega) (by omega) (by omega)
      obtain ⟨sK, hsK⟩ : ∃ sK, numS (N : Int) 1 = sK := ⟨_, rfl⟩
      have hsz : sK.size = 1 := by rw [← hsK, show (1 : Int) = ((1 : Nat) : Int) from rfl, hS]; rfl
      have hem : (sK.toList == []) = false := by
        rw [← hsK, show (1 : Int) = ((1 : Nat) : Int) from rfl, hS, num_one, ByteArray.toList_eq]; rfl
      simp only
      rw [hsK] at NK ⊢
      have NT := Lib.hid fun w => ref7_num ((trN door wr : Nat) : Int) 1 (by omega) (by have := tr_lt door wr; omega) w
      have N0 := Lib.hid fun w => ref7_num 0 1 (by omega) (by omega) w
      have R1 := Lib.hid fun w => rp_real adc h1 w
      have R2 := Lib.hid fun w => rp_real tilt h2 w
      have R3 := Lib.hid fun w => rp_real bat h3 w
      have R4 := Lib.hid fun w => rp_real enc h4 w
      have M1 := Lib.hid fun w => rp_mark door 1 w
      have M2 := Lib.hid fun w => rp_mark wr 2 w
      have hor := tr_or door wr
      have z0 := numS7 0 1
      have z1 := reS_size adc
      have z2 := reS_size tilt
      have z3 := reS_size bat
      have z4 := reS_size enc
      have z5 := numS7 ((trN door wr : Nat) : Int) 1
      clear hsK hS hk h1 h2 h3 h4
      generalize numS ((trN door wr : Nat) : Int) 1 = sT at *
      generalize trN door wr = T at *
      generalize (if door then (1 : Int) else 0) = dm at *
      generalize (if wr then (2 : Int) else 0) = wm at *
      generalize numS 0 1 = s0 at *
      generalize reS adc = sa at *
      generalize reS tilt = st at *
      generalize reS bat = sb at *
      generalize reS enc = se at *
      go_enter Try.func16, Try.ntmps16
      go_wp2_with (fail)
      refine (NK.out _).mono ?_
      rintro e w1 ⟨rfl, b1⟩
      have A1 := below_call (below_alloc_on (below_alloc_on D0 _) _) b1
      have X1 : Box w1 (w.heap.size + 1) #[.float .f64 adc, .float .f64 tilt, .float .f64 bat, .float .f64 enc, .bool door, .int .i64 N, .bool wr] := (box_at (w.alloc _) _ _ (by simp)).below b1
      have lt1 := X1.1
      have d0 := X1.2.1 0
      have d1 := X1.2.1 1
      have d2 := X1.2.1 2
      have d3 := X1.2.1 3
      have d4 := X1.2.1 4
      have d6 := X1.2.1 6
      simp only [List.getElem?_toArray, List.getElem?_cons_succ, List.getElem?_cons_zero] at d0 d1 d2 d3 d4 d6
      have hNT : Hid (∀ w, Calls Try.prog 27 #[.int .i64 (bits .or .i64 dm wm), .int .i64 1] w fun e w' => e = .returned (.string sT) ∧ Below w.heap.size w w') := by rw [hor]; exact NT
      clear X1 b1 NK hor NT
      go_wp2_with (fail)
      refine wp_region_calm (by kernel_rfl) (by kernel_rfl) ?_
      repeat (go_big_quiet_step ((first | (go_at_call 27; with_reducible exact calm_of _ (N0.out _)) | (go_at_call 28; with_reducible exact calm_of _ (R1.out _)) | (go_at_call 28; with_reducible exact calm_of _ (R2.out _)) | (go_at_call 28; with_reducible exact calm_of _ (R3.out _)) | (go_at_call 28; with_reducible exact calm_of _ (R4.out _)) | (go_at_call 29; with_reducible exact calm_same _ (M1.out _)) | (go_at_call 29; with_reducible exact calm_same _ (M2.out _)) | (go_at_call 27; with_reducible exact calm_of _ (hNT.out _)))))
      refine wpQuiet_nil ?_
      intro _ hw'
      obtain ⟨u, rfl⟩ := hw'
      go_wp2_with (fail)
      all_goals go_ret2
      all_goals exact ⟨rfl, below_call A1 u.below⟩
    · have hS : numS key 1 = ⟨#[]⟩ := numS_no (by simp; omega)
      have e1 : wkB ⟨adc, tilt, bat, enc, door, key, wr⟩ = false := decide_eq_false hk
      have e2 : wkS ⟨adc, tilt, bat, enc, door, key, wr⟩ = ⟨#[]⟩ := by unfold wkS; rw [e1]; rfl
      rw [e1, e2]
      rw [hS] at NK
      clear e1 e2 hS
      go_enter Try.func16, Try.ntmps16
      go_wp2_with (go_at_call 27; refine (NK.out _).mono ?_; rintro e w1 ⟨rfl, b1⟩)
      all_goals go_ret2
      all_goals exact ⟨rfl, below_call (below_alloc_on (below_alloc_on D0 _) _) b1⟩
  | true =>
    clear eS
    obtain ⟨adc, tilt, bat, enc, door, key, wr⟩ := raw
    show Calls _ _ #[.agg #[.float .f64 adc, .float .f64 tilt, .float .f64 bat, .float .f64 enc, .bool door, .int .i64 key, .bool wr, .bool true, .string torn]] w _
    simp only [if_true] at eB
    by_cases ht : torn.size ≤ 64
    · rw [decide_eq_true ht] at eB
      have e := HCS.out rfl eB
      rw [← e, eB]
      clear e eB HCS
      have N1 := Lib.hid fun w => ref7_num 1 1 (by omega) (by omega) w
      have N2 := Lib.hid fun w => ref7_num ((torn.size : Nat) : Int) 1 (by omega) (by omega) w
      have z1 := numS7 1 1
      have z2 := numS7 ((torn.size : Nat) : Int) 1
      generalize numS 1 1 = s1 at *
      generalize numS ((torn.size : Nat) : Int) 1 = s2 at *
      go_enter Try.func16, Try.ntmps16
      go_wp2_with (fail)
      refine wp_region_calm (by kernel_rfl) (by kernel_rfl) ?_
      repeat (go_big_quiet_step ((first | (go_at_call 27; with_reducible exact calm_of _ (N1.out _)) | (go_at_call 27; with_reducible exact calm_of _ (N2.out _)))))
      refine wpQuiet_nil ?_
      intro _ hw'
      obtain ⟨u, rfl⟩ := hw'
      go_wp2_with (fail)
      all_goals go_ret2
      all_goals exact ⟨rfl, below_call (below_alloc_on D0 _) u.below⟩
    · rw [decide_eq_false ht] at eB
      have eS : stS ⟨⟨adc, tilt, bat, enc, door, key, wr⟩, true, torn⟩ = ⟨#[]⟩ := by unfold stS; rw [eB]; rfl
      rw [eS, eB]
      clear eS eB HCS
      go_enter Try.func16, Try.ntmps16
      go_wp2_with (fail)
      all_goals go_ret2
      all_goals exact ⟨rfl, below_alloc_on D0 _⟩
end Go.Proofs.Yteeiebopfjlffaa
