/- The law's awake. -/
import Derived.Test.YteeiebopfjlffaaLaw50
namespace Go.Proofs.Yteeiebopfjlffaa
open Go.RowKit Ieee
set_option linter.unusedVariables false
set_option linter.unusedSimpArgs false
set_option maxRecDepth 100000
attribute [local go_sem] cell_set_ite run_store_real

theorem aw_stp (w : World) (x : Nat) (hl : x < 18446744073709551616) (t : TypeId) : Stp (w.alloc (.cells #[.float .f64 x, .float .f64 4609434218613702656, .float .f64 9223372036854775808, .float .f64 9218868437227405312, .bool true, .int .i64 3, .bool false, .bool false, .string ⟨#[]⟩, .float .f64 0, .float .f64 0, .float .f64 0, .float .f64 0, .bool false, .int .i64 0, .bool false, .bool true, .string ⟨#[97, 98]⟩] t)).drew (some ⟨w.heap.size, 0, none⟩) 2 (awF x) := by
  have B := (box_new w #[.float .f64 x, .float .f64 4609434218613702656, .float .f64 9223372036854775808, .float .f64 9218868437227405312, .bool true, .int .i64 3, .bool false, .bool false, .string ⟨#[]⟩, .float .f64 0, .float .f64 0, .float .f64 0, .float .f64 0, .bool false, .int .i64 0, .bool false, .bool true, .string ⟨#[97, 98]⟩] t).drew
  have ML : 2 ≤ maxLen := by decide
  refine ⟨fun i hi => ?_, fun _ => ⟨w.heap.size, 0, rfl, B.1, fun i hi j hj => ?_⟩⟩
  · match i, hi with
    | 0, _ => exact ⟨⟨hl, by show (4609434218613702656 : Nat) < _; omega, by show (9223372036854775808 : Nat) < _; omega, by show (9218868437227405312 : Nat) < _; omega⟩, by show _ ≤ (3 : Int); omega, by show (3 : Int) ≤ _; omega, Nat.zero_le _⟩
    | 1, _ => exact ⟨wf_noR, by show _ ≤ (0 : Int); omega, by show (0 : Int) ≤ _; omega, ML⟩
  match i, hi, j, hj with
  | 0, _, 0, _ => exact B.2.1 0
  | 0, _, 1, _ => exact B.2.1 1
  | 0, _, 2, _ => exact B.2.1 2
  | 0, _, 3, _ => exact B.2.1 3
  | 0, _, 4, _ => exact B.2.1 4
  | 0, _, 5, _ => exact B.2.1 5
  | 0, _, 6, _ => exact B.2.1 6
  | 0, _, 7, _ => exact B.2.1 7
  | 0, _, 8, _ => exact B.2.1 8
  | 1, _, 0, _ => exact B.2.1 9
  | 1, _, 1, _ => exact B.2.1 10
  | 1, _, 2, _ => exact B.2.1 11
  | 1, _, 3, _ => exact B.2.1 12
  | 1, _, 4, _ => exact B.2.1 13
  | 1, _, 5, _ => exact B.2.1 14
  | 1, _, 6, _ => exact B.2.1 15
  | 1, _, 7, _ => exact B.2.1 16
  | 1, _, 8, _ => exact B.2.1 17
set_option maxHeartbeats 4000000 in
theorem l50_awake (w : World) : Calls Try.prog 6 #[] w fun e w' => e = .returned (.bool true) ∧ Below w.heap.size w w' := by
  obtain ⟨x, hx, hn, hl⟩ := run_nan 31 w
  have q1 : ∀ t w, (binOp .quo t (.float .f64 4607182418800017408) (.float .f64 0)).run Try.prog w = .ok (.float .f64 9218868437227405312) w := fun t w => run_float_arith w .quo t .f64 _ _ _ (by decide +kernel)
  have q2 : ∀ t w, (binOp .quo t (.float .f64 13830554455654793216) (.float .f64 9218868437227405312)).run Try.prog w = .ok (.float .f64 9223372036854775808) w := fun t w => run_float_arith w .quo t .f64 _ _ _ (by decide +kernel)
  have D0 : Below w.heap.size w w := Below.refl _ _
  have HAW := Lib.hid (aw_bytes x hn)
  have HL := Lib.hid hl
  clear hn hl
  go_enter Try.func6, Try.ntmps6
  go_wp2_with (fail)
  have h0 := aw_stp w x HL.out 35
  have A0 : Below w.heap.size w (w.alloc (.cells #[.float .f64 x, .float .f64 4609434218613702656, .float .f64 9223372036854775808, .float .f64 9218868437227405312, .bool true, .int .i64 3, .bool false, .bool false, .string ⟨#[]⟩, .float .f64 0, .float .f64 0, .float .f64 0, .float .f64 0, .bool false, .int .i64 0, .bool false, .bool true, .string ⟨#[97, 98]⟩] 35)).drew := Below.drew (below_alloc_on D0 _)
  generalize (w.alloc (.cells #[.float .f64 x, .float .f64 4609434218613702656, .float .f64 9223372036854775808, .float .f64 9218868437227405312, .bool true, .int .i64 3, .bool false, .bool false, .string ⟨#[]⟩, .float .f64 0, .float .f64 0, .float .f64 0, .float .f64 0, .bool false, .int .i64 0, .bool false, .bool true, .string ⟨#[97, 98]⟩] 35)).drew = w0 at h0 A0 ⊢
  have H0 := Lib.hid h0
  have KP := Lib.hid (wi_put _ 2 2 (awF x) w0 h0 (Nat.le_refl _) (by omega))
  rw [HAW.out.1, HAW.out.2] at KP
  have hsz := aw_size
  have hno := aw_no
  have KG := Lib.hid fun w => wi_get (sealB ⟨awL.toArray⟩) (by rw [hsz]; omega) w
  have KN := Lib.hid fun w => wi_get (sealB ⟨awL.toArray⟩ ++ ⟨#[120]⟩) (by rw [ByteArray.size_append, hsz]; show 21 + 1 ≤ _; omega) w
  rw [hno] at KN
  have HP := Lib.hid (fun (ms : List Sp) (ok : Bool) (wm : wfL ms) (g : Got (toldB (sealB ⟨awL.toArray⟩)).data.toList (openB (sealB ⟨awL.toArray⟩)) ok ms) => got_put (l := spL (awF x) 2) (ms := ms) (ok := ok) h0.wf wm HAW.out.1 (by rw [HAW.out.2]; exact g))
  have hzx : (⟨#[120]⟩ : ByteArray).size = 1 := rfl
  clear h0 hno
  generalize sealB ⟨awL.toArray⟩ = t at *
  refine KP.out.mono ?_
  rintro e w1 ⟨rfl, b1⟩
  have A1 := below_call A0 b1
  go_wp2_with (fail)
  refine (KG.out _).mono ?_
  rintro e w2 ⟨B, m, d, g, ok, rfl, hs2, hd2, hm2, hg2, b2⟩
  obtain ⟨rfl, hsame, _, _⟩ := HP.out _ _ hs2.wf hg2
  obtain rfl := same_len hsame
  have A2 := below_call A1 b2
  have HE := Lib.hid (same_at hsame)
  have H2 := Lib.hid hs2
  have H02 := Lib.hid ((H0.out.below b1).below b2)
  clear hs2 hg2 hsame
  go_wp2_with (fail)
  refine (KN.out _).mono ?_
  rintro e w3 ⟨B', m', d', g', ok', rfl, hs3, hd3, hm3, hg3, b3⟩
  have A3 := below_call A2 b3
  cases ok' with
  | true => exact absurd (hg3.1 rfl).1 (by simp)
  | false =>
    have KA := Lib.hid (wi_alike _ B 2 2 d (awF x) g w3 (H02.out.below b3) (H2.out.below b3) (Nat.le_refl _) hd2 (by omega) HE.out)
    clear hs3 hg3
    go_wp2_with (go_at_call 11; refine KA.out.mono ?_; rintro e w4 ⟨rfl, b4⟩)
    all_goals go_ret
    all_goals exact ⟨rfl, below_call A3 b4⟩
end Go.Proofs.Yteeiebopfjlffaa
