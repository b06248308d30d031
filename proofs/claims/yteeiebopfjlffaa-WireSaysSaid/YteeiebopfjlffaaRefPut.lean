/- The document's Put. -/
import Derived.Test.YteeiebopfjlffaaRefT
namespace Go.Proofs.Yteeiebopfjlffaa
open Go.RowKit Ieee
set_option linter.unusedVariables false
set_option linter.unusedSimpArgs false
set_option maxRecDepth 100000
attribute [local go_sem] cell_set_ite run_store_real
set_option maxHeartbeats 4000000 in
theorem rp_put (A : Option Addr) (n c : Nat) (f : Nat → Sp) (w : World) (h : Stp w A n f) (hc : n ≤ c) (hn : n ≤ 1000000) :
    Calls Try.prog 8 #[.slice A n c] w fun e w' => e = .returned (.tuple #[.string (puS (spL f n)), .bool (puB (spL f n))]) ∧ Below w.heap.size w w' := by
  have D0 : Below w.heap.size w w := Below.refl _ _
  by_cases h320 : n ≤ 320
  · have HI := Lib.hid h
    have HP := Lib.hid (show puB (spL f n) = okB (spL f n) by unfold puB; rw [spL_len, decide_eq_true h320, Bool.true_and])
    clear h
    go_enter Try.func8, Try.ntmps8
    go_wp2_with (fail)
    go_loopw [4, 5, 6, 7, 13] (fun v _ _ _ i wr => ∃ k : Nat, k ≤ n ∧ i = .int .i64 k ∧ v = .string ⟨(enL (spL f k)).toArray⟩ ∧ Below w.heap.size w wr ∧ okB (spL f k) = true) (fun _ _ _ _ i _ => n - (intOf i).toNat)
    case atStart => exact ⟨0, Nat.zero_le _, rfl, rfl, D0, rfl⟩
    case round =>
      obtain ⟨k, hk, rfl, rfl, A1, hok⟩ := hrel
      have hesz : (ByteArray.mk (enL (spL f k)).toArray).size = (enL (spL f k)).length := List.size_toArray
      by_cases hlt : k < n
      · obtain ⟨b, off, rfl, hb, hcell⟩ := HI.out.at_ (by omega)
        have hwf := HI.out.1 k hlt
        obtain ⟨q0, q1, q2, q3, q4, q5, q6, q7, q8⟩ := hcell k hlt
        have c0 := (A1.cell (p := ⟨b, off + k * 9, none⟩) hb).trans q0
        have c1 := (A1.cell (p := ⟨b, off + k * 9 + 1, none⟩) hb).trans q1
        have c2 := (A1.cell (p := ⟨b, off + k * 9 + 2, none⟩) hb).trans q2
        have c3 := (A1.cell (p := ⟨b, off + k * 9 + 3, none⟩) hb).trans q3
        have c4 := (A1.cell (p := ⟨b, off + k * 9 + 4, none⟩) hb).trans q4
        have c5 := (A1.cell (p := ⟨b, off + k * 9 + 5, none⟩) hb).trans q5
        have c6 := (A1.cell (p := ⟨b, off + k * 9 + 6, none⟩) hb).trans q6
        have c7 := (A1.cell (p := ⟨b, off + k * 9 + 7, none⟩) hb).trans q7
        have c8 := (A1.cell (p := ⟨b, off + k * 9 + 8, none⟩) hb).trans q8
        have KS := Lib.hid fun w => rp_step (f k) hwf.1 hwf.2.1 hwf.2.2.1 hwf.2.2.2 w
        unfold spV at KS
        have HOK := Lib.hid hok
        have hel := en_len (spL f k) hok
        rw [spL_len] at hel
        have HNO := Lib.hid fun h => okB_all f n k hlt h
        have HSN := Lib.hid (spL_succ f k)
        have HST := Lib.hid fun h => st_len (f k) h
        clear q0 q1 q2 q3 q4 q5 q6 q7 q8 hcell hwf hok
        have hsS : stB (f k) = true → (stS (f k)).data.toList = stL (f k) := fun h => by unfold stS; rw [h]; rfl
        generalize stS (f k) = sS at *
        have HSS := Lib.hid hsS
        clear hsS
        cases hB : stB (f k) with
        | false =>
          rw [hB] at KS
          have hno := HNO.out hB
          have e1 : puB (spL f n) = false := by rw [HP.out, hno]
          have e2 : puS (spL f n) = ⟨#[]⟩ := by unfold puS; rw [e1]; rfl
          have HE1 := Lib.hid e1
          have HE2 := Lib.hid e2
          clear hB hno e1 e2
          go_wp2_with (fail)
          refine (KS.out _).mono ?_
          rintro e w1 ⟨rfl, b1⟩
          go_wp2_with (fail)
          all_goals go_ret2
          all_goals exact ⟨by rw [HE1.out, HE2.out]; rfl, below_call A1 b1⟩
        | true =>
          rw [hB] at KS
          have hsl := HSS.out hB
          have hst := HST.out hB
          have hsz : sS.size ≤ 66 := by
            have : sS.data.toList.length = sS.size := Array.length_toList
            rw [← this, hsl]; exact hst
          have HSL := Lib.hid hsl
          have HSB := Lib.hid hB
          clear hB hsl hst
          go_wp2_with (fail)
          refine (KS.out _).mono ?_
          rintro e w1 ⟨rfl, b1⟩
          have A2 := below_call A1 b1
          have HAP := Lib.hid (show (ByteArray.mk (enL (spL f k)).toArray) ++ sS = ⟨(enL (spL f k ++ [f k])).toArray⟩ by
            rw [enL_snoc, ← app_bytes, ← HSL.out])
          go_wp2_with (fail)
          go_roundw
          case rel => exact ⟨k + 1, by omega, by go_num, by rw [HSN.out, ← HAP.out], A2, by rw [HSN.out, okB_snoc, HOK.out, HSB.out]; rfl⟩
          case measure => simp [intOf]; omega
      · obtain rfl : k = n := by omega
        have e1 : puB (spL f k) = true := by rw [HP.out, hok]
        have e2 : puS (spL f k) = sealB ⟨(enL (spL f k)).toArray⟩ := by unfold puS; rw [e1]; rfl
        have hel := en_len (spL f k) hok
        rw [spL_len] at hel
        have hsz : (ByteArray.mk (enL (spL f k)).toArray).size = (enL (spL f k)).length := List.size_toArray
        have KE := Lib.hid fun w => ref6_seal ⟨(enL (spL f k)).toArray⟩ w (by rw [hsz]; omega)
        rw [← e2] at KE
        have HE1 := Lib.hid e1
        clear e1 e2 hok HP HI
        go_wp2_with (go_at_call 17; refine (KE.out _).mono ?_; rintro e w2 ⟨rfl, b2⟩)
        all_goals go_ret2
        all_goals exact ⟨by rw [HE1.out]; rfl, below_call A1 b2⟩
  · have e1 : puB (spL f n) = false := by unfold puB; rw [spL_len, decide_eq_false h320]; rfl
    have e2 : puS (spL f n) = ⟨#[]⟩ := by unfold puS; rw [e1]; rfl
    rw [e1, e2]
    clear e1 e2 h
    go_enter Try.func8, Try.ntmps8
    go_wp2_with (fail)
    all_goals go_ret2
    all_goals exact ⟨rfl, D0⟩
end Go.Proofs.Yteeiebopfjlffaa
