/- Contract: Put. -/
import Derived.Test.YteeiebopfjlffaaRdS
import Derived.Test.YteeiebopfjlffaaBld
namespace Go.Proofs.Yteeiebopfjlffaa
open Go.RowKit Ieee
set_option linter.unusedVariables false
set_option linter.unusedSimpArgs false
set_option maxRecDepth 100000

def spL (f : Nat → Sp) (n : Nat) : List Sp := (List.range n).map f
theorem spL_succ (f : Nat → Sp) (n : Nat) : spL f (n + 1) = spL f n ++ [f n] := by simp [spL, List.range_succ]
theorem spL_len (f : Nat → Sp) (n : Nat) : (spL f n).length = n := by simp [spL]
def puB (l : List Sp) : Bool := decide (l.length ≤ 320) && okB l
def puS (l : List Sp) : ByteArray := if puB l then sealB ⟨(enL l).toArray⟩ else ⟨#[]⟩
theorem tk_len (r : Rw) : (tkL r).length ≤ 40 := by
  unfold tkL
  have := re_len r.adc
  have := re_len r.tilt
  have := re_len r.bat
  have := re_len r.enc
  simp
  omega
theorem st_len (x : Sp) (h : stB x = true) : (stL x).length ≤ 66 := by
  unfold stB at h
  unfold stL
  split
  · rename_i hc
    rw [hc] at h
    simp only [if_true, decide_eq_true_eq] at h
    have hl : x.torn.data.toList.length = x.torn.size := Array.length_toList
    simp only [List.length_cons]
    omega
  · have := tk_len x.raw
    omega
theorem en_len (l : List Sp) (h : okB l = true) : (enL l).length ≤ 66 * l.length := by
  induction l with
  | nil => simp [enL]
  | cons x l ih =>
    rw [okB, List.all_cons, Bool.and_eq_true] at h
    rw [enL_cons, List.length_append, List.length_cons]
    have := ih h.2
    have := st_len x h.1
    omega
theorem okB_snoc (l : List Sp) (x : Sp) : okB (l ++ [x]) = (okB l && stB x) := by simp [okB]
theorem okB_all (f : Nat → Sp) (n k : Nat) (hk : k < n) (h : stB (f k) = false) : okB (spL f n) = false := by
  cases ho : okB (spL f n)
  · rfl
  · rw [okB, List.all_eq_true] at ho
    have := ho (f k) (by simp [spL]; exact ⟨k, hk, rfl⟩)
    rw [h] at this
    exact absurd this (by decide)
attribute [local go_sem] cell_set_ite run_store_real
set_option maxHeartbeats 4000000 in
theorem wi_put (A : Option Addr) (n c : Nat) (f : Nat → Sp) (w : World) (h : Stp w A n f) (hc : n ≤ c) (hn : n ≤ 1000000) :
    Calls Try.prog 7 #[.slice A n c] w fun e w' => e = .returned (.tuple #[.string (puS (spL f n)), .bool (puB (spL f n))]) ∧ Below w.heap.size w w' := by
  have D0 : Below w.heap.size w w := Below.refl _ _
  by_cases h320 : n ≤ 320
  · have HI := Lib.hid h
    have HP := Lib.hid (show puB (spL f n) = okB (spL f n) by unfold puB; rw [spL_len, decide_eq_true h320, Bool.true_and])
    clear h
    go_enter Try.func7, Try.ntmps7
    go_wp2_with (fail)
    go_loopw [6, 7, 8, 14] (fun _ _ _ i wr => ∃ k : Nat, k ≤ n ∧ i = .int .i64 k ∧ Below w.heap.size w wr ∧ okB (spL f k) = true ∧ Bld w.heap.size w.heap.size (enL (spL f k)) wr) (fun _ _ _ i _ => n - (intOf i).toNat)
    case atStart => exact ⟨0, Nat.zero_le _, rfl, below_alloc_on D0 _, rfl, Bld.new w⟩
    case round =>
      obtain ⟨k, hk, rfl, A1, hok, hbl⟩ := hrel
      by_cases hlt : k < n
      · obtain ⟨b, off, rfl, hb, hcell⟩ := HI.out.at_ (by omega)
        have hwf := HI.out.1 k hlt
        obtain ⟨q0, q1, q2, q3, q4, q5, q6, q7, q8⟩ := hcell k hlt
        have c0 := (A1.cell (p := ⟨b, off + k * 9, none⟩) hb).trans q0
        have c1 := (A1.cell (p := ⟨b, off + k * 9 + 1, none⟩) hb).trans q1
        have c2 := (A1.cell (p := ⟨b, off + k * 9 + 2, none⟩) hb).trans q2
        have c3 := (A1.cell (p := ⟨b, off + k * 9 + 3, none⟩) hb).trans q3
        have c4 := (A1.cell (p := ⟨b, off + k * 9 + 4, none⟩) hb).trans q4
        have c5 := (A1.cell (p := ⟨b, off + k * 9 + 5, none⟩) hb).trans q5
        have c6 := (A1.cell (p := ⟨b, off + k * 9 + 6, none⟩) hb).trans q6
        have c7 := (A1.cell (p := ⟨b, off + k * 9 + 7, none⟩) hb).trans q7
        have c8 := (A1.cell (p := ⟨b, off + k * 9 + 8, none⟩) hb).trans q8
        have KS := Lib.hid fun w => wi_step (f k) hwf.1 hwf.2.1 hwf.2.2.1 hwf.2.2.2 w
        unfold spV at KS
        have HB := Lib.hid hbl
        have HOK := Lib.hid hok
        have hel := en_len (spL f k) hok
        rw [spL_len] at hel
        have HNO := Lib.hid fun h => okB_all f n k hlt h
        have HSN := Lib.hid (spL_succ f k)
        have HST := Lib.hid fun h => st_len (f k) h
        clear q0 q1 q2 q3 q4 q5 q6 q7 q8 hcell hwf hbl hok
        have hsS : stB (f k) = true → (stS (f k)).data.toList = stL (f k) := fun h => by unfold stS; rw [h]; rfl
        generalize stS (f k) = sS at *
        have HSS := Lib.hid hsS
        clear hsS
        cases hB : stB (f k) with
        | false =>
          rw [hB] at KS
          have hno := HNO.out hB
          have e1 : puB (spL f n) = false := by rw [HP.out, hno]
          have e2 : puS (spL f n) = ⟨#[]⟩ := by unfold puS; rw [e1]; rfl
          have HE1 := Lib.hid e1
          have HE2 := Lib.hid e2
          clear hB hno e1 e2
          go_wp2_with (fail)
          refine (KS.out _).mono ?_
          rintro e w1 ⟨rfl, b1⟩
          go_wp2_with (fail)
          all_goals go_ret2
          all_goals exact ⟨by rw [HE1.out, HE2.out]; rfl, below_call (below_alloc_on A1 _) b1⟩
        | true =>
          rw [hB] at KS
          have hsl := HSS.out hB
          have hst := HST.out hB
          have hsz : sS.size ≤ 66 := by
            have : sS.data.toList.length = sS.size := Array.length_toList
            rw [← this, hsl]; exact hst
          have HSL := Lib.hid hsl
          have HSB := Lib.hid hB
          clear hB hsl hst
          go_wp2_with (fail)
          refine (KS.out _).mono ?_
          rintro e w1 ⟨rfl, b1⟩
          have A2 := below_call (below_alloc_on A1 _) b1
          have B2 := Lib.hid ((HB.out.below (below_alloc_on (Below.refl _ _) _)).below b1)
          go_wp2_with (fail)
          refine (bd_write _ _ _ sS w1 B2.out (by omega) A2.size).mono ?_
          rintro e w2 ⟨rfl, hb2, b2⟩
          go_wp2_with (fail)
          go_roundw
          case rel => exact ⟨k + 1, by omega, by go_num, A2.trans b2, by rw [HSN.out, okB_snoc, HOK.out, HSB.out]; rfl, by rw [HSN.out, enL_snoc, ← HSL.out]; exact hb2⟩
          case measure => simp [intOf]; omega
      · obtain rfl : k = n := by omega
        have e1 : puB (spL f k) = true := by rw [HP.out, hok]
        have e2 : puS (spL f k) = sealB ⟨(enL (spL f k)).toArray⟩ := by unfold puS; rw [e1]; rfl
        have hel := en_len (spL f k) hok
        rw [spL_len] at hel
        have hsz : (ByteArray.mk (enL (spL f k)).toArray).size = (enL (spL f k)).length := List.size_toArray
        have KW := Lib.hid (bd_string _ _ _ wr hbl A1.size)
        have KE := Lib.hid fun w => crc_seal ⟨(enL (spL f k)).toArray⟩ w (by rw [hsz]; omega)
        rw [← e2] at KE
        have HE1 := Lib.hid e1
        clear e1 e2 hsz hok hbl HP HI
        go_wp2_with (first
          | (go_at_call 15; refine KW.out.mono ?_; rintro e w1 ⟨rfl, b1⟩)
          | (go_at_call 14; refine (KE.out _).mono ?_; rintro e w2 ⟨rfl, b2⟩))
        all_goals go_ret2
        all_goals exact ⟨by rw [HE1.out]; rfl, below_call (A1.trans b1) b2⟩
  · have e1 : puB (spL f n) = false := by unfold puB; rw [spL_len, decide_eq_false h320]; rfl
    have e2 : puS (spL f n) = ⟨#[]⟩ := by unfold puS; rw [e1]; rfl
    rw [e1, e2]
    clear e1 e2 h
    go_enter Try.func7, Try.ntmps7
    go_wp2_with (fail)
    all_goals go_ret2
    all_goals exact ⟨rfl, D0⟩
end Go.Proofs.Yteeiebopfjlffaa
