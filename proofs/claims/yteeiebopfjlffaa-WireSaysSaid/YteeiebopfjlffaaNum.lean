/- Contracts of package code and of the document's own: a number told in bytes. -/
import Derived.Test.YteeiebopfjlffaaCodeN
import Derived.Test.YteeiebopfjlffaaSat
import Derived.Test.YteeiebopfjlffaaLift
import Derived.Test.YteeiebopfjlffaaAt
import Derived.Test.YteeiebopfjlffaaAppB
import Derived.IntWalk
import Derived.Laws.BitsAllLaws
import Derived.Laws.Shifts
import Derived.Deep.OwnRows
namespace Go.Proofs.Yteeiebopfjlffaa
set_option maxRecDepth 100000
open Go.RowKit
set_option linter.unusedVariables false
set_option linter.unusedSimpArgs false

theorem code_wid (x : Int) (w : World) :
    Calls Try.prog 38 #[.int .i64 x] w fun e w' => e = .returned (.bool (widB x)) ∧ w = w' := by
  obtain ⟨E, hE⟩ : ∃ E, widB x = E := ⟨_, rfl⟩
  rw [hE]
  have hE2 : decide (1 ≤ x ∧ x ≤ 7) = E := hE
  clear hE
  by_cases h1 : 1 ≤ x <;> by_cases h2 : x ≤ 7
  all_goals
    have HE := Lib.hid hE2
    clear hE2
    go_enter Try.func38, Try.ntmps38
    go_wp2
    all_goals go_ret
    all_goals exact ⟨ret_b (by rw [← HE.out]; simp [h1, h2]), rfl⟩

theorem numB_no {n w : Int} (h : ¬ (1 ≤ w ∧ w ≤ 7 ∧ 0 ≤ n ∧ n < ((256 ^ w.toNat : Nat) : Int))) : numB n w = false := by unfold numB; simpa using h
theorem numS_no {n w : Int} (h : ¬ (1 ≤ w ∧ w ≤ 7 ∧ 0 ≤ n ∧ n < ((256 ^ w.toNat : Nat) : Int))) : numS n w = ⟨#[]⟩ := by unfold numS; rw [numB_no h]; rfl

theorem dig_int (N W k : Nat) : ((dig N W k).toNat : Int) = (N : Int) / 2 ^ (8 * (W - 1 - k)) % 256 := by
  unfold dig
  rw [UInt8.toNat_ofNat', show ((2 : Int) ^ (8 * (W - 1 - k))) = ((256 ^ (W - 1 - k) : Nat) : Int) by rw [Int.pow_mul]; simp, ← Int.natCast_ediv]
  omega
theorem and_255 (x : Nat) (h : x < 9223372036854775808) : bits .and .i64 (x : Int) 255 = ((x % 256 : Nat) : Int) := by
  have hx : x &&& 255 = x % 256 := Nat.and_two_pow_sub_one_eq_mod x 8
  show IntKind.i64.wrap ((BitVec.ofInt 64 (x : Int) &&& BitVec.ofInt 64 ((255 : Nat) : Int)).toNat : Int) = _
  rw [BitVec.toNat_and, BitVec.ofInt_natCast, BitVec.ofInt_natCast, BitVec.toNat_ofNat, BitVec.toNat_ofNat, Nat.mod_eq_of_lt (by omega), Nat.mod_eq_of_lt (show 255 < 2 ^ 64 by omega), hx, IntWalk.i64_in _ (by omega)]
theorem and_dig (N W j : Nat) (h : N < 9223372036854775808) (hj : j < W) : bits .and .i64 ((N : Int) / 2 ^ (8 * j)) 255 = ((dig N W (W - 1 - j)).toNat : Int) := by
  have hd : N / 256 ^ j ≤ N := Nat.div_le_self _ _
  rw [dig_int, show W - 1 - (W - 1 - j) = j by omega, show ((2 : Int) ^ (8 * j)) = ((256 ^ j : Nat) : Int) by rw [Int.pow_mul]; simp, ← Int.natCast_ediv, and_255 _ (by omega)]
  omega

theorem code_num (n x : Int) (n0 : -9223372036854775808 ≤ n) (n1 : n ≤ 9223372036854775807) (w : World) :
    Calls Try.prog 24 #[.int .i64 n, .int .i64 x] w fun e w' => e = .returned (.string (numS n x)) ∧ Below w.heap.size w w' := by
  by_cases hx : 1 ≤ x ∧ x ≤ 7
  · have hW : widB x = true := by unfold widB; simpa using hx
    have HC := Lib.hid (fun w => code_wid x w)
    rw [hW] at HC
    obtain ⟨W, rfl⟩ := Int.eq_ofNat_of_zero_le (show 0 ≤ x by omega)
    obtain ⟨x1, x7⟩ := hx
    by_cases hn : n < 0
    · rw [numS_no (by omega)]
      clear hW
      go_enter Try.func24, Try.ntmps24
      go_wp2_with (go_at_call 38; refine (HC.out _).mono ?_; rintro e w' ⟨rfl, rfl⟩)
      all_goals go_ret
      all_goals exact ⟨rfl, Below.refl _ _⟩
    · obtain ⟨N, rfl⟩ := Int.eq_ofNat_of_zero_le (show 0 ≤ n by omega)
      clear hn hW
      have e8 : ((2 : Int) ^ (8 * W)) = ((256 ^ W : Nat) : Int) := by rw [Int.pow_mul]; simp
      by_cases hN : N < 256 ^ W
      · have hB : numB (N : Int) (W : Int) = true := by unfold numB; simp only [decide_eq_true_eq, Int.toNat_natCast]; omega
        have hS : numS (N : Int) (W : Int) = ⟨(numL N W).toArray⟩ := by unfold numS; rw [hB, if_pos rfl]; rfl
        have t : ((N : Int) / 2 ^ (8 * W) != 0) = false := by
          rw [e8, ← Int.natCast_ediv, Nat.div_eq_of_lt hN]; rfl
        rw [hS]
        have hmk := run_make_row' (P := Try.prog) 37 5 (.int .u8 0) 1 Try.underlying37 byte_info rfl .i64 .i64 W (by omega) (by omega) w
        obtain ⟨w1, hw1⟩ : ∃ w1, w.alloc (.cells (madeCells #[.int .u8 0] W) 5) = w1 := ⟨_, rfl⟩
        have R1 : w1.rowIs w.heap.size 5 W (fun j => byteV (if j < 0 then dig N W j else 0)) := hw1 ▸ (World.rowIs_made w (.int .u8 0) W 5).congr (fun j _ => rfl)
        have B1 : Below w.heap.size w w1 := hw1 ▸ (Below.refl w.heap.size w).alloc (Nat.le_refl _) _
        rw [hw1] at hmk
        have HR := Lib.hid R1
        have HB := Lib.hid B1
        clear hB hS hN e8 R1 B1 hw1
        go_enter Try.func24, Try.ntmps24
        go_wp2_with (go_at_call 38; refine (HC.out _).mono ?_; rintro e w' ⟨rfl, rfl⟩)
        clear hmk t
        go_loopw [6, 25] (fun _ i wr => ∃ k : Nat, k ≤ W ∧ i = .int .i64 k ∧ Below w.heap.size w wr ∧ wr.rowIs w.heap.size 5 W (fun j => byteV (if j < k then dig N W j else 0))) (fun _ i _ => W - (intOf i).toNat)
        case atStart => exact ⟨0, Nat.zero_le _, rfl, HB.out, HR.out⟩
        case round =>
          obtain ⟨k, hk, rfl, hb, hr⟩ := hrel
          by_cases hlt : k < W
          · have hc := hr.cell hlt
            have hf := hr.frozen k
            have HBb := Lib.hid hb
            have HRr := Lib.hid hr
            clear hb hr
            go_wp2
            rw [← dig_int]
            refine ⟨⟨k + 1, hlt, by go_num, HBb.out.setCell (Nat.le_refl _) _, (HRr.out.set k _).congr fun j hj => ?_⟩, by simp [intOf]; omega⟩
            by_cases e : j = k
            · subst e
              rw [if_pos rfl, if_pos (Nat.lt_succ_self _)]
              rfl
            · rw [if_neg e]
              congr 1
              by_cases g : j < k
              · rw [if_pos g, if_pos (by omega)]
              · rw [if_neg g, if_neg (by omega)]
          · obtain rfl : k = W := by omega
            have hv : (convert 37 9 (.slice (some ⟨w.heap.size, 0, none⟩) k k)).run Try.prog wr = .ok (.string ⟨(numL N k).toArray⟩) wr := by
              have := run_convert_bytes_back (P := Try.prog) wr 37 9 5 ⟨w.heap.size, 0, none⟩ k (numL N k) Try.underlying37 Try.underlying5 Try.underlying9 (fun j hj => by
                have e : ((⟨w.heap.size, 0, none⟩ : Addr).add j) = ⟨w.heap.size, j, none⟩ := by unfold Addr.add; split <;> simp_all
                rw [numL_len] at hj
                rw [e, hr.cell hj, if_pos hj, numL_get]
                rfl)
              rwa [numL_len] at this
            clear hr
            go_wp2
            go_ret
            exact ⟨rfl, hb⟩
      · have t : ((N : Int) / 2 ^ (8 * W) != 0) = true := by
          rw [e8, ← Int.natCast_ediv]
          simp only [bne_iff_ne, ne_eq]
          have : 0 < N / 256 ^ W := Nat.div_pos (by omega) (Nat.pow_pos (by omega))
          omega
        rw [numS_no (by simp only [Int.toNat_natCast]; omega)]
        clear hN e8
        go_enter Try.func24, Try.ntmps24
        go_wp2_with (go_at_call 38; refine (HC.out _).mono ?_; rintro e w' ⟨rfl, rfl⟩)
        all_goals go_ret
        all_goals exact ⟨rfl, Below.refl _ _⟩
  · have hW : widB x = false := by unfold widB; simpa using hx
    have HC := Lib.hid (fun w => code_wid x w)
    rw [hW] at HC
    rw [numS_no (by omega)]
    clear hW hx
    go_enter Try.func24, Try.ntmps24
    go_wp2_with (go_at_call 38; refine (HC.out _).mono ?_; rintro e w' ⟨rfl, rfl⟩)
    all_goals go_ret
    all_goals exact ⟨rfl, Below.refl _ _⟩

theorem ref7_num (n x : Int) (n0 : -9223372036854775808 ≤ n) (n1 : n ≤ 9223372036854775807) (w : World) :
    Calls Try.prog 27 #[.int .i64 n, .int .i64 x] w fun e w' => e = .returned (.string (numS n x)) ∧ Below w.heap.size w w' := by
  by_cases hx : 1 ≤ x ∧ x ≤ 7
  · obtain ⟨W, rfl⟩ := Int.eq_ofNat_of_zero_le (show 0 ≤ x by omega)
    obtain ⟨x1, x7⟩ := hx
    by_cases hn : n < 0
    · rw [numS_no (by omega)]
      go_enter Try.func27, Try.ntmps27
      go_wp2
      all_goals go_ret
      all_goals exact ⟨rfl, Below.refl _ _⟩
    · obtain ⟨N, rfl⟩ := Int.eq_ofNat_of_zero_le (show 0 ≤ n by omega)
      clear hn
      have e8 : ((2 : Int) ^ (8 * W)) = ((256 ^ W : Nat) : Int) := by rw [Int.pow_mul]; simp
      by_cases hN : N < 256 ^ W
      · have hB : numB (N : Int) (W : Int) = true := by unfold numB; simp only [decide_eq_true_eq, Int.toNat_natCast]; omega
        have hS : numS (N : Int) (W : Int) = ⟨(numL N W).toArray⟩ := by unfold numS; rw [hB, if_pos rfl]; rfl
        have t : ((N : Int) / 2 ^ (8 * W) != 0) = false := by
          rw [e8, ← Int.natCast_ediv, Nat.div_eq_of_lt hN]; rfl
        rw [hS]
        have G0 := Lib.hid (GrownB.nil w)
        clear hB hS hN e8
        go_enter Try.func27, Try.ntmps27
        go_wp2
        clear t
        go_loopw [5, 6] (fun v i wr => ∃ j : Nat, j ≤ W ∧ i = .int .i64 ((j : Int) - 1) ∧ GrownB w ((numL N W).take (W - j)) v wr) (fun _ i _ => (intOf i + 1).toNat)
        case atStart => exact ⟨W, Nat.le_refl _, rfl, by rw [Nat.sub_self]; exact G0.out⟩
        case round =>
          obtain ⟨j, hj, rfl, hso⟩ := hrel
          match j, hj, hso with
          | 0, hj, hso =>
            rw [Nat.sub_zero, List.take_of_length_le (by rw [numL_len]; exact Nat.le_refl _)] at hso
            obtain ⟨B, d, rfl, hd⟩ := hso.form
            have hv := hso.read
            have hb := hso.2.2
            clear hso
            go_wp2
            go_ret
            exact ⟨rfl, hb⟩
          | j + 1, hj, hso =>
            have hx := and_dig N W j (by omega) (by omega)
            have hst : (numL N W).take (W - j) = (numL N W).take (W - (j + 1)) ++ [dig N W (W - 1 - j)] := by
              rw [show W - j = W - (j + 1) + 1 by omega, List.take_succ_eq_append_getElem (by rw [numL_len]; omega), numL_get, show W - 1 - j = W - (j + 1) by omega]
            have HX := Lib.hid hst
            have hlen : ((numL N W).take (W - (j + 1))).length = W - (j + 1) := by rw [List.length_take, numL_len]; omega
            generalize (numL N W).take (W - (j + 1)) = ys at *
            have hsz := hso.2.2.size
            obtain ⟨B, d, rfl, hd⟩ := hso.form
            have HS := Lib.hid hso
            have HO := Lib.hid hso.2.1
            have HL := Lib.hid hlen
            generalize dig N W (W - 1 - j) = b at *
            clear hso hlen hst
            go_wp2_with (at_builtin; refine app_byte rfl _ _ rfl _ rfl rfl HO.out hsz (by have := HL.out; omega) ?_)
            intro v' w1 ho hg
            rw [show (b.toNat : Int) % 256 = (b.toNat : Int) by have := UInt8.toNat_lt b; omega] at ho hg
            have hnext := Lib.hid (HS.out.next ho hg)
            clear ho hg
            go_wp2
            go_roundw
            case rel => exact ⟨j, by omega, rfl, by rw [HX.out]; exact hnext.out⟩
            case measure => simp [intOf]
      · have t : ((N : Int) / 2 ^ (8 * W) != 0) = true := by
          rw [e8, ← Int.natCast_ediv]
          simp only [bne_iff_ne, ne_eq]
          have : 0 < N / 256 ^ W := Nat.div_pos (by omega) (Nat.pow_pos (by omega))
          omega
        rw [numS_no (by simp only [Int.toNat_natCast]; omega)]
        clear hN e8
        go_enter Try.func27, Try.ntmps27
        go_wp2
        all_goals go_ret
        all_goals exact ⟨rfl, Below.refl _ _⟩
  · rw [numS_no (by omega)]
    rcases (show x < 1 ∨ (1 ≤ x ∧ 7 < x) by omega) with h1 | ⟨h1, h2⟩
    all_goals
      clear hx
      go_enter Try.func27, Try.ntmps27
      go_wp2
      all_goals go_ret
      all_goals exact ⟨rfl, Below.refl _ _⟩
end Go.Proofs.Yteeiebopfjlffaa
