/- Contracts of package varint. -/
import Derived.Test.YthijabhnmjbboaaVarN
import Derived.Test.YthijabhnmjbboaaSatLaws
import Derived.Test.YthijabhnmjbboaaAppB
import Derived.Test.YthijabhnmjbboaaBox
import Derived.IntWalk
import Derived.Laws.BitsAllLaws
import Derived.Laws.Shifts
import Derived.Laws.DeepStrings4
import Derived.Deep.LoopGhost
namespace Go.Proofs.Ythijabhnmjbboaa
open Go.RowKit
set_option linter.unusedVariables false
set_option linter.unusedSimpArgs false

theorem or_128 (m : Nat) (h : m < 128) : bits .or .i64 (m : Int) 128 = ((128 + m : Nat) : Int) := by
  have hx : m ||| 128 = 128 + m := by
    have := Nat.two_pow_add_eq_or_of_lt (i := 7) (b := m) (by simpa using h) 1
    rw [Nat.or_comm]; simpa using this.symm
  show IntKind.i64.wrap ((BitVec.ofInt 64 ((m : Nat) : Int) ||| BitVec.ofInt 64 ((128 : Nat) : Int)).toNat : Int) = _
  rw [BitVec.toNat_or, BitVec.ofInt_natCast, BitVec.ofInt_natCast, BitVec.toNat_ofNat, BitVec.toNat_ofNat, Nat.mod_eq_of_lt (by omega), Nat.mod_eq_of_lt (show 128 < 2 ^ 64 by omega), hx, IntWalk.i64_in _ (by omega)]
theorem vr_within (n : Int) (w : World) : Calls Try.prog 45 #[.int .i64 n] w fun e w' => e = .returned (.int .i64 (inV n)) ∧ w = w' := by
  unfold inV
  go_enter Try.func45, Try.ntmps45
  go_wp2
  all_goals go_ret
  all_goals exact ⟨ret_i (by omega), rfl⟩
theorem vr_zig (n : Int) (w : World) : Calls Try.prog 15 #[.int .i64 n] w fun e w' => e = .returned (.int .i64 (zgV n)) ∧ w = w' := by
  have HC := Lib.hid (fun w => sat_clamp n w)
  obtain ⟨c0, c1⟩ := clV_bd n
  unfold zgV
  generalize clV n = c at *
  by_cases h : c < 0
  · rw [if_pos h]
    have t1 := decide_eq_true h
    go_enter Try.func15, Try.ntmps15
    go_wp2_with (go_at_call 43; refine (HC.out _).mono ?_; rintro e w' ⟨rfl, rfl⟩)
    all_goals go_ret
    all_goals exact ⟨ret_i (by omega), rfl⟩
  · rw [if_neg h]
    have t1 := decide_eq_false h
    go_enter Try.func15, Try.ntmps15
    go_wp2_with (go_at_call 43; refine (HC.out _).mono ?_; rintro e w' ⟨rfl, rfl⟩)
    all_goals go_ret
    all_goals exact ⟨ret_i (by omega), rfl⟩
theorem vr_zag (n : Int) (w : World) : Calls Try.prog 17 #[.int .i64 n] w fun e w' => e = .returned (.int .i64 (zaV n)) ∧ w = w' := by
  have HC := Lib.hid (fun w => vr_within n w)
  obtain ⟨c0, c1⟩ := inV_bd n
  unfold zaV
  generalize inV n = c at *
  by_cases h : c % 2 = 0
  · rw [if_pos h]
    go_enter Try.func17, Try.ntmps17
    go_wp2_with (go_at_call 45; refine (HC.out _).mono ?_; rintro e w' ⟨rfl, rfl⟩)
    all_goals go_ret
    all_goals exact ⟨ret_i (by omega), rfl⟩
  · rw [if_neg h]
    have t1 : (c % 2 == 0) = false := by simpa using h
    have t2 : Int.tdiv (-(c + 1)) 2 = -((c + 1) / 2) := by rw [Int.neg_tdiv, Int.tdiv_eq_ediv_of_nonneg (by omega)]
    go_enter Try.func17, Try.ntmps17
    go_wp2_with (go_at_call 45; refine (HC.out _).mono ?_; rintro e w' ⟨rfl, rfl⟩)
    all_goals go_ret
    all_goals exact ⟨ret_i (by omega), rfl⟩
theorem putN_more {k m : Nat} (h : 128 ≤ m) (hm : m < 128 ^ (k + 1)) : ∃ j, k = j + 1 ∧ putN k m = UInt8.ofNat (128 + m % 128) :: putN j (m / 128) ∧ m / 128 < 128 ^ (j + 1) := by
  cases k with
  | zero => simp at hm; omega
  | succ k =>
    refine ⟨k, rfl, by conv => lhs; unfold putN; rw [if_neg (by omega)], ?_⟩
    rw [Nat.div_lt_iff_lt_mul (by omega)]; rw [Nat.pow_succ] at hm; exact hm
theorem putN_last {k m : Nat} (h : m < 128) : putN k m = [UInt8.ofNat m] := by
  cases k with
  | zero => rfl
  | succ k => unfold putN; rw [if_pos h]
set_option maxRecDepth 100000 in
theorem vr_put (n : Int) (w : World) : Calls Try.prog 19 #[.int .i64 n] w fun e w' => e = .returned (.string (putS n)) ∧ Below w.heap.size w w' := by
  have HC := Lib.hid (fun w => vr_within n w)
  obtain ⟨c0, c1⟩ := inV_bd n
  unfold putS
  obtain ⟨N, hN⟩ := Int.eq_ofNat_of_zero_le c0
  rw [hN] at HC c1 ⊢
  rw [Int.toNat_natCast]
  have hlt : N < 128 ^ (7 + 1) := put_lt (by omega)
  obtain ⟨Y, hY⟩ : ∃ Y, putL N = Y := ⟨_, rfl⟩
  have hYl : Y.length ≤ 8 := by rw [← hY]; exact (putN_len 7 N).2
  rw [hY]
  unfold putL at hY
  have HY := Lib.hid hY
  have HL := Lib.hid hlt
  have H0 := Lib.hid (GrownB.nil w)
  clear hN c0 hY hlt
  go_enter Try.func19, Try.ntmps19
  go_wp2_with (go_at_call 45; refine (HC.out _).mono ?_; rintro e w' ⟨rfl, rfl⟩)
  go_loopg [3, 4] 7 (fun k v l wr => ∃ (m : Nat) (ys : List UInt8), l = .int .i64 m ∧ m ≤ 18014398509481984 ∧ Hid (m < 128 ^ (k + 1)) ∧ Hid (putN 7 N = ys ++ putN k m) ∧ ys.length ≤ 7 ∧ GrownB w ys v wr)
  case atStart => exact ⟨N, [], rfl, by omega, HL, Lib.hid rfl, by simp, H0.out⟩
  case round =>
    obtain ⟨m, ys, rfl, hm0, hm, hp, hys, hso⟩ := hrel
    have hsz := hso.2.2.size
    have HS := Lib.hid hso
    have HO := Lib.hid hso.2.1
    obtain ⟨B, d, rfl, hd⟩ := hso.form
    clear hso
    by_cases h : 128 ≤ m
    · obtain ⟨j, rfl, e1, e2⟩ := putN_more h hm.out
      have hp2 := hp.out
      rw [e1] at hp2
      have hl := congrArg List.length hp2
      rw [HY.out, List.length_append, List.length_cons] at hl
      have hj := (putN_len j (m / 128)).1
      have hy7 : ys.length ≤ 6 := by omega
      have HP := Lib.hid hp2
      have HE := Lib.hid e2
      have ho : bits .or .i64 ((m : Int) % 128) 128 = ((128 + m % 128 : Nat) : Int) := by
        have h := or_128 (m % 128) (by omega)
        simpa using h
      have HOR := Lib.hid ho
      clear ho
      have t1 : decide ((128 : Int) ≤ (m : Int)) = true := decide_eq_true (by omega)
      have hb : (UInt8.ofNat (128 + m % 128)).toNat = 128 + m % 128 := of_lt (by omega)
      clear e1 e2 hp2 hp hm hl
      go_wp2_with (at_builtin; refine app_byte rfl _ _ rfl _ rfl rfl HO.out hsz (by omega) ?_)
      intro v' w1 ho2 hg
      have hy : Value.int .u8 (bits .or .i64 ((m : Int) % 128) 128 % 256) = byteV (UInt8.ofNat (128 + m % 128)) := by
        rw [HOR.out]; unfold byteV; rw [hb]; congr 1; omega
      rw [hy] at ho2 hg
      have hnext := Lib.hid (HS.out.next ho2 hg)
      clear ho2 hg hy HS HO hb
      go_wp2
      go_roundg j
      case rel => exact ⟨m / 128, ys ++ [UInt8.ofNat (128 + m % 128)], by go_num, by omega, HE, Lib.hid (by rw [HP.out]; simp), by simp; omega, hnext.out⟩
      case measure => omega
    · have e1 := putN_last (k := gk) (m := m) (by omega)
      have hp2 := hp.out
      rw [e1, HY.out] at hp2
      have HZ := Lib.hid hp2
      clear hp2
      have t1 : decide ((128 : Int) ≤ (m : Int)) = false := decide_eq_false (by omega)
      have hb : (UInt8.ofNat m).toNat = m := of_lt (by omega)
      clear hm hp e1
      go_wp2_with (at_builtin; refine app_byte rfl _ _ rfl _ rfl rfl HO.out hsz (by omega) ?_)
      intro v' w1 ho2 hg
      have hy : Value.int .u8 ((m : Int) % 256) = byteV (UInt8.ofNat m) := by
        unfold byteV; rw [hb]; congr 1; omega
      have hy2 : Value.int .u8 (m : Int) = byteV (UInt8.ofNat m) := by
        unfold byteV; rw [hb]
      first
        | rw [hy] at ho2 hg
        | rw [hy2] at ho2 hg
      have hnext := HS.out.next ho2 hg
      rw [← HZ.out] at hnext
      obtain ⟨B2, d2, rfl, hd2⟩ := hnext.form
      have hv := hnext.read
      have hb3 := hnext.2.2
      clear ho2 hg hy HS HO hb hnext
      go_wp2
      go_ret
      exact ⟨rfl, hb3⟩
end Go.Proofs.Ythijabhnmjbboaa
