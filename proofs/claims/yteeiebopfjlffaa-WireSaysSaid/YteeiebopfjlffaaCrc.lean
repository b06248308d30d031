/- Contracts of package crc and of the document's own sums: a byte goes through, a text goes through. -/
import Derived.Test.YteeiebopfjlffaaCrcN
import Derived.Test.YteeiebopfjlffaaLift
import Derived.Test.YteeiebopfjlffaaAt
import Derived.WalkKit
import Derived.WalkSmall
import Derived.BigQuiet
import Derived.Lib.Hide
import Derived.Laws.BitsAllLaws
import Derived.Laws.DeepStrings4
import Derived.Laws.IdiomStrings
namespace Go.Proofs.Yteeiebopfjlffaa
set_option maxRecDepth 100000
open Go.RowKit
set_option linter.unusedVariables false
set_option linter.unusedSimpArgs false

theorem place_int (b k : Nat) (hb : b < 256) : bits .and .u16 (IntKind.u16.wrap ((b : Int) / 2 ^ k)) 1 = ((b / 2 ^ k % 2 : Nat) : Int) := by
  have h : b / 2 ^ k ≤ b := Nat.div_le_self _ _
  have e : IntKind.u16.wrap ((b : Int) / 2 ^ k) = ((b / 2 ^ k : Nat) : Int) := by
    rw [IntKind.wrap_u16, show ((2 : Int) ^ k) = ((2 ^ k : Nat) : Int) by simp, ← Int.natCast_ediv]
    generalize b / 2 ^ k = q at *
    omega
  rw [e]
  have := u16_and_nat (b / 2 ^ k) 1 (by omega) (by omega)
  rw [Nat.and_one_is_mod] at this
  exact this
theorem wrap_two (n : Nat) : IntKind.u16.wrap ((n : Int) * 2) = ((2 * n % 65536 : Nat) : Int) := by rw [IntKind.wrap_u16]; omega
theorem place_int2 (b k : Nat) (hb : b < 256) : bits .and .u16 ((b : Int) / 2 ^ k) 1 = ((b / 2 ^ k % 2 : Nat) : Int) := by
  have h : b / 2 ^ k ≤ b := Nat.div_le_self _ _
  rw [show ((2 : Int) ^ k) = ((2 ^ k : Nat) : Int) by simp, ← Int.natCast_ediv]
  have := u16_and_nat (b / 2 ^ k) 1 (by omega) (by omega)
  rw [Nat.and_one_is_mod] at this
  exact this
theorem bit_same (n b k : Nat) (hb : b < 256) (h : ((n : Int) / 32768 != bits .and .u16 (IntKind.u16.wrap ((b : Int) / 2 ^ k)) 1) = false) :
    IntKind.u16.wrap ((n : Int) * 2) = ((bitN n (b / 2 ^ k % 2) : Nat) : Int) := by
  rw [place_int b k hb] at h
  rw [wrap_two]
  unfold bitN
  generalize b / 2 ^ k % 2 = q at *
  rw [if_pos (by simp only [bne_eq_false_iff_eq] at h; omega)]
theorem bit_same2 (n b k : Nat) (hb : b < 256) (h : ((n : Int) / 32768 != bits .and .u16 (((b : Int) / 2 ^ k)) 1) = false) :
    IntKind.u16.wrap ((n : Int) * 2) = ((bitN n (b / 2 ^ k % 2) : Nat) : Int) := by
  rw [place_int2 b k hb] at h
  rw [wrap_two]
  unfold bitN
  generalize b / 2 ^ k % 2 = q at *
  rw [if_pos (by simp only [bne_eq_false_iff_eq] at h; omega)]
theorem bit_other (n b k : Nat) (hb : b < 256) (h : ((n : Int) / 32768 != bits .and .u16 (IntKind.u16.wrap ((b : Int) / 2 ^ k)) 1) = true) :
    bits .xor .u16 (IntKind.u16.wrap ((n : Int) * 2)) 4129 = ((bitN n (b / 2 ^ k % 2) : Nat) : Int) := by
  rw [place_int b k hb] at h
  rw [wrap_two]
  unfold bitN
  generalize b / 2 ^ k % 2 = q at *
  rw [if_neg (by simp only [bne_iff_ne, ne_eq] at h; omega)]
  exact u16_xor_nat _ 4129 (by omega) (by omega)
theorem bit_other2 (n b k : Nat) (hb : b < 256) (h : ((n : Int) / 32768 != bits .and .u16 (((b : Int) / 2 ^ k)) 1) = true) :
    bits .xor .u16 (IntKind.u16.wrap ((n : Int) * 2)) 4129 = ((bitN n (b / 2 ^ k % 2) : Nat) : Int) := by
  rw [place_int2 b k hb] at h
  rw [wrap_two]
  unfold bitN
  generalize b / 2 ^ k % 2 = q at *
  rw [if_neg (by simp only [bne_iff_ne, ne_eq] at h; omega)]
  exact u16_xor_nat _ 4129 (by omega) (by omega)

theorem crc_through (c b : Nat) (w : World) (hc : c < 65536) (hb : b < 256) :
    Calls Try.prog 49 #[.int .u16 (c : Int), .int .u8 (b : Int)] w fun e w' => e = .returned (.int .u16 (thru c b : Nat)) ∧ ∃ n, w' = w.drewN n := by
  obtain ⟨E, hE⟩ : ∃ E, thru c b = E := ⟨_, rfl⟩
  rw [hE]
  have HE := Lib.hid hE
  clear hE
  go_enter Try.func49, Try.ntmps49
  go_wp2
  go_loopw [0, 5] (fun x p w1 => ∃ (k n : Nat) (d : Nat), k ≤ 8 ∧ x = .int .u16 (n : Int) ∧ p = .int .i64 ((k : Int) - 1) ∧ n < 65536 ∧ thruK k n b = thru c b ∧ w1 = w.drewN d) (fun _ p _ => (intOf p + 1).toNat)
  case atStart => exact ⟨8, c, 0, by omega, rfl, rfl, hc, rfl, rfl⟩
  case round =>
    obtain ⟨k, n, d, hk, rfl, rfl, hn, hrest, rfl⟩ := hrel
    match k, hk, hrest with
    | 0, hk, hrest =>
      go_wp2
      go_ret
      exact ⟨by rw [← HE.out, ← hrest]; rfl, d, rfl⟩
    | k + 1, hk, hrest =>
      have HR := Lib.hid hrest
      clear hrest
      go_wp2
      go_quiet (fail)
      all_goals go_wp2
      · exact ⟨⟨k, bitN n (b / 2 ^ k % 2), d + nq, by omega, by rw [bit_other n b k hb (by assumption)], rfl, bit_lt _ _, HR.out, rfl⟩, by simp [intOf]⟩
      · exact ⟨⟨k, bitN n (b / 2 ^ k % 2), d + nq, by omega, by rw [bit_same n b k hb (by assumption)], rfl, bit_lt _ _, HR.out, rfl⟩, by simp [intOf]⟩

theorem str_at {l : List UInt8} {s : ByteArray} (h : ByteArray.mk l.toArray = s) {k : Nat} (hk : k < s.size) (hl : k < l.length) : s[k] = l[k] := by
  subst h; rfl

theorem crc_more (c : Nat) (l : List UInt8) (w : World) (hc : c < 65536) (hl : l.length ≤ 9223372036854775807) :
    Calls Try.prog 40 #[.int .u16 (c : Int), .string ⟨l.toArray⟩] w fun e w' => e = .returned (.int .u16 (moreN c l : Nat)) ∧ ∃ n, w' = w.drewN n := by
  obtain ⟨E, hE⟩ : ∃ E, moreN c l = E := ⟨_, rfl⟩
  rw [hE]
  have HE := Lib.hid hE
  clear hE
  have hsz : (ByteArray.mk l.toArray).size = l.length := by simp [ByteArray.size]
  obtain ⟨s, hs⟩ : ∃ s, ByteArray.mk l.toArray = s := ⟨_, rfl⟩
  rw [hs] at hsz ⊢
  have HS := Lib.hid hs
  clear hs
  go_enter Try.func40, Try.ntmps40
  go_wp2
  go_loopw [0, 8] (fun x p w1 => ∃ (k d : Nat), k ≤ l.length ∧ x = .int .u16 (moreN c (l.take k) : Nat) ∧ p = .int .i64 k ∧ w1 = w.drewN d) (fun _ p _ => l.length - (intOf p).toNat)
  case atStart => exact ⟨0, 0, by omega, rfl, rfl, rfl⟩
  case round =>
    obtain ⟨k, d, hk, rfl, rfl, rfl⟩ := hrel
    by_cases hlt : k < l.length
    · have hn := more_lt (l.take k) c hc
      have HX := Lib.hid (more_step c l k hlt)
      have hks : k < s.size := by omega
      have HA := Lib.hid (str_at HS.out hks hlt)
      generalize moreN c (l.take k) = n at *
      go_wp2_with (go_at_call 49; refine (crc_through _ _ _ hn (UInt8.toNat_lt _)).mono ?_; rintro e w' ⟨rfl, m, rfl⟩)
      all_goals rw [HA.out, ← HX.out]
      all_goals
        go_round
        case rel => exact ⟨k + 1, _, by omega, rfl, by go_num, rfl⟩
        case measure => simp [intOf]; omega
    · obtain rfl : k = l.length := by omega
      rw [List.take_length]
      go_wp2
      go_ret
      exact ⟨by rw [HE.out]; rfl, d, rfl⟩

theorem ref6_more (c : Nat) (l : List UInt8) (w : World) (hc : c < 65536) (hl : l.length ≤ 9223372036854775807) :
    Calls Try.prog 42 #[.int .u16 (c : Int), .string ⟨l.toArray⟩] w fun e w' => e = .returned (.int .u16 (moreN c l : Nat)) ∧ w = w' := by
  obtain ⟨E, hE⟩ : ∃ E, moreN c l = E := ⟨_, rfl⟩
  rw [hE]
  have HE := Lib.hid hE
  clear hE
  have hsz : (ByteArray.mk l.toArray).size = l.length := by simp [ByteArray.size]
  obtain ⟨s, hs⟩ : ∃ s, ByteArray.mk l.toArray = s := ⟨_, rfl⟩
  rw [hs] at hsz ⊢
  have HS := Lib.hid hs
  clear hs
  go_enter Try.func42, Try.ntmps42
  go_wp2
  go_loop [0, 11] (fun x p => ∃ (k : Nat), k ≤ l.length ∧ x = .int .u16 (moreN c (l.take k) : Nat) ∧ p = .int .i64 k) (fun _ p => l.length - (intOf p).toNat)
  case atStart => exact ⟨0, by omega, rfl, rfl⟩
  case round =>
    obtain ⟨k, hk, rfl, rfl⟩ := hrel
    by_cases hlt : k < l.length
    · have hn := more_lt (l.take k) c hc
      have HX := Lib.hid (more_step c l k hlt)
      have hks : k < s.size := by omega
      have HA := Lib.hid (str_at HS.out hks hlt)
      generalize moreN c (l.take k) = n at *
      go_wp2
      go_loop [0, 6] (fun x p => ∃ (j m : Nat), j ≤ 8 ∧ x = .int .u16 (m : Int) ∧ p = .int .i64 ((j : Int) - 1) ∧ m < 65536 ∧ thruK j m s[k].toNat = thru n s[k].toNat) (fun _ p => (intOf p + 1).toNat)
      case atStart => exact ⟨8, n, by omega, rfl, rfl, hn, rfl⟩
      case round =>
        obtain ⟨j, m, hj, rfl, rfl, hm, hrest⟩ := hrel
        have hxl : s[k].toNat < 256 := UInt8.toNat_lt _
        have HR := Lib.hid hrest
        clear hrest
        match j, hj, HR with
        | 0, hj, HR =>
          go_wp2
          all_goals
            rw [show m = moreN c (l.take (k + 1)) by rw [HX.out, ← HA.out, ← HR.out]; rfl]
            exact ⟨⟨k + 1, by omega, rfl, by go_num⟩, by simp [intOf]; omega⟩
        | j + 1, hj, HR =>
          go_wp2
          · exact ⟨⟨j, bitN m (s[k].toNat / 2 ^ j % 2), by omega, by rw [bit_other2 m _ j hxl (by assumption)], rfl, bit_lt _ _, HR.out⟩, by simp [intOf]⟩
          · exact ⟨⟨j, bitN m (s[k].toNat / 2 ^ j % 2), by omega, by rw [bit_same2 m _ j hxl (by assumption)], rfl, bit_lt _ _, HR.out⟩, by simp [intOf]⟩
    · obtain rfl : k = l.length := by omega
      rw [List.take_length]
      go_wp2
      go_ret
      exact ⟨by rw [HE.out]; rfl, rfl⟩
end Go.Proofs.Yteeiebopfjlffaa
