/- Contracts of package code and of the document's own: what bytes of a text tell. -/
import Derived.Test.YteeiebopfjlffaaNum
import Derived.Laws.DeepStrings4
import Derived.Laws.IdiomStrings
namespace Go.Proofs.Yteeiebopfjlffaa
set_option maxRecDepth 100000
open Go.RowKit
set_option linter.unusedVariables false
set_option linter.unusedSimpArgs false

theorem or_byte (x b : Nat) (h : x < 36028797018963968) (hb : b < 256) : bits .or .i64 (((x * 256 : Nat)) : Int) (b : Int) = ((x * 256 + b : Nat) : Int) := by
  have hx : x * 256 ||| b = x * 256 + b := by
    rw [Nat.mul_comm]; exact (Nat.two_pow_add_eq_or_of_lt (i := 8) hb x).symm
  show IntKind.i64.wrap ((BitVec.ofInt 64 ((x * 256 : Nat) : Int) ||| BitVec.ofInt 64 ((b : Nat) : Int)).toNat : Int) = _
  rw [BitVec.toNat_or, BitVec.ofInt_natCast, BitVec.ofInt_natCast, BitVec.toNat_ofNat, BitVec.toNat_ofNat, Nat.mod_eq_of_lt (by omega), Nat.mod_eq_of_lt (show b < 2 ^ 64 by omega), hx, IntWalk.i64_in _ (by omega)]

theorem takB_no {n : Nat} {a x : Int} (h : ¬ (1 ≤ x ∧ x ≤ 7 ∧ 0 ≤ a ∧ a ≤ (n : Int) - x)) : takB n a x = false := by unfold takB; simpa using h

theorem code_take (s : ByteArray) (a x : Int) (hs : s.size ≤ 9223372036854775807) (a1 : a ≤ 9223372036854775807) (w : World) :
    Calls Try.prog 43 #[.string s, .int .i64 a, .int .i64 x] w fun e w' => e = .returned (.tuple #[.int .i64 (takV s.data.toList a x), .bool (takB s.size a x)]) ∧ w = w' := by
  have HC := Lib.hid (fun w => code_wid x w)
  have hl : s.data.toList.length = s.size := Array.length_toList
  by_cases hx : 1 ≤ x ∧ x ≤ 7
  · have hW : widB x = true := by unfold widB; simpa using hx
    rw [hW] at HC
    obtain ⟨W, rfl⟩ := Int.eq_ofNat_of_zero_le (show 0 ≤ x by omega)
    obtain ⟨x1, x7⟩ := hx
    by_cases h0 : a < 0
    · have e1 : takB s.size a W = false := takB_no (by omega)
      have e2 : takV s.data.toList a W = 0 := by unfold takV; rw [hl, e1]; rfl
      rw [e1, e2]
      clear hW hl e1 e2
      go_enter Try.func43, Try.ntmps43
      go_wp2_with (go_at_call 38; refine (HC.out _).mono ?_; rintro e w' ⟨rfl, rfl⟩)
      all_goals go_ret2
      all_goals exact ⟨rfl, rfl⟩
    · obtain ⟨A, rfl⟩ := Int.eq_ofNat_of_zero_le (show 0 ≤ a by omega)
      by_cases h1 : (s.size : Int) - W < A
      · have e1 : takB s.size A W = false := takB_no (by omega)
        have e2 : takV s.data.toList A W = 0 := by unfold takV; rw [hl, e1]; rfl
        rw [e1, e2]
        clear hW hl e1 e2
        go_enter Try.func43, Try.ntmps43
        go_wp2_with (go_at_call 38; refine (HC.out _).mono ?_; rintro e w' ⟨rfl, rfl⟩)
        all_goals go_ret2
        all_goals exact ⟨rfl, rfl⟩
      · have e1 : takB s.size A W = true := by unfold takB; simp; omega
        have e2 : takV s.data.toList A W = ((valL ((s.data.toList.drop A).take W) : Nat) : Int) := by unfold takV; rw [hl, e1]; rfl
        rw [e1, e2]
        have HL := Lib.hid hl
        clear hW hl e1 e2
        go_enter Try.func43, Try.ntmps43
        go_wp2_with (go_at_call 38; refine (HC.out _).mono ?_; rintro e w' ⟨rfl, rfl⟩)
        go_loop [8, 9, 26] (fun n _ i => ∃ k : Nat, k ≤ W ∧ n = .int .i64 (valL ((s.data.toList.drop A).take k) : Nat) ∧ i = .int .i64 k) (fun _ _ i => W - (intOf i).toNat)
        case atStart => exact ⟨0, Nat.zero_le _, rfl, rfl⟩
        case round =>
          obtain ⟨k, hk, rfl, rfl⟩ := hrel
          by_cases hlt : k < W
          · have hsz : A + k < s.size := by omega
            have hst : valL ((s.data.toList.drop A).take (k + 1)) = valL ((s.data.toList.drop A).take k) * 256 + s[A + k].toNat := val_take_snoc s.data.toList A k (by rw [HL.out]; exact hsz)
            have hv := val_take_lt s.data.toList A k
            have hp : 256 ^ k ≤ 256 ^ 6 := Nat.pow_le_pow_right (by omega) (by omega)
            have e6 : 256 ^ 6 = 281474976710656 := by decide
            rw [e6] at hp
            have hv2 : valL ((s.data.toList.drop A).take k) < 281474976710656 := by omega
            clear hv hp e6
            have HX := Lib.hid hst
            have hb := UInt8.toNat_lt s[A + k]
            have ho := or_byte (valL ((s.data.toList.drop A).take k)) s[A + k].toNat (by omega) hb
            generalize valL ((s.data.toList.drop A).take k) = n at *
            clear hst
            go_wp2
            refine ⟨⟨k + 1, hlt, by rw [HX.out, ← ho]; rfl, by go_num⟩, by simp [intOf]; omega⟩
          · obtain rfl : k = W := by omega
            go_wp2
            go_ret2
            exact ⟨rfl, rfl⟩
  · have hW : widB x = false := by unfold widB; simpa using hx
    rw [hW] at HC
    have e1 : takB s.size a x = false := takB_no (by omega)
    have e2 : takV s.data.toList a x = 0 := by unfold takV; rw [hl, e1]; rfl
    rw [e1, e2]
    clear hW hl e1 e2 hx
    go_enter Try.func43, Try.ntmps43
    go_wp2_with (go_at_call 38; refine (HC.out _).mono ?_; rintro e w' ⟨rfl, rfl⟩)
    all_goals go_ret2
    all_goals exact ⟨rfl, rfl⟩
theorem ref7_take (s : ByteArray) (a x : Int) (hs : s.size ≤ 9223372036854775807) (a1 : a ≤ 9223372036854775807) (w : World) :
    Calls Try.prog 45 #[.string s, .int .i64 a, .int .i64 x] w fun e w' => e = .returned (.tuple #[.int .i64 (takV s.data.toList a x), .bool (takB s.size a x)]) ∧ w = w' := by
  have hl : s.data.toList.length = s.size := Array.length_toList
  by_cases hx : 1 ≤ x ∧ x ≤ 7
  · obtain ⟨W, rfl⟩ := Int.eq_ofNat_of_zero_le (show 0 ≤ x by omega)
    obtain ⟨x1, x7⟩ := hx
    by_cases h0 : a < 0
    · have e1 : takB s.size a W = false := takB_no (by omega)
      have e2 : takV s.data.toList a W = 0 := by unfold takV; rw [hl, e1]; rfl
      rw [e1, e2]
      clear hl e1 e2
      go_enter Try.func45, Try.ntmps45
      go_wp2
      all_goals go_ret2
      all_goals exact ⟨rfl, rfl⟩
    · obtain ⟨A, rfl⟩ := Int.eq_ofNat_of_zero_le (show 0 ≤ a by omega)
      by_cases h1 : (s.size : Int) - W < A
      · have e1 : takB s.size A W = false := takB_no (by omega)
        have e2 : takV s.data.toList A W = 0 := by unfold takV; rw [hl, e1]; rfl
        rw [e1, e2]
        clear hl e1 e2
        go_enter Try.func45, Try.ntmps45
        go_wp2
        all_goals go_ret2
        all_goals exact ⟨rfl, rfl⟩
      · have e1 : takB s.size A W = true := by unfold takB; simp; omega
        have e2 : takV s.data.toList A W = ((valL ((s.data.toList.drop A).take W) : Nat) : Int) := by unfold takV; rw [hl, e1]; rfl
        rw [e1, e2]
        have HL := Lib.hid hl
        clear hl e1 e2
        go_enter Try.func45, Try.ntmps45
        go_wp2
        go_loop [8, 9, 29] (fun n _ i => ∃ k : Nat, k ≤ W ∧ n = .int .i64 (valL ((s.data.toList.drop A).take k) : Nat) ∧ i = .int .i64 k) (fun _ _ i => W - (intOf i).toNat)
        case atStart => exact ⟨0, Nat.zero_le _, rfl, rfl⟩
        case round =>
          obtain ⟨k, hk, rfl, rfl⟩ := hrel
          by_cases hlt : k < W
          · have hsz : A + k < s.size := by omega
            have hst : valL ((s.data.toList.drop A).take (k + 1)) = valL ((s.data.toList.drop A).take k) * 256 + s[A + k].toNat := val_take_snoc s.data.toList A k (by rw [HL.out]; exact hsz)
            have hv := val_take_lt s.data.toList A k
            have hp : 256 ^ k ≤ 256 ^ 6 := Nat.pow_le_pow_right (by omega) (by omega)
            have e6 : 256 ^ 6 = 281474976710656 := by decide
            rw [e6] at hp
            have hv2 : valL ((s.data.toList.drop A).take k) < 281474976710656 := by omega
            clear hv hp e6
            have HX := Lib.hid hst
            have hb := UInt8.toNat_lt s[A + k]
            have ho := or_byte (valL ((s.data.toList.drop A).take k)) s[A + k].toNat (by omega) hb
            generalize valL ((s.data.toList.drop A).take k) = n at *
            clear hst
            go_wp2
            refine ⟨⟨k + 1, hlt, by rw [HX.out, ← ho]; rfl, by go_num⟩, by simp [intOf]; omega⟩
          · obtain rfl : k = W := by omega
            go_wp2
            go_ret2
            exact ⟨rfl, rfl⟩
  · have e1 : takB s.size a x = false := takB_no (by omega)
    have e2 : takV s.data.toList a x = 0 := by unfold takV; rw [hl, e1]; rfl
    rw [e1, e2]
    clear hl e1 e2
    rcases (show x < 1 ∨ (1 ≤ x ∧ 7 < x) by omega) with h1 | ⟨h1, h2⟩
    all_goals
      clear hx
      go_enter Try.func45, Try.ntmps45
      go_wp2
      all_goals go_ret2
      all_goals exact ⟨rfl, rfl⟩
end Go.Proofs.Yteeiebopfjlffaa
