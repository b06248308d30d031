/- The bits of a latch, one by one; how many there are. -/
import Derived.Test.YtmocppghmdeahaaGreatLatN
namespace Go.Proofs.YtmocppghmdeahaaGreat
set_option maxRecDepth 100000
open Go.RowKit
set_option linter.unusedVariables false
set_option linter.unusedSimpArgs false

/-- Is the hazard k in n? -/
def bitI (n : Int) (k : Nat) : Bool := (bv n).getLsbD k
def cntK (f : Nat → Bool) : Nat → Nat
  | 0 => 0
  | k + 1 => if f k = true then cntK f k + 1 else cntK f k
theorem all_bit (k : Nat) (h : k < 12) : (bv 4095).getLsbD k = true := by
  have : ∀ k : Fin 12, (bv 4095).getLsbD k.1 = true := by decide
  exact this ⟨k, h⟩
theorem two_bit (k : Nat) (h : k < 12) : bv (2 ^ k) = BitVec.twoPow 64 k := by
  have : ∀ k : Fin 12, bv (2 ^ k.1) = BitVec.twoPow 64 k.1 := by decide
  exact this ⟨k, h⟩
theorem ra_bit (a b : Int) (k : Nat) (h : k < 12) : bitI (raV a b) k = (bitI a k || bitI b k) := by
  unfold bitI; rw [ra_bv, bv_int, BitVec.getLsbD_and, BitVec.getLsbD_or, all_bit k h, Bool.and_true]
theorem ac_bit (a b : Int) (k : Nat) (h : k < 12) : bitI (acV a b) k = (bitI a k && bitI b k) := by
  unfold bitI; rw [ac_bv, bv_int, BitVec.getLsbD_and, BitVec.getLsbD_and, all_bit k h, Bool.and_true]
theorem all_le (x : BitVec 64) : 0 ≤ (x &&& bv 4095).toInt ∧ (x &&& bv 4095).toInt ≤ 4095 := by
  have h : (x &&& bv 4095).toNat ≤ 4095 := by rw [BitVec.toNat_and]; exact Nat.and_le_right
  rw [BitVec.toInt_eq_toNat_cond, if_pos (by omega)]
  omega
theorem ra_bd (a b : Int) : 0 ≤ raV a b ∧ raV a b ≤ 4095 := by rw [ra_bv]; exact all_le _
theorem ac_bd (a b : Int) : 0 ≤ acV a b ∧ acV a b ≤ 4095 := by rw [ac_bv]; exact all_le _
theorem bit_nat (N k : Nat) (h : N < 9223372036854775808) : bitI (N : Int) k = N.testBit k := by
  unfold bitI bv
  rw [BitVec.ofInt_natCast, BitVec.getLsbD_ofNat]
  by_cases hk : k < 64
  · simp [hk]
  · have : N < 2 ^ k := Nat.lt_of_lt_of_le (show N < 2 ^ 64 by omega) (Nat.pow_le_pow_right (by omega) (by omega))
    simp [hk, Nat.testBit_lt_two_pow this]
theorem h_bit (n : Int) (k : Nat) (h : k < 12) : hB n (2 ^ k) = bitI n k := by
  unfold hB bitI
  have e := and_no n (2 ^ k)
  rw [two_bit k h, BitVec.and_twoPow] at e
  cases hb : (bv n).getLsbD k
  · rw [hb] at e
    have : bits .and .i64 n (2 ^ k) = 0 := e.2 (by simp)
    rw [this]; rfl
  · rw [hb, if_pos rfl] at e
    have hz : BitVec.twoPow 64 k ≠ 0#64 := by
      have : ∀ k : Fin 12, BitVec.twoPow 64 k.1 ≠ 0#64 := by decide
      exact this ⟨k, h⟩
    have : ¬ bits .and .i64 n (2 ^ k) = 0 := fun g => hz (e.1 g)
    simpa using this
theorem wh_cnt (n : Int) (k : Nat) (h : k ≤ 12) : (whK n k).length = cntK (bitI n) k := by
  induction k with
  | zero => rfl
  | succ k ih =>
    unfold whK cntK
    rw [h_bit n k (by omega)]
    cases bitI n k
    · simpa using ih (by omega)
    · simpa using ih (by omega)
theorem and_one34 (x : Nat) (h : x < 9223372036854775808) : bits .and .i64 (x : Int) 1 = ((x % 2 : Nat) : Int) := by
  have hx : x &&& 1 = x % 2 := Nat.and_two_pow_sub_one_eq_mod x 1
  show IntKind.i64.wrap ((BitVec.ofInt 64 (x : Int) &&& BitVec.ofInt 64 ((1 : Nat) : Int)).toNat : Int) = _
  rw [BitVec.toNat_and, BitVec.ofInt_natCast, BitVec.ofInt_natCast, BitVec.toNat_ofNat, BitVec.toNat_ofNat, Nat.mod_eq_of_lt (by omega), Nat.mod_eq_of_lt (show 1 < 2 ^ 64 by omega), hx, IntWalk.i64_in _ (by omega)]
/-- n >> k & 1 == 1 -/
theorem sh_bit (n : Int) (k : Nat) (h0 : 0 ≤ n) (h1 : n ≤ 4095) : bits .and .i64 (n / 2 ^ k) 1 = if bitI n k = true then 1 else 0 := by
  obtain ⟨N, rfl⟩ := Int.eq_ofNat_of_zero_le h0
  rw [bit_nat N k (by omega), show ((N : Int) / 2 ^ k) = ((N / 2 ^ k : Nat) : Int) by simp, and_one34 _ (Nat.lt_of_le_of_lt (Nat.div_le_self _ _) (by omega)), Nat.testBit_eq_decide_div_mod_eq]
  rcases Nat.mod_two_eq_zero_or_one (N / 2 ^ k) with h | h <;> rw [h] <;> simp
theorem cnt_none (f : Nat → Bool) (k : Nat) : cntK f k = 0 ↔ ∀ j, j < k → f j = false := by
  induction k with
  | zero => exact ⟨fun _ j h => absurd h (by omega), fun _ => rfl⟩
  | succ k ih =>
    unfold cntK
    cases hk : f k
    · rw [if_neg (by simp), ih]
      exact ⟨fun h j hj => by rcases (by omega : j < k ∨ j = k) with g | rfl; exact h j g; exact hk, fun h j hj => h j (by omega)⟩
    · rw [if_pos rfl]
      exact ⟨fun h => absurd h (by omega), fun h => by rw [h k (by omega)] at hk; cases hk⟩
theorem cnt_zero (n : Int) (h0 : 0 ≤ n) (h1 : n ≤ 4095) : cntK (bitI n) 12 = 0 ↔ n = 0 := by
  obtain ⟨N, rfl⟩ := Int.eq_ofNat_of_zero_le h0
  rw [cnt_none]
  constructor
  · intro h
    have : N = 0 := Nat.eq_of_testBit_eq fun i => by
      by_cases hi : i < 12
      · rw [← bit_nat N i (by omega), h i hi, Nat.zero_testBit]
      · rw [Nat.testBit_lt_two_pow (Nat.lt_of_lt_of_le (show N < 2 ^ 12 by omega) (Nat.pow_le_pow_right (by omega) (by omega))), Nat.zero_testBit]
    subst this; rfl
  · intro h j hj
    obtain rfl : N = 0 := by omega
    rw [bit_nat 0 j (by omega), Nat.zero_testBit]
theorem lv_zero (n : Int) (h0 : 0 ≤ n) (h1 : n ≤ 4095) : lvV n = 0 ↔ cntK (bitI n) 12 = 0 := by
  rw [cnt_zero n h0 h1]
  constructor
  · intro h
    unfold lvV at h
    by_cases c1 : bits .and .i64 n 3843 = 0
    · rw [if_pos c1] at h
      by_cases c2 : bits .and .i64 n 4095 = 0
      · obtain ⟨N, rfl⟩ := Int.eq_ofNat_of_zero_le h0
        rw [and_no] at c2
        have c3 := congrArg BitVec.toNat c2
        rw [BitVec.toNat_and] at c3
        have e1 : (bv (N : Int)).toNat = N := by show (BitVec.ofInt 64 (N : Int)).toNat = N; rw [BitVec.ofInt_natCast, BitVec.toNat_ofNat]; omega
        have e2 : (bv 4095).toNat = 2 ^ 12 - 1 := by decide
        rw [e1, e2, Nat.and_two_pow_sub_one_eq_mod] at c3
        have : (0#64).toNat = 0 := rfl
        omega
      · rw [if_neg c2] at h; omega
    · rw [if_neg c1] at h; omega
  · rintro rfl; decide +kernel
end Go.Proofs.YtmocppghmdeahaaGreat
