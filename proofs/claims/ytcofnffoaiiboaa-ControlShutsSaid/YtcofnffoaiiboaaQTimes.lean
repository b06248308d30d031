/- The document's long multiplication and division, bit by bit. -/
import Derived.Test.YtcofnffoaiiboaaQuot
namespace Go.Proofs.Ytcofnffoaiiboaa
open Go.RowKit
set_option linter.unusedVariables false
set_option linter.unusedSimpArgs false

theorem ret_ii' {k : IntKind} {a b c d : Int} (h : a = b) (h2 : c = d) : Ending.returned (.tuple #[.int k a, .int k c]) = Ending.returned (.tuple #[.int k b, .int k d]) := by rw [h, h2]

/-- What 'times' tells: the quotient and what is left, or some quotient that is too great where the true one is. -/
structure Told (m n d q r : Int) : Prop where
  q0 : 0 ≤ q
  q1 : q ≤ 144115188075855872
  r0 : 0 ≤ r
  r1 : r < d
  just : q ≤ 36028797018963968 → q * d + r = m * n
  big : 36028797018963968 < q → 36028797018963968 * d < m * n

/-- What holds ahead of the round in which k bits are left. -/
structure Bits (m n d : Int) (k : Nat) (q r : Int) : Prop where
  q0 : 0 ≤ q
  q1 : q ≤ 36028797018963968
  r0 : 0 ≤ r
  r1 : r < d
  just : q * d + r = m / 2 ^ k * n

def TimesEnd (m n d : Int) (w : World) (e : Ending) (w' : World) : Prop := ∃ q r, e = .returned (.tuple #[.int .i64 q, .int .i64 r]) ∧ Told m n d q r ∧ ∃ k, w' = w.drewN k

theorem halves (m : Int) (i : Nat) : m / 2 ^ i = 2 * (m / 2 ^ (i + 1)) + m / 2 ^ i % 2 := by
  have : m / 2 ^ (i + 1) = m / 2 ^ i / 2 := by rw [Int.pow_succ, Int.ediv_ediv_of_nonneg (Int.le_of_lt (Int.pow_pos (by decide)))]
  omega
theorem and_one (z : Int) (h0 : 0 ≤ z) (h1 : z ≤ 9007199254740992) : bits .and .i64 z 1 = z % 2 := by
  obtain ⟨a, rfl⟩ := Int.eq_ofNat_of_zero_le h0
  have e1 : (BitVec.ofInt 64 (a : Int)).toNat = a := by
    rw [BitVec.ofInt_natCast, BitVec.toNat_ofNat]; exact Nat.mod_eq_of_lt (by omega)
  have e2 : (BitVec.ofInt 64 (1 : Int)).toNat = 1 := by decide
  show IntKind.i64.wrap ((BitVec.ofInt 64 (a : Int) &&& BitVec.ofInt 64 (1 : Int)).toNat : Int) = _
  rw [BitVec.toNat_and, e1, e2, Nat.and_one_is_mod]
  rw [IntWalk.i64_in _ (by omega)]
  omega
theorem ediv_le (m : Int) (m0 : 0 ≤ m) (i : Nat) : 0 ≤ m / 2 ^ i ∧ m / 2 ^ i ≤ m :=
  ⟨Int.ediv_nonneg m0 (Int.le_of_lt (Int.pow_pos (by decide))), Int.ediv_le_self _ m0⟩

/-- A round's numbers, whatever its ways. -/
theorem Bits.sum {m n d : Int} {k : Nat} {q r t : Int} (b : Bits m n d (k + 1) q r) (ht : m / 2 ^ k % 2 = t) : 2 * (q * d) + 2 * r + t * n = m / 2 ^ k * n := by
  have e := halves m k
  rw [ht] at e
  rw [e, Int.add_mul, Int.mul_assoc, ← b.just]; omega
theorem Bits.step {m n d : Int} {k : Nat} {q r : Int} (h0 : 0 ≤ q) (h1 : q ≤ 36028797018963968) (r0 : 0 ≤ r) (r1 : r < d) (e : q * d + r = m / 2 ^ k * n) : Bits m n d k q r := ⟨h0, h1, r0, r1, e⟩
theorem Told.large {m n d : Int} {k : Nat} {q r : Int} (m0 : 0 ≤ m) (n0 : 0 ≤ n) (d0 : 0 < d) (h0 : 36028797018963968 < q) (h1 : q ≤ 144115188075855872) (r0 : 0 ≤ r) (r1 : r < d) (e : q * d + r = m / 2 ^ k * n) : Told m n d q r := by
  refine ⟨by omega, h1, r0, r1, fun h => absurd h (by omega), fun _ => ?_⟩
  have ⟨_, a⟩ := ediv_le m m0 k
  have a2 := Int.mul_le_mul_of_nonneg_right a n0
  have a3 := Int.mul_lt_mul_of_pos_right h0 d0
  omega
theorem Told.of_bits {m n d q r : Int} (b : Bits m n d 0 q r) : Told m n d q r := by
  refine ⟨b.q0, by have := b.q1; omega, b.r0, b.r1, fun _ => ?_, fun h => absurd h (by have := b.q1; omega)⟩
  have := b.just
  rw [Int.pow_zero, Int.ediv_one] at this; exact this

set_option maxHeartbeats 1000000 in
theorem ref2_times (m n d : Int) (m0 : 0 ≤ m) (m1 : m ≤ 9007199254740992) (n0 : 0 ≤ n) (n1 : n ≤ 9007199254740992) (d0 : 0 < d) (d1 : d ≤ 9007199254740992) (w : World) :
    Calls Try.prog 122 #[.int .i64 m, .int .i64 n, .int .i64 d] w (TimesEnd m n d w) := by
  have hz : (d == 0) = false := by simpa using (show d ≠ 0 by omega)
  have t0 := Int.ediv_nonneg (a := n) (b := d) n0 (by omega)
  have t1 := Int.ediv_le_self (a := n) d n0
  have t2 := Int.emod_nonneg n (b := d) (by omega)
  have t3 := Int.emod_lt_of_pos n (b := d) d0
  have t4 := Int.mul_ediv_add_emod n d
  rw [Int.mul_comm] at t4
  have T4 := Lib.hid t4
  clear t4
  have hstart : Bits m n d 54 0 0 := by
    refine ⟨by omega, by omega, by omega, d0, ?_⟩
    rw [Int.ediv_eq_zero_of_lt m0 (by rw [show (2 : Int) ^ 54 = 18014398509481984 by decide]; omega)]; omega
  have HS := Lib.hid hstart
  clear hstart
  go_enter Try.func122, Try.ntmps122
  go_wp2
  go_loopw [8, 9, 10] (fun q r i wr => ∃ (Q R : Int) (k : Nat) (c : Nat), k ≤ 54 ∧ q = .int .i64 Q ∧ r = .int .i64 R ∧ i = .int .i64 ((k : Int) - 1) ∧ Bits m n d k Q R ∧ wr = w.drewN c) (fun _ _ i _ => (intOf i + 1).toNat)
  case atStart => exact ⟨_, _, 54, 0, by omega, rfl, rfl, rfl, HS.out, rfl⟩
  case round =>
    obtain ⟨Q, R, k, c, hk, rfl, rfl, rfl, hb, rfl⟩ := hrel
    have q0 := hb.q0
    have q1 := hb.q1
    have r0 := hb.r0
    have r1 := hb.r1
    cases k with
    | zero =>
      have HT := Lib.hid (Told.of_bits hb)
      clear hb
      go_wp2
      go_ret2
      exact ⟨_, _, rfl, HT.out, _, rfl⟩
    | succ k =>
      have ek : ((k + 1 : Nat) : Int) - 1 = (k : Int) := by omega
      have ⟨z0, z1⟩ := ediv_le m m0 k
      have eb := and_one (m / 2 ^ k) z0 (by omega)
      rw [ek]
      by_cases hbit : m / 2 ^ k % 2 = 1
      · have HS := Lib.hid (hb.sum hbit)
        rw [hbit] at eb
        clear hb hbit ek
        go_wp2
        all_goals (go_quiet (fail); go_wp2)
        all_goals first
          | (go_ret2
             exact ⟨_, _, rfl, Told.large (k := k) m0 n0 d0 (by omega) (by omega) (by omega) (by omega) (by have := HS.out; have := T4.out; simp only [Int.add_mul, Int.mul_assoc, Int.one_mul]; omega), _, rfl⟩)
          | (go_roundw
             case rel => exact ⟨_, _, k, _, by omega, rfl, rfl, rfl, Bits.step (by omega) (by omega) (by omega) (by omega) (by have := HS.out; have := T4.out; simp only [Int.add_mul, Int.mul_assoc, Int.one_mul]; omega), rfl⟩
             case measure => simp [intOf] <;> omega)
      · have hbit0 : m / 2 ^ k % 2 = 0 := by omega
        have HS := Lib.hid (hb.sum hbit0)
        rw [hbit0] at eb
        clear hb hbit hbit0 ek
        go_wp2
        all_goals first
          | (go_ret2
             exact ⟨_, _, rfl, Told.large (k := k) m0 n0 d0 (by omega) (by omega) (by omega) (by omega) (by have := HS.out; have := T4.out; simp only [Int.add_mul, Int.mul_assoc, Int.one_mul]; omega), _, rfl⟩)
          | (go_roundw
             case rel => exact ⟨_, _, k, _, by omega, rfl, rfl, rfl, Bits.step (by omega) (by omega) (by omega) (by omega) (by have := HS.out; have := T4.out; simp only [Int.add_mul, Int.mul_assoc, Int.one_mul]; omega), rfl⟩
             case measure => simp [intOf] <;> omega)
end Go.Proofs.Ytcofnffoaiiboaa
