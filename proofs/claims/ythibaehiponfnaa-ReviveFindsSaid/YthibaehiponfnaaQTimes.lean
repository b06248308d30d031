/- The document's long multiplication and division, bit by bit. -/
import Derived.Test.YthibaehiponfnaaQuot
namespace Go.Proofs.Ythibaehiponfnaa
set_option maxRecDepth 100000
open Go.RowKit
set_option linter.unusedVariables false
set_option linter.unusedSimpArgs false

theorem ret_ii' {k : IntKind} {a b c d : Int} (h : a = b) (h2 : c = d) : Ending.returned (.tuple #[.int k a, .int k c]) = Ending.returned (.tuple #[.int k b, .int k d]) := by rw [h, h2]

/-- What 'times' tells: the quotient and what is left, or some quotient that is too great where the true one is. -/
structure Told (m n d q r : Int) : Prop where
  q0 : 0 ≤ q
  q1 : q ≤ 144115188075855872
  r0 : 0 ≤ r
  r1 : r < d
  just : q ≤ 36028797018963968 → q * d + r = m * n
  big : 36028797018963968 < q → 36028797018963968 * d < m * n

/-- What holds ahead of the round in which k bits are left. -/
structure Bits (m n d : Int) (k : Nat) (q r : Int) : Prop where
  q0 : 0 ≤ q
  q1 : q ≤ 36028797018963968
  r0 : 0 ≤ r
  r1 : r < d
  just : q * d + r = m / 2 ^ k * n

def TimesEnd (m n d : Int) (w : World) (e : Ending) (w' : World) : Prop := ∃ q r, e = .returned (.tuple #[.int .i64 q, .int .i64 r]) ∧ Told m n d q r ∧ ∃ k, w' = w.drewN k

theorem halves (m : Int) (i : Nat) : m / 2 ^ i = 2 * (m / 2 ^ (i + 1)) + m / 2 ^ i % 2 := by
  have : m / 2 ^ (i + 1) = m / 2 ^ i / 2 := by rw [Int.pow_succ, Int.ediv_ediv_of_nonneg (Int.le_of_lt (Int.pow_pos (by decide)))]
  omega
theorem and_one (z : Int) (h0 : 0 ≤ z) (h1 : z ≤ 9007199254740992) : bits .and .i64 z 1 = z % 2 := by
  obtain ⟨a, rfl⟩ := Int.eq_ofNat_of_zero_le h0
  have e1 : (BitVec.ofInt 64 (a : Int)).toNat = a := by
    rw [BitVec.ofInt_natCast, BitVec.toNat_ofNat]; exact Nat.mod_eq_of_lt (by omega)
  have e2 : (BitVec.ofInt 64 (1 : Int)).toNat = 1 := by decide
  show IntKind.i64.wrap ((BitVec.ofInt 64 (a : Int) &&& BitVec.ofInt 64 (1 : Int)).toNat : Int) = _
  rw [BitVec.toNat_and, e1, e2, Nat.and_one_is_mod]
  rw [IntWalk.i64_in _ (by omega)]
  omega
theorem ediv_le (m : Int) (m0 : 0 ≤ m) (i : Nat) : 0 ≤ m / 2 ^ i ∧ m / 2 ^ i ≤ m :=
  ⟨Int.ediv_nonneg m0 (Int.le_of_lt (Int.pow_pos (by decide))), Int.ediv_le_self _ m0⟩

/-- A round's numbers, whatever its ways. -/
theorem Bits.sum {m n d : Int} {k : Nat} {q r t : Int} (b : Bits m n d (k + 1) q r) (ht : m / 2 ^ k % 2 = t) : 2 * (q * d) + 2 * r + t * n = m / 2 ^ k * n := by
  have e := halves m k
  rw [ht] at e
  rw [e, Int.add_mul, Int.mul_assoc, ← b.just]; omega
theorem Bits.step {m n d : Int} {k : Nat} {q r : Int} (h0 : 0 ≤ q) (h1 : q ≤ 36028797018963968) (r0 : 0 ≤ r) (r1 : r < d) (e : q * d + r = m / 2 ^ k * n) : Bits m n d k q r := ⟨h0, h1, r0, r1, e⟩
theorem Told.large {m n d : Int} {k : Nat} {q r : Int} (m0 : 0 ≤ m) (n0 : 0 ≤ n) (d0 : 0 < d) (h0 : 36028797018963968 < q) (h1 : q ≤ 144115188075855872) (r0 : 0 ≤ r) (r1 : r < d) (e : q * d + r = m / 2 ^ k * n) : Told m n d q r := by
  refine ⟨by omega, h1, r0, r1, fun h => absurd h (by omega), fun _ => ?_⟩
  have ⟨_, a⟩ := ediv_le m m0 k
  have a2 := Int.mul_le_mul_of_nonneg_right a n0
  have a3 := Int.mul_lt_mul_of_pos_right h0 d0
  omega
theorem Told.of_bits {m n d q r : Int} (b : Bits m n d 0 q r) : Told m n d q r := by
  refine ⟨b.q0, by have := b.q1; omega, b.r0, b.r1, fun _ => ?_, fun h => absurd h (by have := b.q1; omega)⟩
  have := b.just
  rw [Int.pow_zero, Int.ediv_one] at this; exact this

end Go.Proofs.Ythibaehiponfnaa
