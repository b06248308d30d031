/- Contracts of math/bits as the program's own dump has it: LeadingZeros64, Add64 without a carry, Mul64 of numbers up to 2^53. -/
import Derived.Test.YthibaehiponfnaaSat
import Derived.Test.YthibaehiponfnaaQLen
import Derived.Laws.Bits64b
import Derived.Laws.Externs
namespace Go.Proofs.Ythibaehiponfnaa
set_option maxRecDepth 100000
open Go.RowKit
set_option linter.unusedVariables false
set_option linter.unusedSimpArgs false

theorem u64_and_mask (n : Int) (h0 : 0 ≤ n) (h1 : n ≤ 18446744073709551615) : bits .and .u64 n 4294967295 = n % 4294967296 := by
  obtain ⟨a, rfl⟩ := Int.eq_ofNat_of_zero_le h0
  have h := bits_and_u64_nat a 4294967295 (by omega) (by omega)
  rw [show a &&& 4294967295 = a % 4294967296 from Nat.and_two_pow_sub_one_eq_mod a 32] at h
  exact h.trans (by omega)

theorem ret_uu {k : IntKind} {a b c d : Int} (h : a = b) (h2 : c = d) : Ending.returned (.tuple #[.int k a, .int k c]) = Ending.returned (.tuple #[.int k b, .int k d]) := by rw [h, h2]
/-- The school method: what it calls the high word is the high word. -/
theorem high_word {A B C D P : Int} (a0 : 0 ≤ A) (b0 : 0 ≤ B) (c0 : 0 ≤ C) (d0 : 0 ≤ D) (h : P = A * 18446744073709551616 + (B + C) * 4294967296 + D) :
    A + (B + D / 4294967296) / 4294967296 + ((B + D / 4294967296) % 4294967296 + C) / 4294967296 = P / 18446744073709551616 := by omega
theorem four_parts (x y : Int) : x * y = x / 4294967296 * (y / 4294967296) * 18446744073709551616 + (x / 4294967296 * (y % 4294967296) + x % 4294967296 * (y / 4294967296)) * 4294967296 + x % 4294967296 * (y % 4294967296) := by
  have e : x * y = (x / 4294967296 * 4294967296 + x % 4294967296) * (y / 4294967296 * 4294967296 + y % 4294967296) := by
    rw [show x / 4294967296 * 4294967296 + x % 4294967296 = x by omega, show y / 4294967296 * 4294967296 + y % 4294967296 = y by omega]
  generalize x / 4294967296 = p at *
  generalize x % 4294967296 = q at *
  generalize y / 4294967296 = r at *
  generalize y % 4294967296 = s at *
  rw [e, Int.add_mul, Int.mul_add, Int.mul_add, ← Int.mul_assoc (p * 4294967296), Int.mul_right_comm p 4294967296 r, Int.mul_right_comm p 4294967296 s, ← Int.mul_assoc q r]
  omega
theorem mul_upto {a b m n : Int} (a0 : 0 ≤ a) (a1 : a ≤ m) (b0 : 0 ≤ b) (b1 : b ≤ n) : 0 ≤ a * b ∧ a * b ≤ m * n :=
  ⟨Int.mul_nonneg a0 b0, Int.mul_le_mul a1 b1 b0 (by omega)⟩

end Go.Proofs.Ythibaehiponfnaa
