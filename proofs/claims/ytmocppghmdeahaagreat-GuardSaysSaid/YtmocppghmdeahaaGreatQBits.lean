/- Contracts of math/bits as the program's own dump has it: LeadingZeros64, Add64 without a carry, Mul64 of numbers up to 2^53. -/
import Derived.Test.YtmocppghmdeahaaGreatSat
import Derived.Test.YtmocppghmdeahaaGreatQLen
import Derived.Laws.Bits64b
import Derived.Laws.Externs
namespace Go.Proofs.YtmocppghmdeahaaGreat
set_option maxRecDepth 100000
open Go.RowKit
set_option linter.unusedVariables false
set_option linter.unusedSimpArgs false

theorem u64_and_mask (n : Int) (h0 : 0 ≤ n) (h1 : n ≤ 18446744073709551615) : bits .and .u64 n 4294967295 = n % 4294967296 := by
  obtain ⟨a, rfl⟩ := Int.eq_ofNat_of_zero_le h0
  have h := bits_and_u64_nat a 4294967295 (by omega) (by omega)
  rw [show a &&& 4294967295 = a % 4294967296 from Nat.and_two_pow_sub_one_eq_mod a 32] at h
  exact h.trans (by omega)

theorem bits_lz64 (x : Int) (w : World) (h0 : 0 ≤ x) (h1 : x ≤ 18446744073709551615) :
    Calls Tryz.prog 107 #[.int .u64 x] w fun e w' => e = .returned (.int .i64 (64 - (Lib.bitLen x.toNat : Int))) ∧ w = w' := by
  have l := bitLen64_le x h1
  go_enter Tryz.func107, Tryz.ntmps107
  go_wp2_with (go_at_call 109; refine (bits_len64 x _ h0 h1).mono ?_; rintro e w' ⟨rfl, rfl⟩)
  go_ret
  exact ⟨rfl, rfl⟩

/-- The model has an entry of its own for Add64. -/
theorem bits_add64_int (x y : Int) (hx : 0 ≤ x) (hy : 0 ≤ y) (w : World) :
    (callFunc 98 #[.int .u64 x, .int .u64 y, .int .u64 0]).run Tryz.prog w =
      .ok (.value (.tuple #[.int .u64 ((x + y) % 18446744073709551616), .int .u64 ((x + y) / 18446744073709551616)])) w := by
  have h := run_callFunc_extern (w := w) (args := #[.int .u64 x, .int .u64 y, .int .u64 0]) Tryz.func98 (by kernel_rfl) (by kernel_rfl) (by kernel_rfl) (e := add64Entry) (by kernel_rfl)
  rw [run_add64 x y 0 hx hy (by omega) (by omega)] at h
  rw [h]
  simp only [Result.andThen, Int.add_zero]

theorem ret_uu {k : IntKind} {a b c d : Int} (h : a = b) (h2 : c = d) : Ending.returned (.tuple #[.int k a, .int k c]) = Ending.returned (.tuple #[.int k b, .int k d]) := by rw [h, h2]
/-- The school method: what it calls the high word is the high word. -/
theorem high_word {A B C D P : Int} (a0 : 0 ≤ A) (b0 : 0 ≤ B) (c0 : 0 ≤ C) (d0 : 0 ≤ D) (h : P = A * 18446744073709551616 + (B + C) * 4294967296 + D) :
    A + (B + D / 4294967296) / 4294967296 + ((B + D / 4294967296) % 4294967296 + C) / 4294967296 = P / 18446744073709551616 := by omega
theorem four_parts (x y : Int) : x * y = x / 4294967296 * (y / 4294967296) * 18446744073709551616 + (x / 4294967296 * (y % 4294967296) + x % 4294967296 * (y / 4294967296)) * 4294967296 + x % 4294967296 * (y % 4294967296) := by
  have e : x * y = (x / 4294967296 * 4294967296 + x % 4294967296) * (y / 4294967296 * 4294967296 + y % 4294967296) := by
    rw [show x / 4294967296 * 4294967296 + x % 4294967296 = x by omega, show y / 4294967296 * 4294967296 + y % 4294967296 = y by omega]
  generalize x / 4294967296 = p at *
  generalize x % 4294967296 = q at *
  generalize y / 4294967296 = r at *
  generalize y % 4294967296 = s at *
  rw [e, Int.add_mul, Int.mul_add, Int.mul_add, ← Int.mul_assoc (p * 4294967296), Int.mul_right_comm p 4294967296 r, Int.mul_right_comm p 4294967296 s, ← Int.mul_assoc q r]
  omega
theorem mul_upto {a b m n : Int} (a0 : 0 ≤ a) (a1 : a ≤ m) (b0 : 0 ≤ b) (b1 : b ≤ n) : 0 ≤ a * b ∧ a * b ≤ m * n :=
  ⟨Int.mul_nonneg a0 b0, Int.mul_le_mul a1 b1 b0 (by omega)⟩

theorem bits_mul64_int (x y : Int) (hx0 : 0 ≤ x) (hx : x ≤ 9007199254740992) (hy0 : 0 ≤ y) (hy : y ≤ 9007199254740992) (w : World) :
    Calls Tryz.prog 96 #[.int .u64 x, .int .u64 y] w fun e w' => e = .returned (.tuple #[.int .u64 (x * y / 18446744073709551616), .int .u64 (x * y % 18446744073709551616)]) ∧ w = w' := by
  have mx := u64_and_mask x hx0 (by omega)
  have my := u64_and_mask y hy0 (by omega)
  have h4 := four_parts x y
  have ⟨a0, a1⟩ := mul_upto (a := x / 4294967296) (b := y / 4294967296) (m := 2097152) (n := 2097152) (by omega) (by omega) (by omega) (by omega)
  have ⟨b0, b1⟩ := mul_upto (a := x / 4294967296) (b := y % 4294967296) (m := 2097152) (n := 4294967295) (by omega) (by omega) (by omega) (by omega)
  have ⟨c0, c1⟩ := mul_upto (a := x % 4294967296) (b := y / 4294967296) (m := 4294967295) (n := 2097152) (by omega) (by omega) (by omega) (by omega)
  have ⟨d0, d1⟩ := mul_upto (a := x % 4294967296) (b := y % 4294967296) (m := 4294967295) (n := 4294967295) (by omega) (by omega) (by omega) (by omega)
  obtain ⟨A, hA⟩ : ∃ A, x / 4294967296 * (y / 4294967296) = A := ⟨_, rfl⟩
  obtain ⟨B, hB⟩ : ∃ B, x / 4294967296 * (y % 4294967296) = B := ⟨_, rfl⟩
  obtain ⟨C, hC⟩ : ∃ C, x % 4294967296 * (y / 4294967296) = C := ⟨_, rfl⟩
  obtain ⟨D, hD⟩ : ∃ D, x % 4294967296 * (y % 4294967296) = D := ⟨_, rfl⟩
  obtain ⟨P, hP⟩ : ∃ P, x * y = P := ⟨_, rfl⟩
  rw [hA, hB, hC, hD, hP] at h4
  rw [hA] at a0 a1
  rw [hB] at b0 b1
  rw [hC] at c0 c1
  rw [hD] at d0 d1
  have mt := u64_and_mask (B + D / 4294967296) (by omega) (by omega)
  have mp := IntKind.wrap_u64 P
  have HW := Lib.hid (high_word a0 b0 c0 d0 h4)
  rw [hP]
  have HP := Lib.hid hP
  clear h4
  go_enter Tryz.func96, Tryz.ntmps96
  go_wp2
  go_ret2
  exact ⟨ret_uu HW.out rfl, rfl⟩
end Go.Proofs.YtmocppghmdeahaaGreat
