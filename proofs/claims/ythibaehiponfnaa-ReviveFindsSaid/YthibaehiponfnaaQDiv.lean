/- Contract of math/bits.Div64. -/
import Derived.Test.YthibaehiponfnaaQBits
import Derived.Test.YthibaehiponfnaaQKnuth
namespace Go.Proofs.Ythibaehiponfnaa
set_option maxRecDepth 100000
open Go.RowKit
set_option linter.unusedVariables false
set_option linter.unusedSimpArgs false

theorem bitLen_pow : ∀ (k x : Nat), x ≤ k → x ≠ 0 → x < 18446744073709551616 → 1 ≤ Lib.bitLen x ∧ 2 ^ (Lib.bitLen x - 1) ≤ x ∧ x < 2 ^ Lib.bitLen x
  | 0, x, h, h0, _ => absurd (by omega) h0
  | k + 1, x, h, h0, h1 => by
    rw [Lib.bitLen_half x h0 (by omega)]
    by_cases hx : x / 2 = 0
    · rw [hx, show Lib.bitLen 0 = 0 by decide]
      have : x = 1 := by omega
      subst this; decide
    · have ⟨a, b, c⟩ := bitLen_pow k (x / 2) (by omega) hx (by omega)
      generalize Lib.bitLen (x / 2) = m at *
      obtain ⟨j, rfl⟩ : ∃ j, m = j + 1 := ⟨m - 1, by omega⟩
      rw [show 1 + (j + 1) - 1 = j + 1 by omega, show 1 + (j + 1) = j + 1 + 1 by omega, Nat.pow_succ 2 (j + 1)]
      rw [show j + 1 - 1 = j by omega] at b
      rw [Nat.pow_succ] at c ⊢
      omega

theorem or_sum {A B s : Nat} (hB : B < 2 ^ s) : 2 ^ s * A ||| B = 2 ^ s * A + B := (Nat.two_pow_add_eq_or_of_lt hB A).symm

theorem norm_nat {hi lo y b : Nat} (hy : y ≠ 0) (h1 : hi < y) (h3 : lo < 18446744073709551616) (h4 : y < 18446744073709551616) (hb : Lib.bitLen y = b) :
    b ≤ 64 ∧ 9223372036854775808 ≤ y * 2 ^ (64 - b) ∧ y * 2 ^ (64 - b) < 18446744073709551616 ∧ hi * 2 ^ (64 - b) < 18446744073709551616 ∧ lo / 2 ^ b < 2 ^ (64 - b) ∧
    (hi * 2 ^ (64 - b) ||| lo / 2 ^ b) = hi * 2 ^ (64 - b) + lo / 2 ^ b ∧ hi * 2 ^ (64 - b) + lo / 2 ^ b < y * 2 ^ (64 - b) ∧
    (hi * 18446744073709551616 + lo) * 2 ^ (64 - b) = (hi * 2 ^ (64 - b) + lo / 2 ^ b) * 18446744073709551616 + lo * 2 ^ (64 - b) % 18446744073709551616 := by
  have ⟨a, c, d⟩ := bitLen_pow y y (Nat.le_refl _) hy h4
  have e := Lib.bitLen_le y 64 (by omega) (by omega)
  rw [hb] at a c d e
  have hp : 2 ^ b * 2 ^ (64 - b) = 18446744073709551616 := by rw [← Nat.pow_add, show b + (64 - b) = 64 by omega]
  have hp1 : 2 ^ (b - 1) * 2 ^ (64 - b) = 9223372036854775808 := by rw [← Nat.pow_add, show b - 1 + (64 - b) = 63 by omega]
  have p0 : 0 < 2 ^ (64 - b) := Nat.two_pow_pos _
  have pb0 : 0 < 2 ^ b := Nat.two_pow_pos _
  have y0 := Nat.mul_le_mul_right (2 ^ (64 - b)) c
  have y1 := Nat.mul_lt_mul_of_pos_right d p0
  have hh := Nat.mul_le_mul_right (2 ^ (64 - b)) (show hi + 1 ≤ y by omega)
  rw [Nat.add_mul, Nat.one_mul] at hh
  have hl : lo / 2 ^ b < 2 ^ (64 - b) := Nat.div_lt_of_lt_mul (by rw [hp]; exact h3)
  refine ⟨e, by omega, by omega, by omega, hl, by rw [Nat.mul_comm hi]; exact or_sum hl, by omega, ?_⟩
  have hd := Nat.div_add_mod lo (2 ^ b)
  have hm : lo * 2 ^ (64 - b) = lo / 2 ^ b * 18446744073709551616 + lo % 2 ^ b * 2 ^ (64 - b) := by
    have e2 : lo * 2 ^ (64 - b) = (2 ^ b * (lo / 2 ^ b) + lo % 2 ^ b) * 2 ^ (64 - b) := by rw [hd]
    rw [e2, Nat.add_mul, Nat.mul_comm (2 ^ b), Nat.mul_assoc, hp]
  have hlt : lo % 2 ^ b * 2 ^ (64 - b) < 18446744073709551616 := by
    have := Nat.mul_lt_mul_of_pos_right (Nat.mod_lt lo pb0) p0
    omega
  have hmod : lo * 2 ^ (64 - b) % 18446744073709551616 = lo % 2 ^ b * 2 ^ (64 - b) := by omega
  rw [hmod, Nat.add_mul, Nat.mul_right_comm, hm]
  omega

theorem wrap_small (a : Nat) (ha : a < 18446744073709551616) : IntKind.u64.wrap (a : Int) = (a : Int) := by rw [IntKind.wrap_u64]; omega
theorem wrap_any (a : Nat) : IntKind.u64.wrap (a : Int) = ((a % 18446744073709551616 : Nat) : Int) := by rw [IntKind.wrap_u64]; omega

/-- The normalised numbers, by name, each as the walk spells it. -/
theorem norm_facts (hi lo y : Int) (b : Nat) (h0 : 1 ≤ hi) (h1 : hi < y) (h2 : 0 ≤ lo) (h3 : lo ≤ 18446744073709551615) (h4 : y ≤ 18446744073709551615) (hb : Lib.bitLen y.toNat = b) :
    ∃ Y Y1 Y0 U L L1 L0 : Int, IntKind.u64.wrap (y * 2 ^ (64 - b)) = Y ∧ Y / 4294967296 = Y1 ∧ bits .and .u64 Y 4294967295 = Y0 ∧
      bits .or .u64 (IntKind.u64.wrap (hi * 2 ^ (64 - b))) (lo / 2 ^ (64 - (64 - b))) = U ∧ IntKind.u64.wrap (lo * 2 ^ (64 - b)) = L ∧ L / 4294967296 = L1 ∧ bits .and .u64 L 4294967295 = L0 ∧
      Norm Y Y1 Y0 ∧ 0 ≤ U ∧ U < Y ∧ Y ≤ 18446744073709551615 ∧ 0 ≤ L1 ∧ L1 ≤ 4294967295 ∧ 0 ≤ L0 ∧ L0 ≤ 4294967295 ∧ (0 : Int) < 2 ^ (64 - b) ∧ Y = y * 2 ^ (64 - b) ∧
      (hi * 18446744073709551616 + lo) * 2 ^ (64 - b) = U * 18446744073709551616 + L1 * 4294967296 + L0 ∧ b ≤ 64 := by
  obtain ⟨hi, rfl⟩ := Int.eq_ofNat_of_zero_le (show 0 ≤ hi by omega)
  obtain ⟨lo, rfl⟩ := Int.eq_ofNat_of_zero_le h2
  obtain ⟨y, rfl⟩ := Int.eq_ofNat_of_zero_le (show 0 ≤ y by omega)
  rw [Int.toNat_natCast] at hb
  obtain ⟨n1, n2, n3, n4, n5, n6, n7, n8⟩ := norm_nat (hi := hi) (lo := lo) (y := y) (b := b) (by omega) (by omega) (by omega) (by omega) hb
  have e1 : ∀ n : Nat, (n : Int) * 2 ^ (64 - b) = ((n * 2 ^ (64 - b) : Nat) : Int) := fun n => by simp
  have e2 : (lo : Int) / 2 ^ (64 - (64 - b)) = ((lo / 2 ^ b : Nat) : Int) := by rw [show 64 - (64 - b) = b by omega]; simp
  have eY := wrap_small _ n3
  have eH := wrap_small _ n4
  have eL := wrap_any (lo * 2 ^ (64 - b))
  have hl : lo / 2 ^ b < 18446744073709551616 := Nat.lt_of_le_of_lt (Nat.div_le_self _ _) (by omega)
  have eO := bits_or_u64_nat _ _ n4 hl
  rw [n6] at eO
  have p0 : 0 < 2 ^ (64 - b) := Nat.two_pow_pos _
  have hm := Nat.mod_lt (lo * 2 ^ (64 - b)) (y := 18446744073709551616) (by omega)
  refine ⟨_, _, _, _, _, _, _, by rw [e1, eY], rfl, u64_and_mask _ (by omega) (by omega), by rw [e1, eH, e2, eO], by rw [e1, eL], rfl, u64_and_mask _ (by omega) (by omega), ⟨by omega, by omega, by omega, by omega, by omega⟩, by omega, by omega, by omega, by omega, by omega, by omega, by omega, by exact_mod_cast p0, (e1 y).symm, ?_, n1⟩
  rw [show ((hi : Int) * 18446744073709551616 + (lo : Int)) = ((hi * 18446744073709551616 + lo : Nat) : Int) by omega, e1, n8]
  omega
end Go.Proofs.Ythibaehiponfnaa
