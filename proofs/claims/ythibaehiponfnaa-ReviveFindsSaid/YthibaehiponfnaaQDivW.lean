/- The walk of math/bits.Div64: of a number of two words, its high word less than the divisor, the quotient and what is left. -/
import Derived.Test.YthibaehiponfnaaQDiv
namespace Go.Proofs.Ythibaehiponfnaa
set_option maxRecDepth 100000
open Go.RowKit
set_option linter.unusedVariables false
set_option linter.unusedSimpArgs false

/-- The five ways through a round of the loop that betters a guess. -/
theorem guess_ways {Y Y1 Y0 U L q r : Int} (h : Norm Y Y1 Y0) (g : Guess Y Y1 U L q r) (u0 : 0 ≤ U) (u1 : U < Y) (l0 : 0 ≤ L) (l1 : L ≤ 4294967295) :
    (∃ Q, 1 ≤ q ∧ q - 1 = Q ∧ decide (4294967296 ≤ q) = true ∧ decide (4294967296 ≤ r + Y1) = true ∧ Found Y U L Q) ∨
    (∃ Q, 1 ≤ q ∧ q - 1 = Q ∧ decide (4294967296 ≤ q) = false ∧ decide (4294967296 * r + L < q * Y0) = true ∧ decide (4294967296 ≤ r + Y1) = true ∧ 0 ≤ q * Y0 ∧ q * Y0 ≤ 18446744069414584320 ∧ Found Y U L Q) ∨
    (decide (4294967296 ≤ q) = false ∧ decide (4294967296 * r + L < q * Y0) = false ∧ 0 ≤ q * Y0 ∧ q * Y0 ≤ 18446744069414584320 ∧ Found Y U L q) ∨
    (1 ≤ q ∧ decide (4294967296 ≤ q) = true ∧ decide (4294967296 ≤ r + Y1) = false ∧ Guess Y Y1 U L (q - 1) (r + Y1)) ∨
    (1 ≤ q ∧ decide (4294967296 ≤ q) = false ∧ decide (4294967296 * r + L < q * Y0) = true ∧ decide (4294967296 ≤ r + Y1) = false ∧ 0 ≤ q * Y0 ∧ q * Y0 ≤ 18446744069414584320 ∧ Guess Y Y1 U L (q - 1) (r + Y1)) := by
  simp only [decide_eq_true_eq, decide_eq_false_iff_not]
  by_cases hb : 4294967296 ≤ q
  · have hlt := g.high h u1 l1 hb
    by_cases hr : 4294967296 ≤ r + Y1
    · exact .inl ⟨_, by omega, rfl, hb, hr, g.broke h u0 u1 l0 l1 hlt hr⟩
    · exact .inr (.inr (.inr (.inl ⟨by omega, hb, hr, g.next h u0 l0 hlt (by omega)⟩)))
  · have ⟨s0, s1⟩ := small_mul (q := q) g.q0 (by omega) h.lo0 h.hi0
    by_cases ht : 4294967296 * r + L < q * Y0
    · have hlt := g.test h (by omega)
      have hp := g.pos (Y0 := Y0) u0 l0 hlt
      by_cases hr : 4294967296 ≤ r + Y1
      · exact .inr (.inl ⟨_, hp, rfl, hb, ht, hr, s0, s1, g.broke h u0 u1 l0 l1 hlt hr⟩)
      · exact .inr (.inr (.inr (.inr ⟨hp, hb, ht, hr, s0, s1, g.next h u0 l0 hlt (by omega)⟩)))
    · exact .inr (.inr (.inl ⟨hb, ht, s0, s1, g.done h u1 l1 (by omega)⟩))

theorem ret_ii {k : IntKind} {a b c d : Int} (h : a = b) (h2 : c = d) : Ending.returned (.tuple #[.int k a, .int k c]) = Ending.returned (.tuple #[.int k b, .int k d]) := by rw [h, h2]
theorem left_wrap {U L Q Y R : Int} (h : U * 4294967296 + L - Q * Y = R) (h0 : 0 ≤ R) (h1 : R ≤ 18446744073709551615) :
    IntKind.u64.wrap (IntKind.u64.wrap (IntKind.u64.wrap (U * 4294967296) + L) - IntKind.u64.wrap (Q * Y)) = R := by
  generalize Q * Y = z at *
  simp only [IntKind.wrap_u64]; omega

end Go.Proofs.Ythibaehiponfnaa
