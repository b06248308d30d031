/- Plain mathematics of a division by two digits of 32 bits: nothing of the program. -/
import Derived.Test.YthibaehiponfnaaQMath
namespace Go.Proofs.Ythibaehiponfnaa
set_option maxRecDepth 100000
set_option linter.unusedVariables false
set_option linter.unusedSimpArgs false

/-- The divisor, normalised, and its two digits. -/
structure Norm (Y Y1 Y0 : Int) : Prop where
  split : Y = Y1 * 4294967296 + Y0
  lo1 : 2147483648 ≤ Y1
  hi1 : Y1 ≤ 4294967295
  lo0 : 0 ≤ Y0
  hi0 : Y0 ≤ 4294967295

/-- What holds at each head of the loop that betters the guess q; L is the next digit. -/
structure Guess (Y Y1 U L q r : Int) : Prop where
  rest : q * Y1 + r = U
  r0 : 0 ≤ r
  r1 : r ≤ 4294967295
  q0 : 0 ≤ q
  q1 : q ≤ 4294967297
  over : U * 4294967296 + L < (q + 1) * Y

/-- The digit is found. -/
structure Found (Y U L q : Int) : Prop where
  q0 : 0 ≤ q
  q1 : q ≤ 4294967295
  low : q * Y ≤ U * 4294967296 + L
  over : U * 4294967296 + L < (q + 1) * Y

theorem Norm.mul {Y Y1 Y0 : Int} (h : Norm Y Y1 Y0) (q : Int) : q * Y = q * Y1 * 4294967296 + q * Y0 := by
  rw [h.split, Int.mul_add, Int.mul_assoc]
theorem succ_mul' (q Y : Int) : (q + 1) * Y = q * Y + Y := by rw [Int.add_mul, Int.one_mul]
theorem small_mul {q Y0 : Int} (h0 : 0 ≤ q) (h1 : q ≤ 4294967296) (k0 : 0 ≤ Y0) (k1 : Y0 ≤ 4294967295) : 0 ≤ q * Y0 ∧ q * Y0 ≤ 18446744069414584320 := by
  refine ⟨Int.mul_nonneg h0 k0, ?_⟩
  have := Int.mul_le_mul h1 k1 k0 (by omega)
  omega

theorem Guess.start {Y Y1 Y0 U L : Int} (h : Norm Y Y1 Y0) (u0 : 0 ≤ U) (u1 : U < Y) (l0 : 0 ≤ L) (l1 : L ≤ 4294967295) : Guess Y Y1 U L (U / Y1) (U - U / Y1 * Y1) := by
  have hY1 := h.lo1
  have e := Int.mul_ediv_add_emod U Y1
  have e0 := Int.emod_nonneg U (b := Y1) (by omega)
  have e1 := Int.emod_lt_of_pos U (b := Y1) (by omega)
  have q0 := Int.ediv_nonneg (a := U) (b := Y1) u0 (by omega)
  rw [Int.mul_comm] at e
  have hq : U / Y1 < 4294967298 := Int.ediv_lt_of_lt_mul (by omega) (by have := h.split; have := h.hi0; have := h.hi1; omega)
  refine ⟨by omega, by omega, by have := h.hi1; omega, q0, by omega, ?_⟩
  have m := h.mul (U / Y1)
  have m0 := Int.mul_nonneg q0 h.lo0
  rw [succ_mul']
  have := h.split
  have := h.lo0
  omega

theorem Guess.high {Y Y1 Y0 U L q r : Int} (h : Norm Y Y1 Y0) (g : Guess Y Y1 U L q r) (u1 : U < Y) (l1 : L ≤ 4294967295) (hq : 4294967296 ≤ q) : U * 4294967296 + L < q * Y := by
  have := h.split; have := h.lo1; have := h.lo0
  have := Int.mul_le_mul_of_nonneg_right (c := Y) hq (by omega)
  omega
theorem Guess.test {Y Y1 Y0 U L q r : Int} (h : Norm Y Y1 Y0) (g : Guess Y Y1 U L q r) (ht : r * 4294967296 + L < q * Y0) : U * 4294967296 + L < q * Y := by
  have := h.mul q; have := g.rest
  omega
theorem Guess.pos {Y Y1 Y0 U L q r : Int} (g : Guess Y Y1 U L q r) (u0 : 0 ≤ U) (l0 : 0 ≤ L) (hlt : U * 4294967296 + L < q * Y) : 1 ≤ q := by
  by_cases h : q = 0
  · subst h; omega
  · have := g.q0; omega
theorem Guess.next {Y Y1 Y0 U L q r : Int} (h : Norm Y Y1 Y0) (g : Guess Y Y1 U L q r) (u0 : 0 ≤ U) (l0 : 0 ≤ L) (hlt : U * 4294967296 + L < q * Y) (hr : r + Y1 ≤ 4294967295) : Guess Y Y1 U L (q - 1) (r + Y1) := by
  have hq := Guess.pos (Y0 := Y0) g u0 l0 hlt
  have := h.lo1
  have := g.rest; have := g.r0; have := g.q1
  refine ⟨by rw [Int.sub_mul, Int.one_mul]; omega, by omega, hr, by omega, by omega, ?_⟩
  rw [show q - 1 + 1 = q by omega]; exact hlt
theorem Found.of_low {Y Y1 Y0 U L q : Int} (h : Norm Y Y1 Y0) (u1 : U < Y) (l1 : L ≤ 4294967295) (q0 : 0 ≤ q) (low : q * Y ≤ U * 4294967296 + L) (over : U * 4294967296 + L < (q + 1) * Y) : Found Y U L q := by
  refine ⟨q0, ?_, low, over⟩
  by_cases hq : q ≤ 4294967295
  · exact hq
  · exfalso
    have := h.split; have := h.lo1; have := h.lo0
    have := Int.mul_le_mul_of_nonneg_right (a := 4294967296) (b := q) (c := Y) (by omega) (by omega)
    omega
theorem Guess.done {Y Y1 Y0 U L q r : Int} (h : Norm Y Y1 Y0) (g : Guess Y Y1 U L q r) (u1 : U < Y) (l1 : L ≤ 4294967295) (ht : q * Y0 ≤ r * 4294967296 + L) : Found Y U L q := by
  have m := h.mul q; have := g.rest
  exact Found.of_low h u1 l1 g.q0 (by omega) g.over
theorem Guess.broke {Y Y1 Y0 U L q r : Int} (h : Norm Y Y1 Y0) (g : Guess Y Y1 U L q r) (u0 : 0 ≤ U) (u1 : U < Y) (l0 : 0 ≤ L) (l1 : L ≤ 4294967295) (hlt : U * 4294967296 + L < q * Y) (hr : 4294967296 ≤ r + Y1) : Found Y U L (q - 1) := by
  have hq := Guess.pos (Y0 := Y0) g u0 l0 hlt
  have m := h.mul (q - 1)
  have ⟨s0, s1⟩ := small_mul (q := q - 1) (Y0 := Y0) (by omega) (by have := g.q1; omega) h.lo0 h.hi0
  have := g.rest
  refine Found.of_low h u1 l1 (by omega) ?_ (by rw [show q - 1 + 1 = q by omega]; exact hlt)
  have e : (q - 1) * Y1 = q * Y1 - Y1 := by rw [Int.sub_mul, Int.one_mul]
  omega
/-- What is left behind a digit. -/
theorem Found.left {Y U L q : Int} (f : Found Y U L q) : 0 ≤ U * 4294967296 + L - q * Y ∧ U * 4294967296 + L - q * Y < Y := by
  have := f.low; have := f.over; rw [succ_mul'] at this; omega

/-- Both digits together, and what is left, of the number that was shifted by p. -/
theorem both_digits {N y p Y U L1 L0 q1 q0 : Int} (hp : 0 < p) (hy : 0 < y) (eY : Y = y * p) (eN : N * p = U * 18446744073709551616 + L1 * 4294967296 + L0)
    (f1 : Found Y U L1 q1) (f0 : Found Y (U * 4294967296 + L1 - q1 * Y) L0 q0) :
    q1 * 4294967296 + q0 = N / y ∧ ((U * 4294967296 + L1 - q1 * Y) * 4294967296 + L0 - q0 * Y) / p = N % y := by
  have ⟨a, b⟩ := f0.left
  have hY : 0 < Y := by rw [eY]; exact Int.mul_pos hy hp
  have key : (N * p) / Y = q1 * 4294967296 + q0 ∧ (N * p) % Y = (U * 4294967296 + L1 - q1 * Y) * 4294967296 + L0 - q0 * Y := by
    refine (Int.ediv_emod_unique hY).2 ⟨?_, a, b⟩
    have e1 : Y * (q1 * 4294967296 + q0) = q1 * Y * 4294967296 + q0 * Y := by
      rw [Int.mul_add, ← Int.mul_assoc, Int.mul_comm Y q1, Int.mul_comm Y q0]
    omega
  rw [eY, Int.mul_ediv_mul_of_pos_left _ _ hp] at key
  refine ⟨key.1.symm, ?_⟩
  rw [← eY] at key
  rw [← key.2, eY, Int.mul_comm N p, Int.mul_comm y p, Int.mul_emod_mul_of_pos _ _ hp, Int.mul_ediv_cancel_left _ (by omega)]
end Go.Proofs.Ythibaehiponfnaa
