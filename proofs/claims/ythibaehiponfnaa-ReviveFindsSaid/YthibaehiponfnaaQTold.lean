/- The document's MulDiv: the quotient of the product, of whatever signs. -/
import Derived.Test.YthibaehiponfnaaQTimes
namespace Go.Proofs.Ythibaehiponfnaa
set_option maxRecDepth 100000
open Go.RowKit
set_option linter.unusedVariables false
set_option linter.unusedSimpArgs false

theorem clV_hi {n : Int} (h : 9007199254740992 < n) : clV n = 9007199254740992 ∧ clB n = true := ⟨clV_pos (by omega) (by omega), clB_out (by omega)⟩
theorem clV_lo {n : Int} (h : n < -9007199254740992) : clV n = -9007199254740992 ∧ clB n = true := ⟨clV_neg (by omega) (by omega), clB_out (by omega)⟩
theorem flo_pos_gt {x d k : Int} (d0 : 0 < d) (h : k * d < x) : k ≤ flo x d := by
  unfold flo; rw [if_pos d0]; exact Int.le_ediv_of_mul_le d0 (by omega)
theorem flo_neg_lt {x d k : Int} (d0 : 0 < d) (h : k * d < x) : flo (-x) d < -k := by
  unfold flo; rw [if_pos d0]; exact Int.ediv_lt_of_lt_mul d0 (by rw [Int.neg_mul]; omega)

theorem Told.plus {m n d q r : Int} (t : Told m n d q r) (d0 : 0 < d) : clV q = clV (flo (m * n) d) ∧ clB q = clB (flo (m * n) d) := by
  by_cases h : q ≤ 36028797018963968
  · have e := t.just h
    rw [flo_unique e (fun _ => ⟨t.r0, t.r1⟩) (fun h => absurd h (by omega)) (by omega)]
    exact ⟨rfl, rfl⟩
  · have a := flo_pos_gt d0 (t.big (by omega))
    rw [(clV_hi (n := q) (by omega)).1, (clV_hi (n := q) (by omega)).2, (clV_hi (n := flo (m * n) d) (by omega)).1, (clV_hi (n := flo (m * n) d) (by omega)).2]
    exact ⟨rfl, rfl⟩
theorem Told.minus {m n d q r s : Int} (t : Told m n d q r) (d0 : 0 < d) (hs : (r = 0 ∧ s = -q) ∨ (0 < r ∧ s = -q - 1)) : clV s = clV (flo (-(m * n)) d) ∧ clB s = clB (flo (-(m * n)) d) := by
  by_cases h : q ≤ 36028797018963968
  · have e := t.just h
    have r1 := t.r1
    have : flo (-(m * n)) d = s := by
      rcases hs with ⟨h1, rfl⟩ | ⟨h1, rfl⟩
      · exact flo_unique (m := 0) (by rw [Int.neg_mul]; omega) (fun _ => ⟨by omega, by omega⟩) (fun h => absurd h (by omega)) (by omega)
      · exact flo_unique (m := d - r) (by rw [Int.sub_mul, Int.neg_mul]; omega) (fun _ => ⟨by omega, by omega⟩) (fun h => absurd h (by omega)) (by omega)
    rw [this]
    exact ⟨rfl, rfl⟩
  · have a := flo_neg_lt d0 (t.big (by omega))
    rw [(clV_lo (n := s) (by omega)).1, (clV_lo (n := s) (by omega)).2, (clV_lo (n := flo (-(m * n)) d) (by omega)).1, (clV_lo (n := flo (-(m * n)) d) (by omega)).2]
    exact ⟨rfl, rfl⟩
theorem abs_same {x y : Int} (h : x < 0 ↔ y < 0) : (x.natAbs : Int) * (y.natAbs : Int) = x * y := by
  by_cases g : x < 0
  · have := h.1 g
    rw [show (x.natAbs : Int) = -x by omega, show (y.natAbs : Int) = -y by omega, Int.neg_mul_neg]
  · have : ¬ y < 0 := fun k => g (h.2 k)
    rw [show (x.natAbs : Int) = x by omega, show (y.natAbs : Int) = y by omega]
theorem abs_other {x y : Int} (h : ¬ (x < 0 ↔ y < 0)) : -((x.natAbs : Int) * (y.natAbs : Int)) = x * y := by
  by_cases g : x < 0
  · have : ¬ y < 0 := fun k => h (iff_of_true g k)
    rw [show (x.natAbs : Int) = -x by omega, show (y.natAbs : Int) = y by omega, Int.neg_mul, Int.neg_neg]
  · have : y < 0 := by
      by_cases k : y < 0
      · exact k
      · exact absurd (iff_of_false g k) h
    rw [show (x.natAbs : Int) = x by omega, show (y.natAbs : Int) = -y by omega, Int.mul_neg, Int.neg_neg]
/-- The sign of the divisor goes over to a factor. -/
theorem over_sign (x y : Int) {z : Int} (h : z ≠ 0) : flo (x * -y) (-z) = flo (x * y) z := by rw [Int.mul_neg]; exact flo_neg h

theorem mq_zero {a b c : Int} (h : clV c = 0) : mqV a b c = 0 ∧ mqE a b c = 2 := by simp [mqV, mqE, h]
theorem mq_in {a b c s : Int} (h : ¬ clV c = 0) (e : clV s = clV (flo (clV a * clV b) (clV c)) ∧ clB s = clB (flo (clV a * clV b) (clV c))) : mqV a b c = clV s ∧ mqE a b c = if clB s = true then 3 else 0 := by
  unfold mqV mqE; rw [if_neg h, if_neg h, e.1, e.2]; exact ⟨rfl, rfl⟩

end Go.Proofs.Ythibaehiponfnaa
