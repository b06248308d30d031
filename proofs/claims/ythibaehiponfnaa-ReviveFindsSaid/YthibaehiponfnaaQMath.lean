/- Plain mathematics of quotients that are rounded down: nothing of the program. -/
import Derived.Test.YthibaehiponfnaaSat
namespace Go.Proofs.Ythibaehiponfnaa
set_option maxRecDepth 100000
set_option linter.unusedVariables false
set_option linter.unusedSimpArgs false

/-- The greatest whole number that is not above x by y. -/
def flo (x y : Int) : Int := if 0 < y then x / y else (-x) / (-y)

theorem flo_unique {x y q m : Int} (h : q * y + m = x) (hp : 0 < y → 0 ≤ m ∧ m < y) (hn : y < 0 → y < m ∧ m ≤ 0) (hy : y ≠ 0) : flo x y = q := by
  unfold flo
  by_cases h0 : 0 < y
  · rw [if_pos h0]
    have ⟨a, b⟩ := hp h0
    exact ((Int.ediv_emod_unique h0).2 ⟨by rw [Int.mul_comm y q]; omega, a, b⟩).1
  · rw [if_neg h0]
    have ⟨a, b⟩ := hn (by omega)
    exact ((Int.ediv_emod_unique (a := -x) (b := -y) (r := -m) (q := q) (by omega)).2 ⟨by rw [Int.neg_mul, Int.mul_comm y q]; omega, by omega, by omega⟩).1
theorem flo_spec (x : Int) {y : Int} (hy : y ≠ 0) : ∃ m, flo x y * y + m = x ∧ (0 < y → 0 ≤ m ∧ m < y) ∧ (y < 0 → y < m ∧ m ≤ 0) := by
  unfold flo
  by_cases h0 : 0 < y
  · rw [if_pos h0]
    refine ⟨x % y, ?_, fun _ => ⟨Int.emod_nonneg _ hy, Int.emod_lt_of_pos _ h0⟩, fun h => absurd h (by omega)⟩
    have := Int.mul_ediv_add_emod x y; rw [Int.mul_comm y] at this; exact this
  · rw [if_neg h0]
    have h1 := Int.emod_nonneg (-x) (b := -y) (by omega)
    have h2 := Int.emod_lt_of_pos (-x) (b := -y) (by omega)
    refine ⟨-((-x) % (-y)), ?_, fun h => absurd h h0, fun _ => ⟨by omega, by omega⟩⟩
    have := Int.mul_ediv_add_emod (-x) (-y); rw [Int.neg_mul, Int.mul_comm y] at this; omega
theorem tmod_facts (x : Int) {y : Int} (hy : y ≠ 0) : x.tdiv y * y + x.tmod y = x ∧ (x.tmod y).natAbs < y.natAbs := by
  refine ⟨?_, ?_⟩
  · have := Int.mul_tdiv_add_tmod x y; rw [Int.mul_comm] at this; exact this
  · rw [Int.natAbs_tmod]; exact Nat.mod_lt _ (by omega)
theorem tdiv_bd (x : Int) (y : Int) : (x.tdiv y).natAbs ≤ x.natAbs := by
  rw [Int.natAbs_tdiv]; exact Nat.div_le_self _ _
theorem flo_same {x y : Int} (hy : y ≠ 0) (h : x.tmod y = 0 ∨ (x.tmod y < 0 ↔ y < 0)) : flo x y = x.tdiv y := by
  have ⟨a, b⟩ := tmod_facts x hy
  refine flo_unique a (fun h0 => ?_) (fun h0 => ?_) hy <;> rcases h with h | h <;> omega
theorem flo_less {x y : Int} (hy : y ≠ 0) (h : x.tmod y ≠ 0) (h2 : ¬ (x.tmod y < 0 ↔ y < 0)) : flo x y = x.tdiv y - 1 := by
  have ⟨a, b⟩ := tmod_facts x hy
  refine flo_unique (m := x.tmod y + y) (by rw [Int.sub_mul, Int.one_mul]; omega) (fun h0 => ?_) (fun h0 => ?_) hy
  · have : x.tmod y < 0 := by
      by_cases g : x.tmod y < 0
      · exact g
      · exact absurd (iff_of_false g (by omega)) h2
    omega
  · have : ¬ x.tmod y < 0 := fun g => h2 (iff_of_true g h0)
    omega
theorem flo_bd {x y : Int} (hy : y ≠ 0) : (flo x y).natAbs ≤ x.natAbs + 1 := by
  have := tdiv_bd x y
  by_cases h : x.tmod y = 0 ∨ (x.tmod y < 0 ↔ y < 0)
  · rw [flo_same hy h]; omega
  · rw [flo_less hy (fun e => h (.inl e)) (fun e => h (.inr e))]; omega
theorem flo_neg {x y : Int} (hy : y ≠ 0) : flo (-x) (-y) = flo x y := by
  obtain ⟨m, a, b, c⟩ := flo_spec x hy
  refine flo_unique (m := -m) (by rw [Int.mul_neg]; omega) (fun h => ?_) (fun h => ?_) (by omega)
  · have := c (by omega); omega
  · have := b (by omega); omega

/-! ### The answers of quot, as functions on integers. -/
def flV (a b : Int) : Int := if clV b = 0 then 0 else flo (clV a) (clV b)
def nzB (b : Int) : Bool := !decide (clV b = 0)
def mdV (a b : Int) : Int := if clV b = 0 then 0 else clV a - flo (clV a) (clV b) * clV b
def nrV (a b : Int) : Int := if clV b = 0 then 0 else flo (2 * clV a + clV b) (2 * clV b)
def mqV (a b c : Int) : Int := if clV c = 0 then 0 else clV (flo (clV a * clV b) (clV c))
def mqE (a b c : Int) : Int := if clV c = 0 then 2 else if clB (flo (clV a * clV b) (clV c)) = true then 3 else 0
end Go.Proofs.Ythibaehiponfnaa
