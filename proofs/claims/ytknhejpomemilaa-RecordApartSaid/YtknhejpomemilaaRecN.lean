/- What is taken of a real number within 0 and a limit; of whole ones; of constants. Structs with real numbers, compared. Boxes of seven and eight cells. -/
import Derived.Test.YtknhejpomemilaaRec
namespace Go.Proofs.Ytknhejpomemilaa
set_option maxRecDepth 100000
open Go.RowKit Ieee
set_option linter.unusedVariables false
set_option linter.unusedSimpArgs false

theorem cl0 : clV 0 = 0 := by decide +kernel
theorem hi0 {hi : Int} (h0 : 0 ≤ hi) (h1 : hi ≤ 9007199254740992) : hiV 0 hi = hi := by
  unfold hiV
  rw [cl0, clV_in (n := hi) (by omega), if_neg (by omega)]
theorem tk_in (x : Nat) {hi : Int} (h0 : 0 ≤ hi) (h1 : hi ≤ 9007199254740992) : 0 ≤ tkV x 0 hi ∧ tkV x 0 hi ≤ hi := by
  unfold tkV
  rw [cl0, hi0 h0 h1]
  split
  · omega
  · split
    · omega
    · split
      · omega
      · obtain ⟨a, b, _⟩ := flR_facts (v := V x) (l := 0) (h := hi) (by omega) (by omega)
        exact ⟨a, b⟩
theorem tk_at {x : Nat} {n hi : Int} (h0 : 0 ≤ n) (h1 : n ≤ hi) (h2 : hi ≤ 9007199254740992) (hn : nanB x = false) (l : n * S ≤ V x) (u : V x < (n + 1) * S) (t : V x ≤ hi * S) : tkV x 0 hi = n ∧ tkB x 0 hi = false := by
  have hs := SZ
  have hp : 0 ≤ n * (S : Int) := Int.mul_nonneg h0 (Int.le_of_lt hs)
  unfold tkV tkB
  rw [cl0, hi0 (by omega) h2, hn, Int.zero_mul]
  simp only [Bool.false_eq_true, if_false, Bool.false_or]
  rw [if_neg (by omega), if_neg (by omega), decide_eq_false (by omega), decide_eq_false (by omega)]
  refine ⟨?_, rfl⟩
  unfold flR
  have a := (Int.le_ediv_iff_mul_le (a := n) (b := V x) hs).2 l
  have b := (Int.ediv_lt_iff_lt_mul (a := V x) (b := n + 1) hs).2 u
  omega
theorem tk_int {n hi : Int} (h0 : 0 ≤ n) (h1 : n ≤ hi) (h2 : hi ≤ 9007199254740992) : tkV (floatOfInt .f64 n) 0 hi = n ∧ tkB (floatOfInt .f64 n) 0 hi = false := by
  obtain ⟨v, f, k⟩ := ofInt_V (n := n) (by omega) (by omega)
  have hs := SZ
  refine tk_at h0 h1 h2 k (by omega) (by rw [v, Int.add_mul]; omega) ?_
  rw [v]
  exact Int.mul_le_mul_of_nonneg_right h1 (Int.le_of_lt hs)
theorem V_pos {x : Nat} (h : sgn x = false) : V x = mgR (rg x) := by rw [V_mg, h]; rfl
theorem mg_int {n : Int} (h0 : 0 ≤ n) (h1 : n ≤ 9007199254740992) : (mgR (rg (floatOfInt .f64 n)) : Int) = n * S := by
  obtain ⟨v, f, k⟩ := ofInt_V (n := n) (by omega) h1
  have a := V_abs (floatOfInt .f64 n)
  rw [v] at a
  have hp : 0 ≤ n * (S : Int) := Int.mul_nonneg h0 (Int.le_of_lt SZ)
  have : mg (floatOfInt .f64 n) = mgR (rg (floatOfInt .f64 n)) := rfl
  omega
theorem tk_const {x : Nat} {n hi : Int} (h0 : 0 ≤ n) (h1 : n + 1 ≤ hi) (h2 : hi ≤ 9007199254740992) (hn : nanB x = false) (hs : sgn x = false) (l : rg (floatOfInt .f64 n) ≤ rg x) (u : rg x < rg (floatOfInt .f64 (n + 1))) :
    tkV x 0 hi = n ∧ tkB x 0 hi = false := by
  have a := mgR_le l
  have b := mgR_lt u
  have c := mg_int h0 (by omega)
  have d := mg_int (n := n + 1) (by omega) (by omega)
  refine tk_at h0 (by omega) h2 hn (by rw [V_pos hs]; omega) (by rw [V_pos hs]; omega) ?_
  rw [V_pos hs]
  have := Int.mul_le_mul_of_nonneg_right h1 (Int.le_of_lt SZ)
  omega
theorem tk_above {x : Nat} {hi : Int} (h0 : 0 ≤ hi) (h2 : hi ≤ 9007199254740992) (hn : nanB x = false) (hs : sgn x = false) (l : rg (floatOfInt .f64 hi) < rg x) : tkV x 0 hi = hi ∧ tkB x 0 hi = true := by
  have a := mgR_lt l
  have c := mg_int h0 h2
  have hp : 0 ≤ hi * (S : Int) := Int.mul_nonneg h0 (Int.le_of_lt SZ)
  have v := V_pos hs
  unfold tkV tkB
  rw [cl0, hi0 h0 h2, hn, Int.zero_mul, if_neg (by simp), if_neg (by omega), if_pos (by omega)]
  refine ⟨rfl, ?_⟩
  simp
  omega
theorem tk_below {x : Nat} {hi : Int} (h0 : 0 ≤ hi) (h2 : hi ≤ 9007199254740992) (hn : nanB x = false) (hs : sgn x = true) (l : 0 < rg x) : tkV x 0 hi = 0 ∧ tkB x 0 hi = true := by
  have a := mgR_pos l
  have v : V x = -(mgR (rg x) : Int) := by rw [V_mg, hs]; rfl
  unfold tkV tkB
  rw [cl0, hi0 h0 h2, hn, Int.zero_mul, if_neg (by simp), if_pos (by omega)]
  refine ⟨rfl, ?_⟩
  simp
  omega
theorem tk_nan {x : Nat} {hi : Int} (hn : nanB x = true) : tkV x 0 hi = 0 ∧ tkB x 0 hi = true := by
  unfold tkV tkB
  rw [hn, cl0]
  simp

theorem nan_int (n : Int) : nanB (floatOfInt .f64 n) = false := by
  have e : floatOfInt .f64 n = double.word (decide (n < 0)) (rung (n.natAbs * 2 ^ (K + 1))) := by
    show double.nearest (decide (n < 0)) n.natAbs 0 = _
    have := nearest_eq (decide (n < 0)) n.natAbs (K + 1)
    rw [show ((-1074 : Int) + ((K + 1 : Nat) : Int)) = 0 by rw [K_eq]; omega] at this
    exact this
  have hg := rg_word (decide (n < 0)) (rung_lt63 (n.natAbs * 2 ^ (K + 1)))
  have := rung_inf (n.natAbs * 2 ^ (K + 1))
  unfold nanB
  rw [e, hg]
  exact decide_eq_false (by omega)

/-- '==' of real numbers inside a struct. -/
theorem run_equalIn_real {P : Program} (w : World) (d : Nat) (t : TypeId) (k' : FloatKind) (a b : Nat) (h : P.underlying t = some (.float k')) : (Op.equalIn (d + 1) t (.float .f64 a) (.float .f64 b)).run P w = .ok (eqF a b) w := by
  simp only [Op.equalIn, Sem.run_bind, run_underlying h, Result.andThen_ok, if_true, Sem.run_pure]
  rw [show Op.floatEq .f64 a b = eqF a b from o_eq a b]

section
variable {w : World} {g : Nat} {v0 v1 v2 v3 v4 v5 v6 v7 : Value}
theorem Box.seven (h : Box w g #[v0, v1, v2, v3, v4, v5, v6]) : w.cell? ⟨g, 0, none⟩ = some v0 ∧ w.cell? ⟨g, 1, none⟩ = some v1 ∧ w.cell? ⟨g, 2, none⟩ = some v2 ∧ w.cell? ⟨g, 3, none⟩ = some v3 ∧ w.cell? ⟨g, 4, none⟩ = some v4 ∧
    w.cell? ⟨g, 5, none⟩ = some v5 ∧ w.cell? ⟨g, 6, none⟩ = some v6 ∧ (∀ i, w.frozen? ⟨g, i, none⟩ = false) ∧ g < w.heap.size := ⟨h.2.1 0, h.2.1 1, h.2.1 2, h.2.1 3, h.2.1 4, h.2.1 5, h.2.1 6, h.2.2, h.1⟩
theorem Box.eight (h : Box w g #[v0, v1, v2, v3, v4, v5, v6, v7]) : w.cell? ⟨g, 0, none⟩ = some v0 ∧ w.cell? ⟨g, 1, none⟩ = some v1 ∧ w.cell? ⟨g, 2, none⟩ = some v2 ∧ w.cell? ⟨g, 3, none⟩ = some v3 ∧ w.cell? ⟨g, 4, none⟩ = some v4 ∧
    w.cell? ⟨g, 5, none⟩ = some v5 ∧ w.cell? ⟨g, 6, none⟩ = some v6 ∧ w.cell? ⟨g, 7, none⟩ = some v7 ∧ (∀ i, w.frozen? ⟨g, i, none⟩ = false) ∧ g < w.heap.size := ⟨h.2.1 0, h.2.1 1, h.2.1 2, h.2.1 3, h.2.1 4, h.2.1 5, h.2.1 6, h.2.1 7, h.2.2, h.1⟩
end
end Go.Proofs.Ytknhejpomemilaa
