/- Sums of real numbers, and parts of a whole: a whole number and less than one, added, is taken as the whole number. -/
import Derived.Test.YtbiagohlpdpobaaRecN
namespace Go.Proofs.Ytbiagohlpdpobaa
open Go.RowKit Ieee
set_option linter.unusedVariables false

theorem add_fin {x y : Nat} (hx : finB x = true) (hy : finB y = true) :
    ∃ s w, double.add x y = some w ∧ w = double.word s (rung (V x + V y).natAbs) ∧ (s = true → V x + V y ≤ 0) := by
  have cx : rg x < 9218868437227405312 := by simpa [finB] using hx
  have cy : rg y < 9218868437227405312 := by simpa [finB] using hy
  unfold Format.add
  rw [read_fin cx, read_fin cy]
  simp only [Datum.sum, Option.map_some]
  unfold V mgR
  generalize ex (rg x) = a, ex (rg y) = b, sig (rg x) = m, sig (rg y) = n
  have e1 : (((-1074 : Int) + (a : Int)) - min ((-1074 : Int) + (a : Int)) (-1074 + (b : Int))).toNat = a - min a b := by omega
  have e2 : (((-1074 : Int) + (b : Int)) - min ((-1074 : Int) + (a : Int)) (-1074 + (b : Int))).toNat = b - min a b := by omega
  have e3 : min ((-1074 : Int) + (a : Int)) (-1074 + (b : Int)) = -1074 + ((min a b : Nat) : Int) := by omega
  rw [e1, e2, e3, signed_eq, signed_eq]
  have p1 : m * 2 ^ a = m * 2 ^ (a - min a b) * 2 ^ (min a b) := by rw [Nat.mul_assoc, ← Nat.pow_add]; congr 2; omega
  have p2 : n * 2 ^ b = n * 2 ^ (b - min a b) * 2 ^ (min a b) := by rw [Nat.mul_assoc, ← Nat.pow_add]; congr 2; omega
  have hD : sn (sgn x) (m * 2 ^ a) + sn (sgn y) (n * 2 ^ b) = (sn (sgn x) (m * 2 ^ (a - min a b)) + sn (sgn y) (n * 2 ^ (b - min a b))) * ((2 ^ min a b : Nat) : Int) := by
    rw [p1, p2, sn_mul _ (m * 2 ^ (a - min a b)), sn_mul _ (n * 2 ^ (b - min a b)), Int.add_mul]
  rw [hD]
  generalize sn (sgn x) (m * 2 ^ (a - min a b)) + sn (sgn y) (n * 2 ^ (b - min a b)) = T
  have hp : 0 < ((2 ^ min a b : Nat) : Int) := by exact_mod_cast Nat.two_pow_pos _
  refine ⟨(if T = 0 then (sgn x && sgn y) else decide (T < 0)), _, rfl, ?_, ?_⟩
  · show double.nearest _ _ _ = _
    rw [nearest_eq, Int.natAbs_mul, Int.natAbs_natCast]
  · intro h
    have : T ≤ 0 := by
      split at h
      · omega
      · have := of_decide_eq_true h; omega
    exact Int.mul_nonpos_of_nonpos_of_nonneg this (Int.le_of_lt hp)

theorem part_mg : mgR 4607173622706995200 = 1023 * 2 ^ (K - 9) := by
  rw [show (4607173622706995200 : Nat) = (K - 52) * 4503599627370496 + 8998403161718784 by rw [K_eq], mgR_at (K - 52) 8998403161718784 (by omega) (by omega)]
  rw [show (8998403161718784 : Nat) = 1023 * 2 ^ 43 by decide +kernel, Nat.mul_assoc, ← Nat.pow_add, show 43 + (K - 52) = K - 9 by rw [K_eq]]
theorem S_part : S = 1024 * 2 ^ (K - 9) := by
  rw [← S_two, show (1024 : Nat) = 2 ^ 10 from rfl, ← Nat.pow_add, show 10 + (K - 9) = K + 1 by rw [K_eq]]

/-- A whole number and less than one. -/
theorem add_part {n hi : Int} {y : Nat} (h0 : 0 ≤ n) (h1 : n + 1 ≤ hi) (h2 : hi ≤ 100000) (hs : sgn y = false) (hy : rg y ≤ 4607173622706995200) :
    ∃ w, floatBits .add .f64 (floatOfInt .f64 n) y = some w ∧ tkV w 0 hi = n ∧ tkB w 0 hi = false := by
  obtain ⟨v, f, k⟩ := ofInt_V (n := n) (by omega) (by omega)
  have hf : finB y = true := by unfold finB; exact decide_eq_true (by omega)
  obtain ⟨s, w, e1, e2, e3⟩ := add_fin f hf
  have vy := V_pos hs
  have hy2 := mgR_le hy
  rw [part_mg] at hy2
  have hsp := S_part
  obtain ⟨N, rfl⟩ := Int.eq_ofNat_of_zero_le h0
  have hsum : (V (floatOfInt .f64 (N : Int)) + V y).natAbs = N * S + mgR (rg y) := by
    rw [v, vy]
    have : ((N : Int) * (S : Int)) = ((N * S : Nat) : Int) := by push_cast; rfl
    rw [this]
    omega
  rw [hsum] at e2
  have hsig : s = false ∨ N * S + mgR (rg y) = 0 := by
    cases s
    · exact .inl rfl
    · right
      have := e3 rfl
      rw [v, vy] at this
      have h5 : ((N : Int) * (S : Int)) = ((N * S : Nat) : Int) := by push_cast; rfl
      rw [h5] at this
      omega
  obtain ⟨r0, q0, q1⟩ := whole_rung (c := N) (by omega)
  obtain ⟨r1, q2, q3⟩ := rep (k := N * 1024 + 1023) (t := K - 9) (by omega) (by rw [K_eq]; omega)
  have hub : N * S + mgR (rg y) ≤ mgR r1 := by
    rw [q3, hsp, Nat.add_mul, Nat.mul_assoc]
    omega
  have hrl : r0 ≤ rung (N * S + mgR (rg y)) := by
    rcases Nat.eq_zero_or_pos r0 with z | z
    · omega
    · exact le_rung (by omega) (by rw [q1]; omega)
  have hru : rung (N * S + mgR (rg y)) ≤ r1 := rung_le hub
  have hg := rg_word s (rung_lt63 (N * S + mgR (rg y)))
  have hw := sgn_word s (rung_lt63 (N * S + mgR (rg y)))
  rw [← e2] at hg hw
  have m0 := mgR_le hrl
  have m1 := mgR_le hru
  have hVw : V w = mgR (rung (N * S + mgR (rg y))) := by
    rw [V_mg w]
    unfold mg
    rw [hg, hw]
    rcases hsig with rfl | hz
    · rfl
    · have : mgR (rung (N * S + mgR (rg y))) = 0 := by rw [hz]; decide +kernel
      rw [this]
      cases s <;> rfl
  have hlt : mgR r1 < (N + 1) * S := by
    rw [q3, hsp, Nat.add_mul, Nat.add_mul, Nat.mul_assoc]
    have := Nat.two_pow_pos (K - 9)
    omega
  have c1 : ((N * S : Nat) : Int) = (N : Int) * S := by push_cast; rfl
  have c2 : (((N + 1) * S : Nat) : Int) = ((N : Int) + 1) * S := by push_cast; rfl
  have hn : nanB w = false := by
    unfold nanB
    rw [hg]
    exact decide_eq_false (by omega)
  have := Int.mul_le_mul_of_nonneg_right h1 (Int.le_of_lt SZ)
  exact ⟨w, e1, tk_at h0 (by omega) (by omega) hn (by rw [hVw, ← c1]; omega) (by rw [hVw, ← c2]; omega) (by rw [hVw]; omega)⟩

/-- The thousandths. -/
def partOk (k : Nat) : Bool := match floatBits .quo .f64 (floatOfInt .f64 (k : Int)) 4652007308841189376 with
  | some y => !sgn y && decide (rg y ≤ 4607173622706995200)
  | none => false
theorem parts_ok : ∀ k, k < 1000 → partOk k = true := by decide +kernel
theorem part_at {k : Nat} (h : k < 1000) : ∃ y, floatBits .quo .f64 (floatOfInt .f64 (k : Int)) 4652007308841189376 = some y ∧ sgn y = false ∧ rg y ≤ 4607173622706995200 := by
  have := parts_ok k h
  unfold partOk at this
  split at this
  · rename_i y hy
    simp at this
    exact ⟨y, hy, this.1, this.2⟩
  · cases this
end Go.Proofs.Ytbiagohlpdpobaa
