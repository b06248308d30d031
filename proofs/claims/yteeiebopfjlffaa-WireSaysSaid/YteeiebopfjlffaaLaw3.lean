/- The law package's own check 'awake' of stage 3. -/
import Derived.Test.YteeiebopfjlffaaRef3
import Derived.Test.YteeiebopfjlffaaAt
namespace Go.Proofs.Yteeiebopfjlffaa
set_option maxRecDepth 100000
open Go.RowKit Ieee
set_option linter.unusedVariables false
set_option linter.unusedSimpArgs false
attribute [local go_sem] o_eql o_neq o_lss o_gtr

theorem cl_small {n : Int} (h : -9 ≤ n) (h2 : n ≤ 9) : clV n = n := by
  unfold clV withV; split <;> (try split) <;> (try split) <;> omega
theorem hi_small {lo hi : Int} (h : -9 ≤ lo) (h1 : lo ≤ hi) (h2 : hi ≤ 9) : hiV lo hi = hi := by
  unfold hiV; rw [cl_small (n := lo) (by omega) (by omega), cl_small (n := hi) (by omega) (by omega)]; split <;> omega

theorem t_nan {x : Nat} (h : nanB x = true) : tkV x 0 9 = 0 ∧ tkB x 0 9 = true := by
  unfold tkV tkB
  rw [h, cl_small (n := 0) (by omega) (by omega)]
  simp
theorem t_in {x : Nat} {lo hi : Int} (h : nanB x = false) (a : -9 ≤ lo) (b : lo ≤ hi) (c : hi ≤ 9) (h1 : lo * S ≤ V x) (h2 : V x ≤ hi * S) :
    tkV x lo hi = flR (V x) ∧ nrV3 x lo hi = nrR (V x) ∧ tkB x lo hi = false := by
  unfold tkV tkB nrV3
  rw [h, cl_small (n := lo) (by omega) (by omega), hi_small a b c]
  simp only [Bool.false_eq_true, if_false, Bool.false_or]
  rw [if_neg (by omega), if_neg (by omega), if_neg (by omega), if_neg (by omega)]
  simp
  omega
theorem flR_zero : flR 0 = 0 := (div_unique (q := 0) (r := 0) (by omega) (by omega) SZ).1
theorem t_minus : tkV 9223372036854775808 0 9 = 0 ∧ tkB 9223372036854775808 0 9 = false := by
  have hv : V 9223372036854775808 = 0 := zero_V.2 (by decide +kernel)
  have := SZ
  have h := t_in (x := 9223372036854775808) (lo := 0) (hi := 9) (by decide +kernel) (by omega) (by omega) (by omega) (by omega) (by omega)
  rw [hv, flR_zero] at h
  exact ⟨h.1, h.2.2⟩
theorem inf_big : 9 * (S : Int) < V 9218868437227405312 := by
  obtain ⟨r, hr, hm⟩ := whole_rung (c := 9) (by omega)
  have h1 : sgn 9218868437227405312 = false := by decide +kernel
  have h2 : rg 9218868437227405312 = 9218868437227405312 := by decide +kernel
  unfold V
  rw [h1, h2]
  have := mgR_lt hr
  rw [hm] at this
  unfold sn
  simp only [Bool.false_eq_true, if_false]
  omega
theorem t_inf : tkV 9218868437227405312 0 9 = 9 ∧ tkB 9218868437227405312 0 9 = true := by
  have hb := inf_big
  have hz := SZ
  have hn : nanB 9218868437227405312 = false := by decide +kernel
  unfold tkV tkB
  rw [hn, cl_small (n := 0) (by omega) (by omega), hi_small (by omega) (by omega) (by omega)]
  simp only [Bool.false_eq_true, if_false, Bool.false_or]
  rw [if_neg (by omega), if_pos hb]
  simp [hb]
theorem V_of {x r k t : Nat} {s : Bool} {m : Nat} (h1 : sgn x = s) (h2 : rg x = (t - 51) * 4503599627370496 + m) (h3 : m ≤ 9007199254740992) (h4 : 4503599627370496 ≤ m) : V x = sn s (m * 2 ^ (t - 51)) := by
  unfold V
  rw [h1, h2, mgR_at _ _ h3 (Or.inr h4)]
theorem V_25 : V 4612811918334230528 = 5 * (HALF : Int) := by
  have h := V_of (x := 4612811918334230528) (r := 0) (k := 0) (s := false) (t := K + 1) (m := 5 * 2 ^ 50) (by decide +kernel) (by rw [K_eq]; decide +kernel) (by omega) (by omega)
  rw [h, Nat.mul_assoc, ← Nat.pow_add, show 50 + (K + 1 - 51) = K by rw [K_eq]]
  rfl
theorem V_m15 : V 13832806255468478464 = -(3 * (HALF : Int)) := by
  have h := V_of (x := 13832806255468478464) (r := 0) (k := 0) (s := true) (t := K) (m := 3 * 2 ^ 51) (by decide +kernel) (by rw [K_eq]; decide +kernel) (by omega) (by omega)
  rw [h, Nat.mul_assoc, ← Nat.pow_add, show 51 + (K - 51) = K by rw [K_eq]]
  rfl
theorem n_25 : nrV3 4612811918334230528 0 9 = 2 ∧ tkB 4612811918334230528 0 9 = false := by
  have hh := S2
  have hz := HZ
  have h := t_in (x := 4612811918334230528) (lo := 0) (hi := 9) (by decide +kernel) (by omega) (by omega) (by omega) (by rw [V_25]; omega) (by rw [V_25]; omega)
  refine ⟨h.2.1.trans ?_, h.2.2⟩
  rw [V_25]
  have d := div_unique (v := 5 * (HALF : Int)) (q := 2) (r := HALF) (by omega) (by omega) (by omega)
  unfold nrR
  rw [d.1, d.2, if_neg (by omega)]
theorem t_m15 : tkV 13832806255468478464 (-9) 9 = -2 ∧ tkB 13832806255468478464 (-9) 9 = false := by
  have hh := S2
  have hz := HZ
  have h := t_in (x := 13832806255468478464) (lo := -9) (hi := 9) (by decide +kernel) (by omega) (by omega) (by omega) (by rw [V_m15]; omega) (by rw [V_m15]; omega)
  refine ⟨h.1.trans ?_, h.2.2⟩
  rw [V_m15]
  exact (div_unique (v := -(3 * (HALF : Int))) (q := -2) (r := HALF) (by omega) (by omega) (by omega)).1
theorem o_nan {x : Nat} (h : nanB x = true) : odV x 9218868437227405312 = 1 := by
  have hn : nanB 9218868437227405312 = false := by decide +kernel
  have := V_bd hn
  unfold odV key
  rw [h, hn]
  simp only [if_true, Bool.false_eq_true, if_false]
  rw [if_neg (by split <;> omega), if_pos (by split <;> omega)]
theorem key_3 : key 4613937818241073152 = 6 * (HALF : Int) * 2 ∧ key 4607182418800017408 = 2 * (HALF : Int) * 2 := by
  have h := V_of (x := 4613937818241073152) (r := 0) (k := 0) (s := false) (t := K + 1) (m := 3 * 2 ^ 51) (by decide +kernel) (by rw [K_eq]; decide +kernel) (by omega) (by omega)
  have h1 := V_of (x := 4607182418800017408) (r := 0) (k := 0) (s := false) (t := K) (m := 2 ^ 52) (by decide +kernel) (by rw [K_eq]; decide +kernel) (by omega) (by omega)
  rw [Nat.mul_assoc, ← Nat.pow_add, show 51 + (K + 1 - 51) = K + 1 by rw [K_eq], S_two] at h
  rw [← Nat.pow_add, show 52 + (K - 51) = K + 1 by rw [K_eq], S_two] at h1
  have n1 : nanB 4613937818241073152 = false := by decide +kernel
  have n2 : nanB 4607182418800017408 = false := by decide +kernel
  have r1 : ¬ (rg 4613937818241073152 = 0 ∧ sgn 4613937818241073152 = true) := by decide +kernel
  have r2 : ¬ (rg 4607182418800017408 = 0 ∧ sgn 4607182418800017408 = true) := by decide +kernel
  have hh := S2
  unfold key
  rw [n1, n2, if_neg r1, if_neg r2, h, h1]
  unfold sn
  simp only [Bool.false_eq_true, if_false]
  constructor <;> omega
theorem mid_3 {x : Nat} (h : nanB x = true) : midV 4613937818241073152 x 4607182418800017408 = 4613937818241073152 := by
  obtain ⟨a, b⟩ := key_3
  have hz := HZ
  have n1 : nanB 4613937818241073152 = false := by decide +kernel
  have hb := V_bd n1
  have hk : key x = 2 * (BIG : Int) + 1 := by unfold key; rw [h]; rfl
  have h3 : key 4613937818241073152 ≤ 2 * (BIG : Int) := by unfold key; rw [n1]; simp only [Bool.false_eq_true, if_false]; split <;> omega
  unfold midV
  rw [if_neg (by omega), if_pos (by omega)]
theorem kd_nan {x : Nat} (h : nanB x = true) : kdV x = 1 := by unfold kdV; rw [h]; rfl
theorem kd_inf : kdV 9218868437227405312 = 3 := by decide +kernel
theorem kd_zero : kdV 0 = 5 := by decide +kernel

/-- What no number's bits may be. -/
theorem nan_made (t : Nat) : nanB (Question.cut (.nanBits .f64 0 0) t) = true ∧ Question.cut (.nanBits .f64 0 0) t < 18446744073709551616 := by
  show nanB (t % 2 * 2 ^ 63 + 0x7ff0000000000000 + 1 + t / 2 % (2 ^ 52 - 1)) = true ∧ (t % 2 * 2 ^ 63 + 0x7ff0000000000000 + 1 + t / 2 % (2 ^ 52 - 1) < 18446744073709551616)
  have h1 : t % 2 < 2 := Nat.mod_lt _ (by omega)
  have h2 : t / 2 % (2 ^ 52 - 1) < 2 ^ 52 - 1 := Nat.mod_lt _ (by omega)
  generalize t % 2 = a at *
  generalize t / 2 % (2 ^ 52 - 1) = b at *
  unfold nanB rg
  rw [decide_eq_true_eq]
  omega
theorem run_nan (ty : TypeId) (w : World) : ∃ x, (binOp .quo ty (.float .f64 0) (.float .f64 0)).run Try.prog w = .ok (.float .f64 x) w.drew ∧ nanB x = true ∧ x < 18446744073709551616 := by
  refine ⟨_, ?_, nan_made (w.tape w.drawn (.nanBits .f64 0 0))⟩
  have h : double.div 0 0 = none := by decide +kernel
  simp [binOp, Op.floatArith, fmt64, h, Question.forced]

end Go.Proofs.Yteeiebopfjlffaa
