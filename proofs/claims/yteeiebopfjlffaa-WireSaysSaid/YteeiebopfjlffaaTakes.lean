/- Contracts of package reals, second half: Mid, within, Take, Near. -/
import Derived.Test.YteeiebopfjlffaaReals
namespace Go.Proofs.Yteeiebopfjlffaa
set_option maxRecDepth 100000
open Go.RowKit Ieee
set_option linter.unusedVariables false
set_option linter.unusedSimpArgs false
attribute [local go_sem] o_eql o_neq o_lss o_gtr

theorem ret_f {a b : Nat} (h : a = b) : Ending.returned (.float .f64 a) = Ending.returned (.float .f64 b) := by rw [h]

theorem to_whole (name : String) (way : Toward) (x : Nat) (h : ∀ s t, FloatKind.f64.decode x ≠ .nan s t) :
    Extern.MathFloor.toIntegral name way #[.float .f64 x] = pure (.float .f64 (FloatKind.f64.encode ((FloatKind.f64.decode x).integral way))) := by
  change (match FloatKind.f64.decode x with | .nan s t => _ | d => _) = _
  generalize FloatKind.f64.decode x = d at *
  cases d with
  | nan s t => exact absurd rfl (h s t)
  | number => rfl
  | infinity => rfl
theorem hi_bd (lo hi : Int) : clV lo ≤ hiV lo hi ∧ -9007199254740992 ≤ hiV lo hi ∧ hiV lo hi ≤ 9007199254740992 := by
  have := clV_bd lo
  have := clV_bd hi
  unfold hiV; split <;> omega
theorem tk_fin {x : Nat} {lo hi : Int} (h1 : nanB x = false) (h2 : ¬ V x < clV lo * S) (h3 : ¬ hiV lo hi * S < V x) : finB x = true ∧ mg x ≤ 9007199254740992 * S := by
  have a := clV_bd lo
  have b := hi_bd lo hi
  have hs := SZ
  have c1 : -9007199254740992 * (S : Int) ≤ clV lo * S := Int.mul_le_mul_of_nonneg_right a.1 (Int.le_of_lt hs)
  have c2 : hiV lo hi * (S : Int) ≤ 9007199254740992 * S := Int.mul_le_mul_of_nonneg_right b.2.2 (Int.le_of_lt hs)
  have hm : mg x ≤ 9007199254740992 * S := by
    have := V_abs x
    omega
  refine ⟨?_, hm⟩
  have h' : rg x ≤ 9218868437227405312 := by simpa [nanB] using h1
  unfold finB
  rw [decide_eq_true_eq]
  rcases Nat.lt_or_ge (rg x) 9218868437227405312 with c | c
  · exact c
  · exfalso
    obtain ⟨r, hr, hm2⟩ := whole_rung (c := 9007199254740992) (by omega)
    rw [← hm2] at hm
    have := mgR_le_iff.1 hm
    omega

/-- What the call of a rounding function inside 'within' hands on: a word and its whole number. -/
theorem int_down {x : Nat} {lo hi : Int} (h1 : nanB x = false) (h2 : ¬ V x < clV lo * S) (h3 : ¬ hiV lo hi * S < V x) :
    ∃ y, double.write ((double.read x).integral .down) = y ∧ floatToIntVal .f64 y .i64 = some (flR (V x)) := by
  obtain ⟨hf, hm⟩ := tk_fin h1 h2 h3
  have a := clV_bd lo
  have b := hi_bd lo hi
  have hw : sn (sgn x) (wholeN .down x) = flR (V x) := fl_eq x
  have hb := flR_facts (v := V x) (l := clV lo) (h := hiV lo hi) (by omega) (by omega)
  have hn : wholeN .down x ≤ 9007199254740992 := by
    unfold sn at hw; split at hw <;> omega
  obtain ⟨y, e, f, g, m⟩ := whole_word .down hf hn
  refine ⟨y, e, ?_⟩
  rw [toInt_val f (by rw [m]; exact Nat.mul_le_mul_right _ hn), m, g, Nat.mul_div_cancel _ S_pos, hw]
theorem int_even {x : Nat} {lo hi : Int} (h1 : nanB x = false) (h2 : ¬ V x < clV lo * S) (h3 : ¬ hiV lo hi * S < V x) :
    ∃ y, double.write ((double.read x).integral .even) = y ∧ floatToIntVal .f64 y .i64 = some (nrR (V x)) := by
  obtain ⟨hf, hm⟩ := tk_fin h1 h2 h3
  have a := clV_bd lo
  have b := hi_bd lo hi
  have hw : sn (sgn x) (wholeN .even x) = nrR (V x) := nr_eq x
  have hb := nrR_facts (v := V x) (l := clV lo) (h := hiV lo hi) (by omega) (by omega)
  have hn : wholeN .even x ≤ 9007199254740992 := by
    unfold sn at hw; split at hw <;> omega
  obtain ⟨y, e, f, g, m⟩ := whole_word .even hf hn
  refine ⟨y, e, ?_⟩
  rw [toInt_val f (by rw [m]; exact Nat.mul_le_mul_right _ hn), m, g, Nat.mul_div_cancel _ S_pos, hw]

/-- The ways of a take. -/
theorem takes (x : Nat) (lo hi : Int) :
    ∃ L H, floatOfInt .f64 (clV lo) = L ∧ floatOfInt .f64 (hiV lo hi) = H ∧
      ((nanB x = true ∧ tkB x lo hi = true ∧ tkV x lo hi = clV lo ∧ nrV3 x lo hi = clV lo) ∨
       (nanB x = false ∧ ltF x L = true ∧ tkB x lo hi = true ∧ tkV x lo hi = clV lo ∧ nrV3 x lo hi = clV lo) ∨
       (nanB x = false ∧ ltF x L = false ∧ ltF H x = true ∧ tkB x lo hi = true ∧ tkV x lo hi = hiV lo hi ∧ nrV3 x lo hi = hiV lo hi) ∨
       (nanB x = false ∧ ltF x L = false ∧ ltF H x = false ∧ tkB x lo hi = false ∧ tkV x lo hi = flR (V x) ∧ nrV3 x lo hi = nrR (V x) ∧ ¬ V x < clV lo * S ∧ ¬ hiV lo hi * S < V x)) := by
  have a := clV_bd lo
  have b := hi_bd lo hi
  obtain ⟨v1, f1, n1⟩ := ofInt_V a.1 a.2
  obtain ⟨v2, f2, n2⟩ := ofInt_V b.2.1 b.2.2
  refine ⟨_, _, rfl, rfl, ?_⟩
  unfold ltF tkB tkV nrV3
  rw [n1, n2, v1, v2]
  cases hn : nanB x
  · by_cases h2 : V x < clV lo * S
    · simp [h2]
    · by_cases h3 : hiV lo hi * S < V x
      · simp [h2, h3]
      · simp only [h2, h3, if_false]
        simp
  · simp

end Go.Proofs.Yteeiebopfjlffaa
