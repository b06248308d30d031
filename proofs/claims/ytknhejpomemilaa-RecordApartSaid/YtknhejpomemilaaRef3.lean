/- The document's answers of stage 3: what each function of pinchcockref03 answers. -/
import Derived.Test.YtknhejpomemilaaTakes
import Derived.Test.YtknhejpomemilaaSatLaws
namespace Go.Proofs.Ytknhejpomemilaa
set_option maxRecDepth 100000
open Go.RowKit Ieee
set_option linter.unusedVariables false
set_option linter.unusedSimpArgs false
attribute [local go_sem] o_eql o_neq o_lss o_gtr

theorem down_cases {x : Nat} (hf : finB x = true) (hm : mg x ≤ 9007199254740992 * S) :
    ∃ q Q, floatToIntVal .f64 x .i64 = some q ∧ floatOfInt .f64 q = Q ∧ -9007199254740992 ≤ q ∧ q ≤ 9007199254740992 ∧
      ((ltF x Q = true ∧ flR (V x) = q - 1) ∨ (ltF x Q = false ∧ flR (V x) = q)) := by
  have h := toInt_val hf hm
  have hb : mg x / S ≤ 9007199254740992 := Nat.div_le_of_le_mul (by rw [Nat.mul_comm]; exact hm)
  have hd := Nat.div_add_mod (mg x) S
  have hr := Nat.mod_lt (mg x) S_pos
  have hV := V_mg x
  have hp := S_pos
  generalize mg x / S = m, mg x % S = r at *
  generalize mg x = M at *
  have hq : -9007199254740992 ≤ sn (sgn x) m ∧ sn (sgn x) m ≤ 9007199254740992 := by unfold sn; split <;> omega
  obtain ⟨v, f, n⟩ := ofInt_V hq.1 hq.2
  refine ⟨_, _, h, rfl, hq.1, hq.2, ?_⟩
  unfold ltF
  rw [n, v, fin_nan hf]
  simp only [Bool.not_false, Bool.true_and, decide_eq_true_eq, decide_eq_false_iff_not]
  subst hd
  rw [hV]
  unfold flR
  cases sgn x
  · right
    have e := div_unique (v := sn false (S * m + r)) (q := m) (r := r) (by simp only [sn, Bool.false_eq_true, if_false]; push_cast; rfl) (by omega) (by omega)
    refine ⟨?_, e.1⟩
    simp only [sn, Bool.false_eq_true, if_false]; push_cast; rw [Int.mul_comm (m : Int)]; omega
  · by_cases h0 : r = 0
    · right
      subst h0
      have e := div_unique (v := sn true (S * m + 0)) (q := -m) (r := 0) (by simp only [sn, if_true]; push_cast; rw [Int.mul_neg]; omega) (by omega) SZ
      refine ⟨?_, e.1⟩
      simp only [sn, if_true]; push_cast; rw [Int.neg_mul, Int.mul_comm (m : Int)]; omega
    · left
      have e := div_unique (v := sn true (S * m + r)) (q := -((m + 1 : Nat) : Int)) (r := S - r) (by simp only [sn, if_true]; push_cast; rw [Int.mul_neg, Int.mul_add]; omega) (by omega) (by omega)
      refine ⟨?_, ?_⟩
      · simp only [sn, if_true]; push_cast; rw [Int.neg_mul, Int.mul_comm (m : Int)]; omega
      · rw [e.1]; simp only [sn, if_true]; omega

theorem nears {x : Nat} {lo hi : Int} (h1 : nanB x = false) (h4 : ¬ V x < clV lo * S) (h5 : ¬ hiV lo hi * S < V x) :
    ∃ N w, floatOfInt .f64 (flR (V x)) = N ∧ floatBits .sub .f64 x N = some w ∧
      ((ltF 4602678819172646912 w = true ∧ nrR (V x) = flR (V x) + 1) ∨
       (ltF 4602678819172646912 w = false ∧ eqF w 4602678819172646912 = true ∧ flR (V x) % 2 = 1 ∧ nrR (V x) = flR (V x) + 1) ∨
       (ltF 4602678819172646912 w = false ∧ eqF w 4602678819172646912 = true ∧ flR (V x) % 2 = 0 ∧ nrR (V x) = flR (V x)) ∨
       (ltF 4602678819172646912 w = false ∧ eqF w 4602678819172646912 = false ∧ nrR (V x) = flR (V x))) := by
  obtain ⟨hf, hm⟩ := tk_fin h1 h4 h5
  have a := clV_bd lo
  have b := hi_bd lo hi
  have hb := flR_facts (v := V x) (l := clV lo) (h := hiV lo hi) (by omega) (by omega)
  obtain ⟨v, f, n⟩ := ofInt_V (n := flR (V x)) (by omega) (by omega)
  obtain ⟨w, e1, e2, e3⟩ := near_test hf f v
  refine ⟨_, w, rfl, e1, ?_⟩
  unfold ltF eqF
  rw [half_nan, half_V, e2]
  unfold flR nrR at *
  simp only [Bool.not_false, Bool.true_and, decide_eq_true_eq, decide_eq_false_iff_not]
  have hh := S2
  have hz := HZ
  rcases Int.lt_trichotomy (V w) HALF with k | k | k
  · right; right; right
    exact ⟨by omega, by omega, if_neg (by omega)⟩
  · by_cases o : V x / S % 2 = 1
    · right; left
      exact ⟨by omega, by omega, o, if_pos (by omega)⟩
    · right; right; left
      exact ⟨by omega, by omega, by omega, if_neg (by omega)⟩
  · left
    exact ⟨by omega, if_pos (by omega)⟩

theorem tmod2_odd {n : Int} (h : n % 2 = 1) : (n.tmod 2 == 0) = false ∧ (n.tmod 2 != 0) = true := by
  have : n.tmod 2 ≠ 0 := fun hz => by
    have := Int.emod_eq_zero_of_dvd (Int.dvd_of_tmod_eq_zero hz)
    omega
  simp [this]
theorem tmod2_even {n : Int} (h : n % 2 = 0) : (n.tmod 2 == 0) = true ∧ (n.tmod 2 != 0) = false := by
  have : n.tmod 2 = 0 := Int.tmod_eq_zero_of_dvd (Int.dvd_of_emod_eq_zero h)
  simp [this]

theorem nan_kd (x : Nat) : (kdV x == 1) = nanB x := by
  rcases kinds x with h | h | h | h | h | h <;> simp [h]

theorem od_le0 (a b : Nat) : (decide (odV a b ≤ 0)) = decide (key a ≤ key b) := by
  unfold odV; split <;> (try split) <;> simp <;> omega
noncomputable def rmV (a b c : Nat) : Nat :=
  if key b < key a then (if key a ≤ key c then a else if key b ≤ key c then c else b) else (if key b ≤ key c then b else if key a ≤ key c then c else a)
theorem mids_same (a b c : Nat) : key (midV a b c) = key (rmV a b c) := by
  unfold midV rmV
  repeat' split
  all_goals first | rfl | omega
end Go.Proofs.Ytknhejpomemilaa
