/- The document's answers of stage 3: what each function of pinchcockref03 answers. -/
import Derived.Test.YteeiebopfjlffaaTakes
import Derived.Test.YteeiebopfjlffaaSatLaws
namespace Go.Proofs.Yteeiebopfjlffaa
set_option maxRecDepth 100000
open Go.RowKit Ieee
set_option linter.unusedVariables false
set_option linter.unusedSimpArgs false
attribute [local go_sem] o_eql o_neq o_lss o_gtr

theorem q_kind (x : Nat) (hx : x < 18446744073709551616) (w : World) : Calls Try.prog 36 #[.float .f64 x] w fun e w' => e = .returned (.int .i64 (kdV x)) ∧ w = w' := by
  have hs := eq_self x
  rcases kinds x with ⟨h1, hk⟩ | ⟨h1, h2, h3, h4, hk⟩ | ⟨h1, h2, h3, h4, h5, hk⟩ | ⟨h1, h2, h3, h4, h5, h6, hk⟩ | ⟨h1, h2, h3, h4, h5, h6, hk⟩ | ⟨h1, h2, h3, h4, h5, h6, hk⟩
  case inr.inr.inr.inr.inl =>
    have e : x = 9223372036854775808 := by
      have := word_of hx
      rw [h5, h6] at this
      rw [← this]; decide +kernel
    subst e
    have hq : ∀ t w, (binOp .quo t (.float .f64 4607182418800017408) (.float .f64 9223372036854775808)).run Try.prog w = .ok (.float .f64 18442240474082181120) w := fun t w => run_float_arith w .quo t .f64 _ _ _ (by decide +kernel)
    have hl : ltF 18442240474082181120 0 = true := by
      unfold ltF
      have a : nanB 18442240474082181120 = false := by decide +kernel
      have b : sgn 18442240474082181120 = true := by decide +kernel
      have c : rg 18442240474082181120 = 9218868437227405312 := by decide +kernel
      have d := mgR_pos (r := 9218868437227405312) (by omega)
      rw [a, nan_zero, V_zero, V_mg, b]
      unfold mg sn
      rw [c]
      simp; omega
    rw [hk]
    rw [h1] at hs
    go_enter Try.func36, Try.ntmps36
    go_wp2_with (simp only [hq])
    all_goals go_ret
    all_goals exact ⟨rfl, rfl⟩
  case inr.inr.inr.inr.inr =>
    have e : x = 0 := by
      have := word_of hx
      rw [h5, h6] at this
      rw [← this]; decide +kernel
    subst e
    have hq : ∀ t w, (binOp .quo t (.float .f64 4607182418800017408) (.float .f64 0)).run Try.prog w = .ok (.float .f64 9218868437227405312) w := fun t w => run_float_arith w .quo t .f64 _ _ _ (by decide +kernel)
    have hl : ltF 9218868437227405312 0 = false := by
      unfold ltF
      have b : sgn 9218868437227405312 = false := by decide +kernel
      rw [V_zero, V_mg, b]
      unfold sn
      simp
    rw [hk]
    rw [h1] at hs
    go_enter Try.func36, Try.ntmps36
    go_wp2_with (simp only [hq])
    all_goals go_ret
    all_goals exact ⟨rfl, rfl⟩
  all_goals rw [hk]
  all_goals rw [h1] at hs
  all_goals go_enter Try.func36, Try.ntmps36
  all_goals go_wp2
  all_goals go_ret
  all_goals exact ⟨rfl, rfl⟩

theorem down_cases {x : Nat} (hf : finB x = true) (hm : mg x ≤ 9007199254740992 * S) :
    ∃ q Q, floatToIntVal .f64 x .i64 = some q ∧ floatOfInt .f64 q = Q ∧ -9007199254740992 ≤ q ∧ q ≤ 9007199254740992 ∧
      ((ltF x Q = true ∧ flR (V x) = q - 1) ∨ (ltF x Q = false ∧ flR (V x) = q)) := by
  have h := toInt_val hf hm
  have hb : mg x / S ≤ 9007199254740992 := Nat.div_le_of_le_mul (by rw [Nat.mul_comm]; exact hm)
  have hd := Nat.div_add_mod (mg x) S
  have hr := Nat.mod_lt (mg x) S_pos
  have hV := V_mg x
  have hp := S_pos
  generalize mg x / S = m, mg x % S = r at *
  generalize mg x = M at *
  have hq : -9007199254740992 ≤ sn (sgn x) m ∧ sn (sgn x) m ≤ 9007199254740992 := by unfold sn; split <;> omega
  obtain ⟨v, f, n⟩ := ofInt_V hq.1 hq.2
  refine ⟨_, _, h, rfl, hq.1, hq.2, ?_⟩
  unfold ltF
  rw [n, v, fin_nan hf]
  simp only [Bool.not_false, Bool.true_and, decide_eq_true_eq, decide_eq_false_iff_not]
  subst hd
  rw [hV]
  unfold flR
  cases sgn x
  · right
    have e := div_unique (v := sn false (S * m + r)) (q := m) (r := r) (by simp only [sn, Bool.false_eq_true, if_false]; push_cast; rfl) (by omega) (by omega)
    refine ⟨?_, e.1⟩
    simp only [sn, Bool.false_eq_true, if_false]; push_cast; rw [Int.mul_comm (m : Int)]; omega
  · by_cases h0 : r = 0
    · right
      subst h0
      have e := div_unique (v := sn true (S * m + 0)) (q := -m) (r := 0) (by simp only [sn, if_true]; push_cast; rw [Int.mul_neg]; omega) (by omega) SZ
      refine ⟨?_, e.1⟩
      simp only [sn, if_true]; push_cast; rw [Int.neg_mul, Int.mul_comm (m : Int)]; omega
    · left
      have e := div_unique (v := sn true (S * m + r)) (q := -((m + 1 : Nat) : Int)) (r := S - r) (by simp only [sn, if_true]; push_cast; rw [Int.mul_neg, Int.mul_add]; omega) (by omega) (by omega)
      refine ⟨?_, ?_⟩
      · simp only [sn, if_true]; push_cast; rw [Int.neg_mul, Int.mul_comm (m : Int)]; omega
      · rw [e.1]; simp only [sn, if_true]; omega

theorem nears {x : Nat} {lo hi : Int} (h1 : nanB x = false) (h4 : ¬ V x < clV lo * S) (h5 : ¬ hiV lo hi * S < V x) :
    ∃ N w, floatOfInt .f64 (flR (V x)) = N ∧ floatBits .sub .f64 x N = some w ∧
      ((ltF 4602678819172646912 w = true ∧ nrR (V x) = flR (V x) + 1) ∨
       (ltF 4602678819172646912 w = false ∧ eqF w 4602678819172646912 = true ∧ flR (V x) % 2 = 1 ∧ nrR (V x) = flR (V x) + 1) ∨
       (ltF 4602678819172646912 w = false ∧ eqF w 4602678819172646912 = true ∧ flR (V x) % 2 = 0 ∧ nrR (V x) = flR (V x)) ∨
       (ltF 4602678819172646912 w = false ∧ eqF w 4602678819172646912 = false ∧ nrR (V x) = flR (V x))) := by
  obtain ⟨hf, hm⟩ := tk_fin h1 h4 h5
  have a := clV_bd lo
  have b := hi_bd lo hi
  have hb := flR_facts (v := V x) (l := clV lo) (h := hiV lo hi) (by omega) (by omega)
  obtain ⟨v, f, n⟩ := ofInt_V (n := flR (V x)) (by omega) (by omega)
  obtain ⟨w, e1, e2, e3⟩ := near_test hf f v
  refine ⟨_, w, rfl, e1, ?_⟩
  unfold ltF eqF
  rw [half_nan, half_V, e2]
  unfold flR nrR at *
  simp only [Bool.not_false, Bool.true_and, decide_eq_true_eq, decide_eq_false_iff_not]
  have hh := S2
  have hz := HZ
  rcases Int.lt_trichotomy (V w) HALF with k | k | k
  · right; right; right
    exact ⟨by omega, by omega, if_neg (by omega)⟩
  · by_cases o : V x / S % 2 = 1
    · right; left
      exact ⟨by omega, by omega, o, if_pos (by omega)⟩
    · right; right; left
      exact ⟨by omega, by omega, by omega, if_neg (by omega)⟩
  · left
    exact ⟨by omega, if_pos (by omega)⟩

theorem tmod2_odd {n : Int} (h : n % 2 = 1) : (n.tmod 2 == 0) = false ∧ (n.tmod 2 != 0) = true := by
  have : n.tmod 2 ≠ 0 := fun hz => by
    have := Int.emod_eq_zero_of_dvd (Int.dvd_of_tmod_eq_zero hz)
    omega
  simp [this]
theorem tmod2_even {n : Int} (h : n % 2 = 0) : (n.tmod 2 == 0) = true ∧ (n.tmod 2 != 0) = false := by
  have : n.tmod 2 = 0 := Int.tmod_eq_zero_of_dvd (Int.dvd_of_emod_eq_zero h)
  simp [this]

theorem nan_kd (x : Nat) : (kdV x == 1) = nanB x := by
  rcases kinds x with h | h | h | h | h | h <;> simp [h]

theorem q_order (a b : Nat) (ha : a < 18446744073709551616) (hb : b < 18446744073709551616) (w : World) :
    Calls Try.prog 22 #[.float .f64 a, .float .f64 b] w fun e w' => e = .returned (.int .i64 (odV a b)) ∧ w = w' := by
  have ka := nan_kd a
  have kb := nan_kd b
  have ho := orders ha hb
  cases na : nanB a
  · rw [na] at ka
    cases nb : nanB b
    · rw [nb] at kb
      rcases ho with ⟨h1, hk⟩ | ⟨h1, h2, hk⟩ | ⟨h1, h2, hk⟩
      case inr.inr =>
        have va : ¬ kdV a = 1 := beq_eq_false_iff_ne.1 ka
        have vb : ¬ kdV b = 1 := beq_eq_false_iff_ne.1 kb
        have hv : V a = V b := by
          unfold ltF at h1 h2
          rw [na, nb] at h1 h2
          simp at h1 h2; omega
        have hz : kdV a = 4 ∨ kdV a = 5 ↔ kdV b = 4 ∨ kdV b = 5 := by
          have e : rg a = 0 ↔ rg b = 0 := by rw [← zero_V, ← zero_V, hv]
          unfold kdV
          rw [na, nb]
          by_cases za : rg a = 0
          · have zb := e.1 za
            rw [za, zb]
            cases sgn a <;> cases sgn b <;> simp
          · have zb : ¬ rg b = 0 := fun z => za (e.2 z)
            simp only [za, zb]
            simp
            split <;> split <;> (try split) <;> (try split) <;> omega
        have hk3 : (kdV a = 4 ∧ ¬ kdV b = 4 → odV a b = -1) ∧ (¬ kdV a = 4 ∧ kdV b = 4 → odV a b = 1) ∧ ((kdV a = 4 ↔ kdV b = 4) → odV a b = 0) := by
          rw [hk]
          unfold rkV cmpV
          rw [if_neg va, if_neg vb]
          by_cases p : kdV a = 4 <;> by_cases q : kdV b = 4 <;> simp [p, q]
        clear hk
        cases a4 : (kdV a == 4) <;> cases a5 : (kdV a == 5) <;> cases b4 : (kdV b == 4) <;> cases b5 : (kdV b == 5)
        all_goals
          have c1 := a4
          have c2 := a5
          have c3 := b4
          have c4 := b5
          simp only [beq_iff_eq, beq_eq_false_iff_ne, ne_eq] at c1 c2 c3 c4
        all_goals first
          | (exfalso; omega)
          | (have hq : odV a b = 0 := hk3.2.2 (by omega)
             rw [hq]
             clear hk3 hz c1 c2 c3 c4 hq
             go_enter Try.func22, Try.ntmps22
             go_wp2_with (go_at_call 36; refine (q_kind _ (by assumption) _).mono ?_; rintro e w' ⟨rfl, rfl⟩)
             all_goals go_ret
             all_goals exact ⟨rfl, rfl⟩)
          | (have hq : odV a b = -1 := hk3.1 (by omega)
             rw [hq]
             clear hk3 hz c1 c2 c3 c4 hq
             go_enter Try.func22, Try.ntmps22
             go_wp2_with (go_at_call 36; refine (q_kind _ (by assumption) _).mono ?_; rintro e w' ⟨rfl, rfl⟩)
             all_goals go_ret
             all_goals exact ⟨rfl, rfl⟩)
          | (have hq : odV a b = 1 := hk3.2.1 (by omega)
             rw [hq]
             clear hk3 hz c1 c2 c3 c4 hq
             go_enter Try.func22, Try.ntmps22
             go_wp2_with (go_at_call 36; refine (q_kind _ (by assumption) _).mono ?_; rintro e w' ⟨rfl, rfl⟩)
             all_goals go_ret
             all_goals exact ⟨rfl, rfl⟩)
      all_goals
        rw [hk]
        go_enter Try.func22, Try.ntmps22
        go_wp2_with (go_at_call 36; refine (q_kind _ (by assumption) _).mono ?_; rintro e w' ⟨rfl, rfl⟩)
        all_goals go_ret
        all_goals exact ⟨rfl, rfl⟩
    · rw [nb] at kb
      have hk : odV a b = -1 := by
        have := V_bd na
        unfold odV key
        rw [na, nb]
        simp only [if_true, Bool.false_eq_true, if_false]
        rw [if_pos (by split <;> omega)]
      rw [hk]
      go_enter Try.func22, Try.ntmps22
      go_wp2_with (go_at_call 36; refine (q_kind _ (by assumption) _).mono ?_; rintro e w' ⟨rfl, rfl⟩)
      all_goals go_ret
      all_goals exact ⟨rfl, rfl⟩
  · rw [na] at ka
    cases nb : nanB b
    · rw [nb] at kb
      have hk : odV a b = 1 := by
        have := V_bd nb
        unfold odV key
        rw [na, nb]
        simp only [if_true, Bool.false_eq_true, if_false]
        rw [if_neg (by split <;> omega), if_pos (by split <;> omega)]
      rw [hk]
      go_enter Try.func22, Try.ntmps22
      go_wp2_with (go_at_call 36; refine (q_kind _ (by assumption) _).mono ?_; rintro e w' ⟨rfl, rfl⟩)
      all_goals go_ret
      all_goals exact ⟨rfl, rfl⟩
    · rw [nb] at kb
      have hk : odV a b = 0 := by
        unfold odV key
        rw [na, nb]
        simp
      rw [hk]
      go_enter Try.func22, Try.ntmps22
      go_wp2_with (go_at_call 36; refine (q_kind _ (by assumption) _).mono ?_; rintro e w' ⟨rfl, rfl⟩)
      all_goals go_ret
      all_goals exact ⟨rfl, rfl⟩

theorem od_le0 (a b : Nat) : (decide (odV a b ≤ 0)) = decide (key a ≤ key b) := by
  unfold odV; split <;> (try split) <;> simp <;> omega
noncomputable def rmV (a b c : Nat) : Nat :=
  if key b < key a then (if key a ≤ key c then a else if key b ≤ key c then c else b) else (if key b ≤ key c then b else if key a ≤ key c then c else a)
theorem mids_same (a b c : Nat) : key (midV a b c) = key (rmV a b c) := by
  unfold midV rmV
  repeat' split
  all_goals first | rfl | omega
end Go.Proofs.Yteeiebopfjlffaa
