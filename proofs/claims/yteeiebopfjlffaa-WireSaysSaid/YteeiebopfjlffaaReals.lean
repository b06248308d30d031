/- Contracts of package reals: what each function of it answers, in units. -/
import Derived.Test.YteeiebopfjlffaaFVal
namespace Go.Proofs.Yteeiebopfjlffaa
set_option maxRecDepth 100000
open Go.RowKit Ieee
set_option linter.unusedVariables false
set_option linter.unusedSimpArgs false

theorem fmt64 : FloatKind.f64.format = double := rfl
theorem ofmt (a b : Nat) : FloatKind.f64.format.order a b = double.order a b := rfl
theorem o_neq (a b : Nat) : (FloatKind.f64.format.order a b != some .eq) = !eqF a b := by rw [← o_eq]; rfl
theorem o_eql (a b : Nat) : (FloatKind.f64.format.order a b == some .eq) = eqF a b := o_eq a b
theorem o_lss (a b : Nat) : (FloatKind.f64.format.order a b == some .lt) = ltF a b := o_lt a b
theorem o_gtr (a b : Nat) : (FloatKind.f64.format.order a b == some .gt) = ltF b a := o_gt a b
attribute [local go_sem] o_eql o_neq o_lss o_gtr

theorem m_isnan (x : Nat) (w : World) : Calls Try.prog 55 #[.float .f64 x] w fun e w' => e = .returned (.bool (nanB x)) ∧ w = w' := by
  go_enter Try.func55, Try.ntmps55
  go_wp2
  go_ret
  exact ⟨ret_b (by rw [eq_self]; simp), rfl⟩

theorem run_bits (x : Nat) (w : World) : (callFunc 41 #[.float .f64 x]).run Try.prog w = .ok (.value (.int .u64 x)) w := by
  rw [run_callFunc_extern Try.func41 (by kernel_rfl) (by kernel_rfl) (by kernel_rfl) (e := Extern.MathFloatBits.float64bits) (by kernel_rfl)]
  rfl

theorem wrap_sgn {x : Nat} (hx : x < 18446744073709551616) : decide (wrap64 (x : Int) < 0) = sgn x := by
  unfold wrap64 sgn
  rcases Nat.lt_or_ge x 9223372036854775808 with c | c
  · have h : x / 9223372036854775808 = 0 := by omega
    rw [h]
    exact decide_eq_false (by omega)
  · have h : x / 9223372036854775808 = 1 := by omega
    rw [h]
    exact decide_eq_true (by omega)
theorem m_signbit (x : Nat) (hx : x < 18446744073709551616) (w : World) : Calls Try.prog 56 #[.float .f64 x] w fun e w' => e = .returned (.bool (sgn x)) ∧ w = w' := by
  have hd := fun w => run_bits x w
  go_enter Try.func56, Try.ntmps56
  go_wp2
  all_goals go_ret
  all_goals exact ⟨ret_b (wrap_sgn hx), rfl⟩

/-- The kinds, one by one, with what each test of the program finds. -/
theorem kinds (x : Nat) :
    (nanB x = true ∧ kdV x = 1) ∨
    (nanB x = false ∧ ltF x 18442240474082181119 = true ∧ rg x = 9218868437227405312 ∧ sgn x = true ∧ kdV x = 2) ∨
    (nanB x = false ∧ ltF x 18442240474082181119 = false ∧ ltF 9218868437227405311 x = true ∧ rg x = 9218868437227405312 ∧ sgn x = false ∧ kdV x = 3) ∨
    (nanB x = false ∧ ltF x 18442240474082181119 = false ∧ ltF 9218868437227405311 x = false ∧ eqF x 0 = false ∧ 0 < rg x ∧ rg x < 9218868437227405312 ∧ kdV x = 6) ∨
    (nanB x = false ∧ ltF x 18442240474082181119 = false ∧ ltF 9218868437227405311 x = false ∧ eqF x 0 = true ∧ rg x = 0 ∧ sgn x = true ∧ kdV x = 4) ∨
    (nanB x = false ∧ ltF x 18442240474082181119 = false ∧ ltF 9218868437227405311 x = false ∧ eqF x 0 = true ∧ rg x = 0 ∧ sgn x = false ∧ kdV x = 5) := by
  rw [lt_least, gt_most, eq0]
  unfold kdV
  cases hn : nanB x
  · have h' : rg x ≤ 9218868437227405312 := by simpa [nanB] using hn
    by_cases h1 : rg x = 9218868437227405312
    · cases hs : sgn x <;> simp [h1]
    · by_cases h2 : rg x = 0
      · cases hs : sgn x <;> simp [h2]
      · simp [h1, h2]
        omega
  · simp

theorem r_kind (x : Nat) (hx : x < 18446744073709551616) (w : World) : Calls Try.prog 47 #[.float .f64 x] w fun e w' => e = .returned (.int .i64 (kdV x)) ∧ w = w' := by
  rcases kinds x with ⟨h1, hk⟩ | ⟨h1, h2, h3, h4, hk⟩ | ⟨h1, h2, h3, h4, h5, hk⟩ | ⟨h1, h2, h3, h4, h5, h6, hk⟩ | ⟨h1, h2, h3, h4, h5, h6, hk⟩ | ⟨h1, h2, h3, h4, h5, h6, hk⟩
  all_goals rw [hk]
  all_goals go_enter Try.func47, Try.ntmps47
  all_goals go_wp2_with (first
    | (go_at_call 55; refine (m_isnan _ _).mono ?_; rintro e w' ⟨rfl, rfl⟩)
    | (go_at_call 56; refine (m_signbit _ hx _).mono ?_; rintro e w' ⟨rfl, rfl⟩))
  all_goals go_ret
  all_goals exact ⟨rfl, rfl⟩

def rkV (x : Nat) : Int := if kdV x = 1 then 1 else if kdV x = 4 then -1 else 0
def cmpV (a b : Int) : Int := if a < b then -1 else if b < a then 1 else 0
/-- The order, in the program's three tests. -/
theorem orders {a b : Nat} (ha : a < 18446744073709551616) (hb : b < 18446744073709551616) :
    (ltF a b = true ∧ odV a b = -1) ∨ (ltF a b = false ∧ ltF b a = true ∧ odV a b = 1) ∨ (ltF a b = false ∧ ltF b a = false ∧ odV a b = cmpV (rkV a) (rkV b)) := by
  have ka := kinds a
  have kb := kinds b
  unfold odV key rkV cmpV ltF
  cases na : nanB a
  · have va := V_bd na
    have ea : kdV a ≠ 1 := by rcases ka with h | h | h | h | h | h <;> simp_all <;> omega
    have za : kdV a = 4 ↔ (rg a = 0 ∧ sgn a = true) := by
      unfold kdV; rw [na]; by_cases c : rg a = 0 <;> cases sgn a <;> simp [c] <;> split <;> omega
    cases nb : nanB b
    · have vb := V_bd nb
      have eb : kdV b ≠ 1 := by rcases kb with h | h | h | h | h | h <;> simp_all <;> omega
      have zb : kdV b = 4 ↔ (rg b = 0 ∧ sgn b = true) := by
        unfold kdV; rw [nb]; by_cases c : rg b = 0 <;> cases sgn b <;> simp [c] <;> split <;> omega
      simp only [za, zb, ea, eb, if_false, Bool.not_false, Bool.true_and, decide_eq_true_eq, decide_eq_false_iff_not, Bool.false_eq_true]
      by_cases ca : rg a = 0 ∧ sgn a = true
      · by_cases cb : rg b = 0 ∧ sgn b = true
        · simp only [ca, cb]; omega
        · simp only [ca, cb]; split <;> (try split) <;> omega
      · by_cases cb : rg b = 0 ∧ sgn b = true
        · simp only [ca, cb]; split <;> (try split) <;> omega
        · simp only [ca, cb]; split <;> (try split) <;> omega
    · have eb : kdV b = 1 := by rcases kb with h | h | h | h | h | h <;> simp_all
      have vb := V_bd na
      simp only [ea, eb, if_true, if_false, Bool.not_true, Bool.false_and, Bool.and_false, Bool.false_eq_true, false_and, false_or]
      refine Or.inr ⟨trivial, trivial, ?_⟩
      split <;> (try split) <;> (try split) <;> (try split) <;> omega
  · have ea : kdV a = 1 := by rcases ka with h | h | h | h | h | h <;> simp_all
    cases nb : nanB b
    · have vb := V_bd nb
      have eb : kdV b ≠ 1 := by rcases kb with h | h | h | h | h | h <;> simp_all <;> omega
      simp only [ea, eb, if_true, if_false, Bool.not_true, Bool.false_and, Bool.and_false, Bool.false_eq_true, false_and, false_or]
      refine Or.inr ⟨trivial, trivial, ?_⟩
      split <;> (try split) <;> (try split) <;> (try split) <;> omega
    · have eb : kdV b = 1 := by rcases kb with h | h | h | h | h | h <;> simp_all
      simp [ea, eb]

theorem od_lt0 (a b : Nat) : (decide (odV a b < 0)) = decide (key a < key b) := by
  unfold odV; split <;> (try split) <;> simp <;> omega
theorem od_gt0 (a b : Nat) : (decide (0 < odV a b)) = decide (key b < key a) := by
  unfold odV; split <;> (try split) <;> simp <;> omega
end Go.Proofs.Yteeiebopfjlffaa
