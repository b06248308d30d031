/- RealsRises holds of every two float64 and every pair of limits: a greater number is not taken as a lesser one. No condition. -/
import Derived.Test.YtoafbnefmfboiaaLaw3
import Derived.Test.YtoafbnefmfboiaaLift
import Derived.Test.YtoafbnefmfboiaaArr
namespace Go.Proofs.Ytoafbnefmfboiaa.realsRises
open Go.ChangeShapes Go.WideShapes Go.ChangeAt Go.RowKit Ieee
set_option linter.unusedVariables false
attribute [local go_sem] o_eql o_neq o_lss o_gtr

theorem fl_lt {b : Nat} (h : (Lit.float .f64 b).wf = true) : b < 18446744073709551616 := by
  simpa [Lit.wf] using h

theorem tk_mono {p q : Nat} {lo hi : Int} (hp : nanB p = false) (hq : nanB q = false) (h : V p ≤ V q) : tkV p lo hi ≤ tkV q lo hi ∧ nrV3 p lo hi ≤ nrV3 q lo hi := by
  have hh := hi_bd lo hi
  have f1 : ¬ V p < clV lo * S → ¬ hiV lo hi * S < V p → clV lo ≤ flR (V p) ∧ flR (V p) ≤ hiV lo hi ∧ clV lo ≤ nrR (V p) ∧ nrR (V p) ≤ hiV lo hi := fun x y =>
    have a := flR_facts (v := V p) (l := clV lo) (h := hiV lo hi) (by omega) (by omega)
    have b := nrR_facts (v := V p) (l := clV lo) (h := hiV lo hi) (by omega) (by omega)
    ⟨a.1, a.2.1, b.1, b.2.1⟩
  have f2 : ¬ V q < clV lo * S → ¬ hiV lo hi * S < V q → clV lo ≤ flR (V q) ∧ flR (V q) ≤ hiV lo hi ∧ clV lo ≤ nrR (V q) ∧ nrR (V q) ≤ hiV lo hi := fun x y =>
    have a := flR_facts (v := V q) (l := clV lo) (h := hiV lo hi) (by omega) (by omega)
    have b := nrR_facts (v := V q) (l := clV lo) (h := hiV lo hi) (by omega) (by omega)
    ⟨a.1, a.2.1, b.1, b.2.1⟩
  have m1 := flR_mono h
  have m2 := nrR_mono h
  have hs : clV lo * (S : Int) ≤ hiV lo hi * S := Int.mul_le_mul_of_nonneg_right hh.1 (Int.le_of_lt SZ)
  unfold tkV nrV3
  rw [hp, hq]
  simp only [Bool.false_eq_true, if_false]
  by_cases c1 : V p < clV lo * S <;> by_cases c2 : hiV lo hi * S < V p <;> by_cases c3 : V q < clV lo * S <;> by_cases c4 : hiV lo hi * S < V q <;> simp only [c1, c2, c3, c4, if_true, if_false] <;> first
    | omega
    | (have a := f1 c1 c2; have b := f2 c3 c4; omega)
    | (have a := f1 c1 c2; omega)
    | (have b := f2 c3 c4; omega)

theorem rises {p q : Nat} (lo hi : Int) (h : key p ≤ key q) :
    ((kdV q == 1) = true ∧ tkB q lo hi = true) ∨
    ((kdV q == 1) = false ∧ decide (tkV p lo hi ≤ tkV q lo hi) = true ∧ decide (nrV3 p lo hi ≤ nrV3 q lo hi) = true ∧
      ((tkB p lo hi = false) ∨ (tkB p lo hi = true ∧ tkB q lo hi = false) ∨ (tkB p lo hi = true ∧ tkB q lo hi = true ∧ (tkV p lo hi == tkV q lo hi) = true) ∨
       (tkB p lo hi = true ∧ tkB q lo hi = true ∧ (tkV p lo hi == tkV q lo hi) = false ∧ decide (tkV p lo hi < tkV q lo hi) = true))) := by
  have hk := nan_kd q
  cases hq : nanB q
  · right
    have hp : nanB p = false := by
      cases hp : nanB p
      · rfl
      · exfalso
        have := V_bd hq
        unfold key at h
        rw [hp, hq] at h
        simp only [if_true, Bool.false_eq_true, if_false] at h
        split at h <;> omega
    have hv : V p ≤ V q := by
      unfold key at h
      rw [hp, hq] at h
      simp only [Bool.false_eq_true, if_false] at h
      split at h <;> split at h <;> omega
    obtain ⟨m1, m2⟩ := tk_mono (lo := lo) (hi := hi) hp hq hv
    refine ⟨by rw [hk, hq], decide_eq_true m1, decide_eq_true m2, ?_⟩
    cases tkB p lo hi
    · simp
    · cases tkB q lo hi
      · simp
      · by_cases e : tkV p lo hi = tkV q lo hi
        · right; right; left; exact ⟨rfl, rfl, beq_iff_eq.2 e⟩
        · right; right; right; exact ⟨rfl, rfl, beq_eq_false_iff_ne.2 e, decide_eq_true (by omega)⟩
  · left
    refine ⟨by rw [hk, hq], ?_⟩
    unfold tkB; rw [hq]; rfl

set_option maxRecDepth 100000 in
theorem walk (a : Nat) (wa : (Lit.float .f64 a).wf = true) (b : Nat) (wb : (Lit.float .f64 b).wf = true) (lo : Int) (w0 : (Lit.int .i64 lo).wf = true) (hi : Int) (w1 : (Lit.int .i64 hi).wf = true) (W : World) :
    Calls Try.prog 7 #[.float .f64 a, .float .f64 b, .agg #[.int .i64 lo, .int .i64 hi]] W fun e W' => e = .returned (.bool true) ∧ Below W.heap.size W W' := by
  have ha := fl_lt wa
  have hb' := fl_lt wb
  have hb : At W (W.alloc (.cells #[.int .i64 lo, .int .i64 hi] 34)) := (At.refl W).below ((Below.refl _ _).alloc (Nat.le_refl _) _)
  have hg := od_gt0 a b
  by_cases c : key b < key a
  · have hg1 : decide (0 < odV a b) = true := by rw [hg]; exact decide_eq_true c
    clear hg
    rcases rises lo hi (p := b) (q := a) (by omega) with ⟨h1, h2⟩ | ⟨h1, h2, h3, h4⟩
    · go_enter Try.func7, Try.ntmps7
      go_wp2_with (first
    | (go_at_call 17; refine (r_order _ _ (by first | assumption | decide) (by first | assumption | decide) _).mono ?_; rintro e w' ⟨rfl, rfl⟩)
    | (go_at_call 15; refine (r_kind _ (by first | assumption | decide) _).mono ?_; rintro e w' ⟨rfl, rfl⟩)
    | (go_at_call 8; refine (r_take _ _ _ _).mono ?_; rintro e w' ⟨rfl, rfl⟩)
    | (go_at_call 10; refine (r_near _ _ _ _).mono ?_; rintro e w' ⟨rfl, rfl⟩)
    | (go_at_call 18; refine (law3_awake _ _ (by assumption)).mono ?_; rintro e w' ⟨rfl, hb⟩))
      all_goals go_ret
      all_goals exact ⟨rfl, hb⟩
    · rcases h4 with h4 | ⟨h4, h5⟩ | ⟨h4, h5, h6⟩ | ⟨h4, h5, h6, h7⟩
      all_goals
        go_enter Try.func7, Try.ntmps7
        go_wp2_with (first
    | (go_at_call 17; refine (r_order _ _ (by first | assumption | decide) (by first | assumption | decide) _).mono ?_; rintro e w' ⟨rfl, rfl⟩)
    | (go_at_call 15; refine (r_kind _ (by first | assumption | decide) _).mono ?_; rintro e w' ⟨rfl, rfl⟩)
    | (go_at_call 8; refine (r_take _ _ _ _).mono ?_; rintro e w' ⟨rfl, rfl⟩)
    | (go_at_call 10; refine (r_near _ _ _ _).mono ?_; rintro e w' ⟨rfl, rfl⟩)
    | (go_at_call 18; refine (law3_awake _ _ (by assumption)).mono ?_; rintro e w' ⟨rfl, hb⟩))
        all_goals go_ret
        all_goals exact ⟨rfl, hb⟩
  · have hg1 : decide (0 < odV a b) = false := by rw [hg]; exact decide_eq_false c
    clear hg
    rcases rises lo hi (p := a) (q := b) (by omega) with ⟨h1, h2⟩ | ⟨h1, h2, h3, h4⟩
    · go_enter Try.func7, Try.ntmps7
      go_wp2_with (first
    | (go_at_call 17; refine (r_order _ _ (by first | assumption | decide) (by first | assumption | decide) _).mono ?_; rintro e w' ⟨rfl, rfl⟩)
    | (go_at_call 15; refine (r_kind _ (by first | assumption | decide) _).mono ?_; rintro e w' ⟨rfl, rfl⟩)
    | (go_at_call 8; refine (r_take _ _ _ _).mono ?_; rintro e w' ⟨rfl, rfl⟩)
    | (go_at_call 10; refine (r_near _ _ _ _).mono ?_; rintro e w' ⟨rfl, rfl⟩)
    | (go_at_call 18; refine (law3_awake _ _ (by assumption)).mono ?_; rintro e w' ⟨rfl, hb⟩))
      all_goals go_ret
      all_goals exact ⟨rfl, hb⟩
    · rcases h4 with h4 | ⟨h4, h5⟩ | ⟨h4, h5, h6⟩ | ⟨h4, h5, h6, h7⟩
      all_goals
        go_enter Try.func7, Try.ntmps7
        go_wp2_with (first
    | (go_at_call 17; refine (r_order _ _ (by first | assumption | decide) (by first | assumption | decide) _).mono ?_; rintro e w' ⟨rfl, rfl⟩)
    | (go_at_call 15; refine (r_kind _ (by first | assumption | decide) _).mono ?_; rintro e w' ⟨rfl, rfl⟩)
    | (go_at_call 8; refine (r_take _ _ _ _).mono ?_; rintro e w' ⟨rfl, rfl⟩)
    | (go_at_call 10; refine (r_near _ _ _ _).mono ?_; rintro e w' ⟨rfl, rfl⟩)
    | (go_at_call 18; refine (law3_awake _ _ (by assumption)).mono ?_; rintro e w' ⟨rfl, hb⟩))
        all_goals go_ret
        all_goals exact ⟨rfl, hb⟩

theorem lifted (os : Os) (started : os.Started) (H : Type) (enc : TypeId × Value → H) :
    ReturnsInHanded {} Try.checked os 7 .any (Rows.realsRisesSpec.pre6 enc Try.prog Try.f7 Rows.realsRisesRow.domain false) (Rows.realsRisesSpec.post enc Try.prog Try.f7 false true false false) := by
  refine law_lift started (by kernel_rfl) Try.func7 rfl rfl ?_ (by kernel_rfl)
    (ChangeSpec.witness6 (enc := enc) (C := Try.checked) false ⟨#[], #[.float .f64 0, .float .f64 0, .agg #[.int .i64 0, .int .i64 0]], []⟩ 8 (by kernel_rfl) (by kernel_rfl) (by kernel_rfl) (by kernel_rfl)) ?_
  · intro ds hl
    match ds, hl with
    | [_, _, _], _ => exact ⟨rfl, rfl, rfl⟩
  · intro W base args ds p hval hA hlt hwt
    rw [Try.params7] at hA hval hwt
    obtain ⟨v0, vs0, d0, ds0, p0, q0, hargs, rfl, rfl, h0, r0⟩ := trodAll_cons hA
    obtain ⟨v1, vs1, d1, ds1, p1, q1, rfl, rfl, rfl, h1, r1⟩ := trodAll_cons r0
    obtain ⟨v2, vs2, d2, ds2, p2, q2, rfl, rfl, rfl, h2, r2⟩ := trodAll_cons r1
    obtain ⟨rfl, rfl, rfl⟩ := trodAll_nil r2
    obtain rfl : args = #[v0, v1, v2] := by cases args; simp_all
    obtain ⟨a0, rfl, rfl, rfl, w0⟩ := open_float Try.underlying22 (hval 0 22 v0 rfl rfl) h0
    obtain ⟨a1, rfl, rfl, rfl, w1⟩ := open_float Try.underlying22 (hval 1 22 v1 rfl rfl) h1
    obtain ⟨xs2, rfl, l2, w2⟩ := open_int_cells Try.underlying34 Try.underlying3 (by kernel_rfl) (by kernel_rfl) (hval 2 34 v2 rfl rfl) h2
    match xs2, l2, w2 with
    | [x2_0, x2_1], _, w2 =>
    exact walk a0 w0 a1 w1 x2_0 (w2 _ (by simp)) x2_1 (w2 _ (by simp)) W

theorem over : Rows.realsRisesRow.holds Try.pinned (OpenSpec.ofChange Rows.realsRisesSpec) :=
  OpenClaim.holds_of_wide 7 Try.f7 rfl rfl rfl rfl rfl rfl rfl ⟨rfl, rfl, rfl, rfl, rfl⟩ rfl rfl rfl rfl rfl (by kernel_rfl) Try.func7 (by kernel_rfl)
    (of_decide_eq_true (by kernel_rfl)) (by unfold Func.isWrapper; first | (rw [if_pos (by decide +kernel)]; kernel_rfl) | (rw [if_neg (by decide +kernel)]; exact ⟨rfl, rfl⟩))
    (fun os started H enc _ => lifted os started H enc)

theorem proved : Rows.RealsRisesSaid := over
#print axioms proved
end Go.Proofs.Ytoafbnefmfboiaa.realsRises
