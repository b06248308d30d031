/- RealsTakes holds of every float64 and every pair of limits: whatever comes, a whole number within the limits is taken; where nothing is told, it is near. No condition. -/
import Derived.Test.YtoafbnefmfboiaaLaw3
import Derived.Test.YtoafbnefmfboiaaLift
namespace Go.Proofs.Ytoafbnefmfboiaa.realsTakes
open Go.ChangeShapes Go.WideShapes Go.ChangeAt Go.RowKit Ieee
set_option linter.unusedVariables false

theorem fl_lt {b : Nat} (h : (Lit.float .f64 b).wf = true) : b < 18446744073709551616 := by
  simpa [Lit.wf] using h
def geF (a b : Nat) : Bool := ltF b a || eqF a b
def leF (a b : Nat) : Bool := ltF a b || eqF a b
theorem o_ge (a b : Nat) : (ltF b a || eqF a b) = geF a b := rfl
theorem o_le (a b : Nat) : (ltF a b || eqF a b) = leF a b := rfl
theorem geF_of {a b : Nat} (ha : nanB a = false) (hb : nanB b = false) (h : V b ≤ V a) : geF a b = true := by
  unfold geF ltF eqF
  rw [ha, hb]
  simp; omega
theorem leF_of {a b : Nat} (ha : nanB a = false) (hb : nanB b = false) (h : V a ≤ V b) : leF a b = true := by
  unfold leF ltF eqF
  rw [ha, hb]
  simp; omega
attribute [local go_sem] o_eql o_neq o_lss o_gtr o_ge o_le

/-- What is so where nothing is told. -/
theorem fine {x : Nat} {lo hi : Int} (l1 : -9007199254740992 ≤ lo) (l2 : lo ≤ hi) (l3 : hi ≤ 9007199254740992) (h1 : nanB x = false) (h4 : ¬ V x < lo * S) (h5 : ¬ hi * S < V x) :
    ∃ n m N M d, flR (V x) = n ∧ nrR (V x) = m ∧ floatOfInt .f64 n = N ∧ floatOfInt .f64 m = M ∧ floatBits .sub .f64 x M = some d ∧
      lo ≤ n ∧ n ≤ hi ∧ lo ≤ m ∧ m ≤ hi ∧ (m = n ∨ m = n + 1) ∧ geF x N = true ∧ leF d 4602678819172646912 = true ∧ geF d 13826050856027422720 = true ∧
      (n ≠ 9007199254740992 → ltF x (floatOfInt .f64 (n + 1)) = true) := by
  have hc1 : clV lo = lo := by unfold clV withV; split <;> (try split) <;> (try split) <;> omega
  have hc2 : hiV lo hi = hi := by
    have hc3 : clV hi = hi := by unfold clV withV; split <;> (try split) <;> (try split) <;> omega
    unfold hiV; rw [hc1, hc3]; split <;> omega
  obtain ⟨hf, hm⟩ := tk_fin (x := x) (lo := lo) (hi := hi) h1 (by rw [hc1]; exact h4) (by rw [hc2]; exact h5)
  obtain ⟨a1, a2, a3, a4⟩ := flR_facts (v := V x) (l := lo) (h := hi) (by omega) (by omega)
  obtain ⟨b1, b2, b3, b4⟩ := nrR_facts (v := V x) (l := lo) (h := hi) (by omega) (by omega)
  generalize flR (V x) = n at *
  generalize nrR (V x) = m at *
  obtain ⟨v1, f1, n1⟩ := ofInt_V (n := n) (by omega) (by omega)
  obtain ⟨v2, f2, n2⟩ := ofInt_V (n := m) (by omega) (by omega)
  obtain ⟨d, e1, e2, e3, _⟩ := sub_word hf f2
  rw [v2] at e3
  obtain ⟨e5, e6⟩ := e3 b4
  refine ⟨n, m, _, _, d, rfl, rfl, rfl, rfl, e1, a1, a2, b1, b2, b3, geF_of h1 n1 (by rw [v1]; exact a3), leF_of e2 half_nan (by rw [half_V]; exact e6), geF_of e2 mhalf_nan (by rw [mhalf_V]; exact e5), ?_⟩
  intro hn
  obtain ⟨v3, f3, n3⟩ := ofInt_V (n := n + 1) (by omega) (by omega)
  unfold ltF
  rw [h1, n3, v3]
  simpa using a4

set_option maxRecDepth 100000 in
theorem walk (x : Nat) (wx : (Lit.float .f64 x).wf = true) (lo : Int) (w0 : (Lit.int .i64 lo).wf = true) (hi : Int) (w1 : (Lit.int .i64 hi).wf = true) (W : World) :
    Calls Try.prog 4 #[.float .f64 x, .int .i64 lo, .int .i64 hi] W fun e W' => e = .returned (.bool true) ∧ Below W.heap.size W W' := by
  have hx := fl_lt wx
  have hb := At.refl W
  by_cases c1 : hi < lo
  · have t1 : decide (hi < lo) = true := decide_eq_true c1
    go_enter Try.func4, Try.ntmps4
    go_wp2_with (first
    | (go_at_call 18; refine (law3_awake _ _ (by assumption)).mono ?_; rintro e w' ⟨rfl, hb⟩))
    all_goals go_ret
    all_goals exact ⟨rfl, hb⟩
  · have t1 : decide (hi < lo) = false := decide_eq_false c1
    by_cases c2 : lo < -9007199254740992
    · have t2 : decide (lo < -9007199254740992) = true := decide_eq_true c2
      go_enter Try.func4, Try.ntmps4
      go_wp2_with (first
    | (go_at_call 18; refine (law3_awake _ _ (by assumption)).mono ?_; rintro e w' ⟨rfl, hb⟩))
      all_goals go_ret
      all_goals exact ⟨rfl, hb⟩
    · have t2 : decide (lo < -9007199254740992) = false := decide_eq_false c2
      by_cases c3 : 9007199254740992 < hi
      · have t3 : decide (9007199254740992 < hi) = true := decide_eq_true c3
        go_enter Try.func4, Try.ntmps4
        go_wp2_with (first
    | (go_at_call 18; refine (law3_awake _ _ (by assumption)).mono ?_; rintro e w' ⟨rfl, hb⟩))
        all_goals go_ret
        all_goals exact ⟨rfl, hb⟩
      · have t3 : decide (9007199254740992 < hi) = false := decide_eq_false c3
        have hc1 : clV lo = lo := by unfold clV withV; split <;> (try split) <;> (try split) <;> omega
        have hc2 : hiV lo hi = hi := by
          have hc3 : clV hi = hi := by unfold clV withV; split <;> (try split) <;> (try split) <;> omega
          unfold hiV; rw [hc1, hc3]; split <;> omega
        have t4 : decide (lo < lo) = false := decide_eq_false (by omega)
        have t5 : decide (hi < hi) = false := decide_eq_false (by omega)
        obtain ⟨L, H, hL, hH, hw⟩ := takes x lo hi
        rw [hc1, hc2] at hw
        rw [hc1] at hL
        rw [hc2] at hH
        clear hc1 hc2
        rcases hw with ⟨h1, hbd, hu, hv⟩ | ⟨h1, h2, hbd, hu, hv⟩ | ⟨h1, h2, h3, hbd, hu, hv⟩ | ⟨h1, h2, h3, hbd, hu, hv, h4, h5⟩
        · have hk := kd_nan h1
          go_enter Try.func4, Try.ntmps4
          go_wp2_with (first
    | (go_at_call 8; refine (r_take _ _ _ _).mono ?_; rintro e w' ⟨rfl, rfl⟩)
    | (go_at_call 10; refine (r_near _ _ _ _).mono ?_; rintro e w' ⟨rfl, rfl⟩)
    | (go_at_call 15; refine (r_kind _ (by first | assumption | decide) _).mono ?_; rintro e w' ⟨rfl, rfl⟩)
    | (go_at_call 18; refine (law3_awake _ _ (by assumption)).mono ?_; rintro e w' ⟨rfl, hb⟩))
          all_goals go_ret
          all_goals exact ⟨rfl, hb⟩
        · have hk := nan_kd x
          rw [h1] at hk
          go_enter Try.func4, Try.ntmps4
          go_wp2_with (first
    | (go_at_call 8; refine (r_take _ _ _ _).mono ?_; rintro e w' ⟨rfl, rfl⟩)
    | (go_at_call 10; refine (r_near _ _ _ _).mono ?_; rintro e w' ⟨rfl, rfl⟩)
    | (go_at_call 15; refine (r_kind _ (by first | assumption | decide) _).mono ?_; rintro e w' ⟨rfl, rfl⟩)
    | (go_at_call 18; refine (law3_awake _ _ (by assumption)).mono ?_; rintro e w' ⟨rfl, hb⟩))
          all_goals go_ret
          all_goals exact ⟨rfl, hb⟩
        · have hk := nan_kd x
          rw [h1] at hk
          go_enter Try.func4, Try.ntmps4
          go_wp2_with (first
    | (go_at_call 8; refine (r_take _ _ _ _).mono ?_; rintro e w' ⟨rfl, rfl⟩)
    | (go_at_call 10; refine (r_near _ _ _ _).mono ?_; rintro e w' ⟨rfl, rfl⟩)
    | (go_at_call 15; refine (r_kind _ (by first | assumption | decide) _).mono ?_; rintro e w' ⟨rfl, rfl⟩)
    | (go_at_call 18; refine (law3_awake _ _ (by assumption)).mono ?_; rintro e w' ⟨rfl, hb⟩))
          all_goals go_ret
          all_goals exact ⟨rfl, hb⟩
        · obtain ⟨n, m, N, M, d, en, em, eN, eM, ed, i1, i2, i3, i4, i5, i6, i7, i8, i9⟩ := fine (by omega) (by omega) (by omega) h1 h4 h5
          rw [en] at hu
          rw [em] at hv
          clear en em h4 h5
          have hop : ∀ t w, (binOp .sub t (.float .f64 x) (.float .f64 M)).run Try.prog w = .ok (.float .f64 d) w := fun t w => run_float_arith w .sub t .f64 x M d ed
          have t6 : decide (n < lo) = false := decide_eq_false (by omega)
          have t7 : decide (hi < n) = false := decide_eq_false (by omega)
          have t8 : decide (m < lo) = false := decide_eq_false (by omega)
          have t9 : decide (hi < m) = false := decide_eq_false (by omega)
          by_cases cn : n = 9007199254740992
          · have t10 : (n == 9007199254740992) = true := by simpa using cn
            rcases i5 with i5 | i5
            · have t11 : (m == n) = true := by simpa using i5
              clear i5 cn
              go_enter Try.func4, Try.ntmps4
              go_wp2_with (first
    | (go_at_call 8; refine (r_take _ _ _ _).mono ?_; rintro e w' ⟨rfl, rfl⟩)
    | (go_at_call 10; refine (r_near _ _ _ _).mono ?_; rintro e w' ⟨rfl, rfl⟩)
    | (go_at_call 15; refine (r_kind _ (by first | assumption | decide) _).mono ?_; rintro e w' ⟨rfl, rfl⟩)
    | (go_at_call 18; refine (law3_awake _ _ (by assumption)).mono ?_; rintro e w' ⟨rfl, hb⟩))
              all_goals go_ret
              all_goals exact ⟨rfl, hb⟩
            · omega
          · have t10 : (n == 9007199254740992) = false := by simpa using cn
            have t12 := i9 cn
            obtain ⟨P, hP⟩ : ∃ P, floatOfInt .f64 (n + 1) = P := ⟨_, rfl⟩
            rw [hP] at t12
            rcases i5 with i5 | i5
            · have t11 : (m == n) = true := by simpa using i5
              clear i5 i9
              go_enter Try.func4, Try.ntmps4
              go_wp2_with (first
    | (go_at_call 8; refine (r_take _ _ _ _).mono ?_; rintro e w' ⟨rfl, rfl⟩)
    | (go_at_call 10; refine (r_near _ _ _ _).mono ?_; rintro e w' ⟨rfl, rfl⟩)
    | (go_at_call 15; refine (r_kind _ (by first | assumption | decide) _).mono ?_; rintro e w' ⟨rfl, rfl⟩)
    | (go_at_call 18; refine (law3_awake _ _ (by assumption)).mono ?_; rintro e w' ⟨rfl, hb⟩))
              all_goals go_ret
              all_goals exact ⟨rfl, hb⟩
            · have t11 : (m == n) = false := by simp; omega
              have t13 : (m == n + 1) = true := by simpa using i5
              clear i5 i9
              go_enter Try.func4, Try.ntmps4
              go_wp2_with (first
    | (go_at_call 8; refine (r_take _ _ _ _).mono ?_; rintro e w' ⟨rfl, rfl⟩)
    | (go_at_call 10; refine (r_near _ _ _ _).mono ?_; rintro e w' ⟨rfl, rfl⟩)
    | (go_at_call 15; refine (r_kind _ (by first | assumption | decide) _).mono ?_; rintro e w' ⟨rfl, rfl⟩)
    | (go_at_call 18; refine (law3_awake _ _ (by assumption)).mono ?_; rintro e w' ⟨rfl, hb⟩))
              all_goals go_ret
              all_goals exact ⟨rfl, hb⟩

theorem lifted (os : Os) (started : os.Started) (H : Type) (enc : TypeId × Value → H) :
    ReturnsInHanded {} Try.checked os 4 .any (Rows.realsTakesSpec.pre6 enc Try.prog Try.f4 Rows.realsTakesRow.domain false) (Rows.realsTakesSpec.post enc Try.prog Try.f4 false true false false) := by
  refine law_lift started (by kernel_rfl) Try.func4 rfl rfl ?_ (by kernel_rfl)
    (ChangeSpec.witness6 (enc := enc) (C := Try.checked) false ⟨#[], #[.float .f64 0, .int .i64 0, .int .i64 0], []⟩ 8 (by kernel_rfl) (by kernel_rfl) (by kernel_rfl) (by kernel_rfl)) ?_
  · intro ds hl
    match ds, hl with
    | [_, _, _], _ => exact ⟨rfl, rfl, rfl⟩
  · intro W base args ds p hval hA hlt hwt
    rw [Try.params4] at hA hval hwt
    obtain ⟨v0, vs0, d0, ds0, p0, q0, hargs, rfl, rfl, h0, r0⟩ := trodAll_cons hA
    obtain ⟨v1, vs1, d1, ds1, p1, q1, rfl, rfl, rfl, h1, r1⟩ := trodAll_cons r0
    obtain ⟨v2, vs2, d2, ds2, p2, q2, rfl, rfl, rfl, h2, r2⟩ := trodAll_cons r1
    obtain ⟨rfl, rfl, rfl⟩ := trodAll_nil r2
    obtain rfl : args = #[v0, v1, v2] := by cases args; simp_all
    obtain ⟨a0, rfl, rfl, rfl, w0⟩ := open_float Try.underlying22 (hval 0 22 v0 rfl rfl) h0
    obtain ⟨a1, rfl, rfl, rfl, w1⟩ := open_int Try.underlying3 (hval 1 3 v1 rfl rfl) h1
    obtain ⟨a2, rfl, rfl, rfl, w2⟩ := open_int Try.underlying3 (hval 2 3 v2 rfl rfl) h2
    exact walk a0 w0 a1 w1 a2 w2 W

theorem over : Rows.realsTakesRow.holds Try.pinned (OpenSpec.ofChange Rows.realsTakesSpec) :=
  OpenClaim.holds_of_wide 4 Try.f4 rfl rfl rfl rfl rfl rfl rfl ⟨rfl, rfl, rfl, rfl, rfl⟩ rfl rfl rfl rfl rfl (by kernel_rfl) Try.func4 (by kernel_rfl)
    (of_decide_eq_true (by kernel_rfl)) (by unfold Func.isWrapper; first | (rw [if_pos (by decide +kernel)]; kernel_rfl) | (rw [if_neg (by decide +kernel)]; exact ⟨rfl, rfl⟩))
    (fun os started H enc _ => lifted os started H enc)

theorem proved : Rows.RealsTakesSaid := over
#print axioms proved
end Go.Proofs.Ytoafbnefmfboiaa.realsTakes
