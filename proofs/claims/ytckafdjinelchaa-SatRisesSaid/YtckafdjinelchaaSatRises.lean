/- SatRises is true of any three integers: a greater number makes no sum, difference or clamped number less. -/
import Derived.Test.YtckafdjinelchaaSatSum
namespace Go.Proofs.Ytckafdjinelchaa.satRises
open Go.ChangeShapes Go.WideShapes Go.ChangeAt Go.RowKit
set_option linter.unusedVariables false

theorem clV_mono {a b : Int} (h : a ≤ b) : clV a ≤ clV b := by
  have h1 := clV_bd a
  have h2 := clV_bd b
  by_cases ha : a.natAbs ≤ 9007199254740992 <;> by_cases hb : b.natAbs ≤ 9007199254740992
  · rw [clV_in ha, clV_in hb]; exact h
  · rw [clV_pos (by omega) (show 0 ≤ b by omega)]; omega
  · rw [clV_neg (by omega) (show a < 0 by omega)]; omega
  · by_cases h0 : a < 0
    · rw [clV_neg (by omega) h0]; omega
    · rw [clV_pos (n := b) (by omega) (by omega)]; omega
theorem addV_mono {a b : Int} (c : Int) (h : a ≤ b) : addV a c ≤ addV b c := by
  have := clV_mono h
  unfold addV; exact clV_mono (by omega)
theorem subV_mono {a b : Int} (c : Int) (h : a ≤ b) : subV c b ≤ subV c a := by
  have := clV_mono h
  unfold subV; exact clV_mono (by omega)
theorem withV_in {a b : Int} (c : Int) (h : a ≤ b) : a ≤ withV c a b ∧ withV c a b ≤ b ∧ (withB c a b = false → withV c a b = c) ∧ withB c a b = (decide (c < a) || decide (b < c)) := by
  unfold withV withB
  refine ⟨?_, ?_, ?_, ?_⟩
  · split <;> (try split) <;> (try split) <;> omega
  · split <;> (try split) <;> (try split) <;> omega
  · intro h; simp at h; split <;> (try split) <;> (try split) <;> omega
  · rw [Bool.eq_iff_iff]; simp; omega

set_option maxHeartbeats 8000000 in
set_option maxRecDepth 100000 in
theorem walk (a : Int) (wa : (Lit.int .i64 a).wf = true) (b : Int) (wb : (Lit.int .i64 b).wf = true) (c : Int) (wc : (Lit.int .i64 c).wf = true) (w : World) :
    Calls Try.prog 6 #[.int .i64 a, .int .i64 b, .int .i64 c] w fun e w' => e = .returned (.bool true) ∧ Below w.heap.size w w' := by
  clear wa wb wc
  have hx : ∃ x y : Int, x ≤ y ∧ ((a = x ∧ b = y) ∨ (a = y ∧ b = x ∧ x < y)) := by
    by_cases h : a ≤ b
    · exact ⟨a, b, h, .inl ⟨rfl, rfl⟩⟩
    · exact ⟨b, a, by omega, .inr ⟨rfl, rfl, by omega⟩⟩
  obtain ⟨x, y, hxy, hc⟩ := hx
  have k1 := clV_mono hxy
  have k2 := addV_mono c hxy
  have k3 := subV_mono c hxy
  obtain ⟨k4, k5, k6, k7⟩ := withV_in c hxy
  have hcase : (c < x ∧ c ≤ y ∧ withB c x y = true ∧ decide (c < x) = true) ∨ (x ≤ c ∧ y < c ∧ withB c x y = true ∧ decide (c < x) = false ∧ decide (y < c) = true) ∨ (x ≤ c ∧ c ≤ y ∧ withB c x y = false ∧ withV c x y = c ∧ decide (c < x) = false ∧ decide (y < c) = false) := by
    by_cases h1 : c < x
    · left; exact ⟨h1, by omega, by rw [k7]; simp [h1], by simp [h1]⟩
    · by_cases h2 : y < c
      · right; left; exact ⟨by omega, h2, by rw [k7]; simp [h2], by simp; omega, by simp [h2]⟩
      · right; right; have e : withB c x y = false := by rw [k7]; simp; omega
        exact ⟨by omega, by omega, e, k6 e, by simp; omega, by simp; omega⟩
  clear k6 k7
  rcases hc with ⟨rfl, rfl⟩ | ⟨rfl, rfl, hlt⟩ <;> rcases hcase with ⟨h1, h2, h3, h4⟩ | ⟨h1, h2, h3, h4, h5⟩ | ⟨h1, h2, h3, h4, h5, h6⟩
  all_goals
    go_enter Try.func6, Try.ntmps6
    go_wp2_with (first
    | (go_at_call 8; refine (sat_clamp _ _).mono ?_; rintro e w' ⟨rfl, rfl⟩)
    | (go_at_call 9; refine (ref_clamp _ _).mono ?_; rintro e w' ⟨rfl, rfl⟩)
    | (go_at_call 10; refine (sat_add _ _ _).mono ?_; rintro e w' ⟨rfl, rfl⟩)
    | (go_at_call 11; refine (ref_add _ _ _).mono ?_; rintro e w' ⟨rfl, rfl⟩)
    | (go_at_call 14; refine (sat_mul _ _ _).mono ?_; rintro e w' ⟨rfl, rfl⟩)
    | (go_at_call 15; refine (ref_mul _ _ _).mono ?_; rintro e w' ⟨rfl, rfl⟩)
    | (go_at_call 12; refine (sat_sub _ _ _).mono ?_; rintro e w' ⟨rfl, rfl⟩)
    | (go_at_call 13; refine (ref_sub _ _ _).mono ?_; rintro e w' ⟨rfl, rfl⟩)
    | (go_at_call 16; refine (sat_within _ _ _ _).mono ?_; rintro e w' ⟨rfl, rfl⟩)
    | (go_at_call 17; refine (ref_within _ _ _ _).mono ?_; rintro e w' ⟨rfl, rfl⟩)
    | (go_at_call 18; refine (law_awake _).mono ?_; rintro e w' ⟨rfl, hb⟩))
    all_goals go_ret
    all_goals exact ⟨rfl, hb⟩

theorem lifted (os : Os) (started : os.Started) (H : Type) (enc : TypeId × Value → H) :
    ReturnsInHanded {} Try.checked os 6 .any (Rows.satRisesSpec.pre6 enc Try.prog Try.f6 Rows.satRisesRow.domain false) (Rows.satRisesSpec.post enc Try.prog Try.f6 false true false false) := by
  refine law_lift started (by kernel_rfl) Try.func6 rfl rfl ?_ (by kernel_rfl)
    (ChangeSpec.witness6 (enc := enc) (C := Try.checked) false ⟨#[], #[.int .i64 0, .int .i64 0, .int .i64 0], []⟩ 8 (by kernel_rfl) (by kernel_rfl) (by kernel_rfl) (by kernel_rfl)) ?_
  · intro ds hl
    match ds, hl with
    | [_, _, _], _ => exact ⟨rfl, rfl, rfl⟩
  · intro W base args ds p hval hA hlt hwt
    rw [Try.params6] at hA hval hwt
    obtain ⟨v0, vs0, d0, ds0, p0, q0, hargs, rfl, rfl, h0, r0⟩ := trodAll_cons hA
    obtain ⟨v1, vs1, d1, ds1, p1, q1, rfl, rfl, rfl, h1, r1⟩ := trodAll_cons r0
    obtain ⟨v2, vs2, d2, ds2, p2, q2, rfl, rfl, rfl, h2, r2⟩ := trodAll_cons r1
    obtain ⟨rfl, rfl, rfl⟩ := trodAll_nil r2
    obtain rfl : args = #[v0, v1, v2] := by cases args; simp_all
    obtain ⟨a0, rfl, rfl, rfl, w0⟩ := open_int Try.underlying3 (hval 0 3 v0 rfl rfl) h0
    obtain ⟨a1, rfl, rfl, rfl, w1⟩ := open_int Try.underlying3 (hval 1 3 v1 rfl rfl) h1
    obtain ⟨a2, rfl, rfl, rfl, w2⟩ := open_int Try.underlying3 (hval 2 3 v2 rfl rfl) h2
    exact walk a0 w0 a1 w1 a2 w2 W

theorem over : Rows.satRisesRow.holds Try.pinned (OpenSpec.ofChange Rows.satRisesSpec) :=
  OpenClaim.holds_of_wide 6 Try.f6 rfl rfl rfl rfl rfl rfl rfl ⟨rfl, rfl, rfl, rfl, rfl⟩ rfl rfl rfl rfl rfl (by kernel_rfl) Try.func6 (by kernel_rfl)
    (of_decide_eq_true (by kernel_rfl)) (by unfold Func.isWrapper; first | (rw [if_pos (by decide +kernel)]; kernel_rfl) | (rw [if_neg (by decide +kernel)]; exact ⟨rfl, rfl⟩))
    (fun os started H enc _ => lifted os started H enc)

theorem proved : Rows.SatRisesSaid := over
#print axioms proved
end Go.Proofs.Ytckafdjinelchaa.satRises
