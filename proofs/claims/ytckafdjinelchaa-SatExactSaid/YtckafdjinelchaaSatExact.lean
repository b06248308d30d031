/- SatExact is true of any two integers: what is told unchanged is the number itself, and what is changed is at a limit. -/
import Derived.Test.YtckafdjinelchaaSatSum
namespace Go.Proofs.Ytckafdjinelchaa.satExact
open Go.ChangeShapes Go.WideShapes Go.ChangeAt Go.RowKit
set_option linter.unusedVariables false

theorem add_in {a b : Int} (ha : a.natAbs ≤ 9007199254740992) (hb : b.natAbs ≤ 9007199254740992) :
    addB a b = decide (9007199254740992 < a + b ∨ a + b < -9007199254740992) ∧ (addB a b = false → addV a b = a + b) := by
  unfold addB addV bothB
  rw [clV_in ha, clV_in hb, clB_in ha, clB_in hb]
  refine ⟨?_, fun h => ?_⟩
  · simp [clB, withB]; rw [Bool.eq_iff_iff]; simp; omega
  · simp [clB, withB] at h
    exact clV_in (by omega)
theorem sub_in {a b : Int} (ha : a.natAbs ≤ 9007199254740992) (hb : b.natAbs ≤ 9007199254740992) :
    subB a b = decide (9007199254740992 < a - b ∨ a - b < -9007199254740992) ∧ (subB a b = false → subV a b = a - b) := by
  unfold subB subV bothB
  rw [clV_in ha, clV_in hb, clB_in ha, clB_in hb]
  refine ⟨?_, fun h => ?_⟩
  · simp [clB, withB]; rw [Bool.eq_iff_iff]; simp; omega
  · simp [clB, withB] at h
    exact clV_in (by omega)
theorem mul_is {a b : Int} (ha : a.natAbs ≤ 9007199254740992) (hb : b.natAbs ≤ 9007199254740992) :
    mulB a b = decide (9007199254740992 < (a * b).natAbs) ∧ mulV a b = clV (a * b) := by
  unfold mulB mulV bothB
  rw [clV_in ha, clV_in hb, clB_in ha, clB_in hb]
  refine ⟨?_, rfl⟩
  simp [clB, withB]; rw [Bool.eq_iff_iff]; simp; omega
theorem out_add {a b : Int} (h : 9007199254740992 < a.natAbs ∨ 9007199254740992 < b.natAbs) : addB a b = true ∧ mulB a b = true := by
  unfold addB mulB bothB
  rcases h with h | h <;> rw [clB_out h] <;> simp

set_option maxHeartbeats 8000000 in
set_option maxRecDepth 100000 in
theorem walk (a : Int) (wa : (Lit.int .i64 a).wf = true) (b : Int) (wb : (Lit.int .i64 b).wf = true) (w : World) :
    Calls Try.prog 5 #[.int .i64 a, .int .i64 b] w fun e w' => e = .returned (.bool true) ∧ Below w.heap.size w w' := by
  have ba := bounds_i64 wa
  have bb := bounds_i64 wb
  clear wa wb
  by_cases h : 9007199254740992 < a.natAbs ∨ 9007199254740992 < b.natAbs
  · obtain ⟨e1, e2⟩ := out_add h
    have hcase : 9007199254740992 < a ∨ (a ≤ 9007199254740992 ∧ a < -9007199254740992) ∨ (a ≤ 9007199254740992 ∧ -9007199254740992 ≤ a ∧ 9007199254740992 < b) ∨ (a ≤ 9007199254740992 ∧ -9007199254740992 ≤ a ∧ b ≤ 9007199254740992 ∧ b < -9007199254740992) := by omega
    clear h
    rcases hcase with h1 | ⟨h1, h2⟩ | ⟨h1, h2, h3⟩ | ⟨h1, h2, h3, h4⟩
    all_goals
      go_enter Try.func5, Try.ntmps5
      go_wp2_with (first
    | (go_at_call 8; refine (sat_clamp _ _).mono ?_; rintro e w' ⟨rfl, rfl⟩)
    | (go_at_call 9; refine (ref_clamp _ _).mono ?_; rintro e w' ⟨rfl, rfl⟩)
    | (go_at_call 10; refine (sat_add _ _ _).mono ?_; rintro e w' ⟨rfl, rfl⟩)
    | (go_at_call 11; refine (ref_add _ _ _).mono ?_; rintro e w' ⟨rfl, rfl⟩)
    | (go_at_call 14; refine (sat_mul _ _ _).mono ?_; rintro e w' ⟨rfl, rfl⟩)
    | (go_at_call 15; refine (ref_mul _ _ _).mono ?_; rintro e w' ⟨rfl, rfl⟩)
    | (go_at_call 12; refine (sat_sub _ _ _).mono ?_; rintro e w' ⟨rfl, rfl⟩)
    | (go_at_call 13; refine (ref_sub _ _ _).mono ?_; rintro e w' ⟨rfl, rfl⟩)
    | (go_at_call 16; refine (sat_within _ _ _ _).mono ?_; rintro e w' ⟨rfl, rfl⟩)
    | (go_at_call 17; refine (ref_within _ _ _ _).mono ?_; rintro e w' ⟨rfl, rfl⟩)
    | (go_at_call 18; refine (law_awake _).mono ?_; rintro e w' ⟨rfl, hb⟩))
      all_goals go_ret
      all_goals exact ⟨rfl, hb⟩
  · have ha : a.natAbs ≤ 9007199254740992 := by omega
    have hb : b.natAbs ≤ 9007199254740992 := by omega
    obtain ⟨s1, s2⟩ := add_in ha hb
    obtain ⟨d1, d2⟩ := sub_in ha hb
    obtain ⟨m1, m2⟩ := mul_is ha hb
    have hmul : (b = 0 ∧ mulB a b = false ∧ mulV a b = 0) ∨ (b ≠ 0 ∧ mulB a b = false ∧ mulV a b = a * b) ∨ (a < 0 ∧ b < 0 ∧ mulB a b = true ∧ mulV a b = 9007199254740992) ∨ (0 < a ∧ 0 < b ∧ mulB a b = true ∧ mulV a b = 9007199254740992) ∨
        (a < 0 ∧ 0 < b ∧ mulB a b = true ∧ mulV a b = -9007199254740992) ∨ (0 < a ∧ b < 0 ∧ mulB a b = true ∧ mulV a b = -9007199254740992) := by
      by_cases hin : (a * b).natAbs ≤ 9007199254740992
      · have e1 : mulB a b = false := by rw [m1]; simpa using hin
        have e2 : mulV a b = a * b := by rw [m2, clV_in hin]
        by_cases h0 : b = 0
        · left; refine ⟨h0, e1, ?_⟩; rw [e2, h0, Int.mul_zero]
        · right; left; exact ⟨h0, e1, e2⟩
      · have hout : 9007199254740992 < (a * b).natAbs := by omega
        have e1 : mulB a b = true := by rw [m1]; simpa using hout
        have hn : a * b ≠ 0 := by omega
        have hsg := mul_neg_iff hn
        have ha0 : a ≠ 0 := by rintro rfl; simp at hn
        have hb0 : b ≠ 0 := by rintro rfl; simp at hn
        right; right
        by_cases hs : a < 0 <;> by_cases ht : b < 0 <;> simp only [hs, ht, iff_self, iff_true, iff_false, not_true_eq_false, not_false_eq_true] at hsg
        · left; exact ⟨hs, ht, e1, by rw [m2, clV_pos hout (by omega)]⟩
        · right; right; left; exact ⟨hs, by omega, e1, by rw [m2, clV_neg hout (by simpa using hsg)]⟩
        · right; right; right; exact ⟨by omega, ht, e1, by rw [m2, clV_neg hout (by simpa using hsg)]⟩
        · right; left; exact ⟨by omega, by omega, e1, by rw [m2, clV_pos hout (by omega)]⟩
    have hs : (9007199254740992 < a + b ∨ a + b < -9007199254740992 ∨ (a + b ≤ 9007199254740992 ∧ -9007199254740992 ≤ a + b)) := by omega
    have hd : (9007199254740992 < a - b ∨ a - b < -9007199254740992 ∨ (a - b ≤ 9007199254740992 ∧ -9007199254740992 ≤ a - b)) := by omega
    have l1 : a ≤ 9007199254740992 := by omega
    have l2 : -9007199254740992 ≤ a := by omega
    have l3 : b ≤ 9007199254740992 := by omega
    have l4 : -9007199254740992 ≤ b := by omega
    have SUM : Hid (addB a b = false → addV a b = a + b) := Lib.hid s2
    have DIF : Hid (subB a b = false → subV a b = a - b) := Lib.hid d2
    clear h ha hb ba bb m1 m2 s2 d2
    have key : ∀ (p1 p2 p3 p4 : Bool), decide (9007199254740992 < a + b) = p1 → decide (a + b < -9007199254740992) = p2 → decide (9007199254740992 < a - b) = p3 → decide (a - b < -9007199254740992) = p4 →
        addB a b = (p1 || p2) → subB a b = (p3 || p4) → ((p1 || p2) = false → addV a b = a + b) → ((p3 || p4) = false → subV a b = a - b) → ¬ (p1 && p2) → ¬ (p3 && p4) →
        Calls Try.prog 5 #[.int .i64 a, .int .i64 b] w fun e w' => e = .returned (.bool true) ∧ Below w.heap.size w w' := by
      intro p1 p2 p3 p4 g1 g2 g3 g4 sb db sv' dv' n1 n2
      clear hs hd s1 d1 SUM DIF
      rcases hmul with ⟨hb0, hm, hv⟩ | ⟨hb0, hm, hv⟩ | ⟨hs, ht, hm, hv⟩ | ⟨hs, ht, hm, hv⟩ | ⟨hs, ht, hm, hv⟩ | ⟨hs, ht, hm, hv⟩
      · have b0 : (b == 0) = true := beq_iff_eq.2 hb0
        have b1 : (b != 0) = false := by rw [hb0]; rfl
        clear hb0
        cases p1 <;> cases p2 <;> cases p3 <;> cases p4 <;> simp at n1 n2 sb db sv' dv' <;> clear n1 n2
        all_goals
          go_enter Try.func5, Try.ntmps5
          go_wp2_with (first
    | (go_at_call 8; refine (sat_clamp _ _).mono ?_; rintro e w' ⟨rfl, rfl⟩)
    | (go_at_call 9; refine (ref_clamp _ _).mono ?_; rintro e w' ⟨rfl, rfl⟩)
    | (go_at_call 10; refine (sat_add _ _ _).mono ?_; rintro e w' ⟨rfl, rfl⟩)
    | (go_at_call 11; refine (ref_add _ _ _).mono ?_; rintro e w' ⟨rfl, rfl⟩)
    | (go_at_call 14; refine (sat_mul _ _ _).mono ?_; rintro e w' ⟨rfl, rfl⟩)
    | (go_at_call 15; refine (ref_mul _ _ _).mono ?_; rintro e w' ⟨rfl, rfl⟩)
    | (go_at_call 12; refine (sat_sub _ _ _).mono ?_; rintro e w' ⟨rfl, rfl⟩)
    | (go_at_call 13; refine (ref_sub _ _ _).mono ?_; rintro e w' ⟨rfl, rfl⟩)
    | (go_at_call 16; refine (sat_within _ _ _ _).mono ?_; rintro e w' ⟨rfl, rfl⟩)
    | (go_at_call 17; refine (ref_within _ _ _ _).mono ?_; rintro e w' ⟨rfl, rfl⟩)
    | (go_at_call 18; refine (law_awake _).mono ?_; rintro e w' ⟨rfl, hb⟩))
          all_goals go_ret
          all_goals exact ⟨rfl, hb⟩
      · have ht1 : Int.tmod (a * b) b = 0 := Int.mul_tmod_left ..
        have ht2 : Int.tdiv (a * b) b = a := Int.mul_tdiv_cancel _ hb0
        have b0 : (b == 0) = false := beq_eq_false_iff_ne.2 hb0
        have b1 : (b != 0) = true := by rw [bne_iff_ne]; exact hb0
        cases p1 <;> cases p2 <;> cases p3 <;> cases p4 <;> simp at n1 n2 sb db sv' dv' <;> clear n1 n2
        all_goals
          go_enter Try.func5, Try.ntmps5
          go_wp2_with (first
    | (go_at_call 8; refine (sat_clamp _ _).mono ?_; rintro e w' ⟨rfl, rfl⟩)
    | (go_at_call 9; refine (ref_clamp _ _).mono ?_; rintro e w' ⟨rfl, rfl⟩)
    | (go_at_call 10; refine (sat_add _ _ _).mono ?_; rintro e w' ⟨rfl, rfl⟩)
    | (go_at_call 11; refine (ref_add _ _ _).mono ?_; rintro e w' ⟨rfl, rfl⟩)
    | (go_at_call 14; refine (sat_mul _ _ _).mono ?_; rintro e w' ⟨rfl, rfl⟩)
    | (go_at_call 15; refine (ref_mul _ _ _).mono ?_; rintro e w' ⟨rfl, rfl⟩)
    | (go_at_call 12; refine (sat_sub _ _ _).mono ?_; rintro e w' ⟨rfl, rfl⟩)
    | (go_at_call 13; refine (ref_sub _ _ _).mono ?_; rintro e w' ⟨rfl, rfl⟩)
    | (go_at_call 16; refine (sat_within _ _ _ _).mono ?_; rintro e w' ⟨rfl, rfl⟩)
    | (go_at_call 17; refine (ref_within _ _ _ _).mono ?_; rintro e w' ⟨rfl, rfl⟩)
    | (go_at_call 18; refine (law_awake _).mono ?_; rintro e w' ⟨rfl, hb⟩))
          all_goals go_ret
          all_goals exact ⟨rfl, hb⟩
      all_goals
        have a0 : (a == 0) = false := beq_eq_false_iff_ne.2 (by omega)
        have b0 : (b == 0) = false := beq_eq_false_iff_ne.2 (by omega)
        have a1 : (a != 0) = true := by rw [bne_iff_ne]; omega
        have b1 : (b != 0) = true := by rw [bne_iff_ne]; omega
        first
          | (have a2 : decide (a < 0) = true := by rw [decide_eq_true_eq]; exact hs)
          | (have a2 : decide (a < 0) = false := by rw [decide_eq_false_iff_not]; omega)
        first
          | (have b2 : decide (b < 0) = true := by rw [decide_eq_true_eq]; exact ht)
          | (have b2 : decide (b < 0) = false := by rw [decide_eq_false_iff_not]; omega)
        cases p1 <;> cases p2 <;> cases p3 <;> cases p4 <;> simp at n1 n2 sb db sv' dv' <;> clear n1 n2
        all_goals
          go_enter Try.func5, Try.ntmps5
          go_wp2_with (first
    | (go_at_call 8; refine (sat_clamp _ _).mono ?_; rintro e w' ⟨rfl, rfl⟩)
    | (go_at_call 9; refine (ref_clamp _ _).mono ?_; rintro e w' ⟨rfl, rfl⟩)
    | (go_at_call 10; refine (sat_add _ _ _).mono ?_; rintro e w' ⟨rfl, rfl⟩)
    | (go_at_call 11; refine (ref_add _ _ _).mono ?_; rintro e w' ⟨rfl, rfl⟩)
    | (go_at_call 14; refine (sat_mul _ _ _).mono ?_; rintro e w' ⟨rfl, rfl⟩)
    | (go_at_call 15; refine (ref_mul _ _ _).mono ?_; rintro e w' ⟨rfl, rfl⟩)
    | (go_at_call 12; refine (sat_sub _ _ _).mono ?_; rintro e w' ⟨rfl, rfl⟩)
    | (go_at_call 13; refine (ref_sub _ _ _).mono ?_; rintro e w' ⟨rfl, rfl⟩)
    | (go_at_call 16; refine (sat_within _ _ _ _).mono ?_; rintro e w' ⟨rfl, rfl⟩)
    | (go_at_call 17; refine (ref_within _ _ _ _).mono ?_; rintro e w' ⟨rfl, rfl⟩)
    | (go_at_call 18; refine (law_awake _).mono ?_; rintro e w' ⟨rfl, hb⟩))
          all_goals go_ret
          all_goals exact ⟨rfl, hb⟩
    refine key _ _ _ _ rfl rfl rfl rfl ?_ ?_ ?_ ?_ ?_ ?_
    · rw [s1]; simp
    · rw [d1]; simp
    · intro h; exact SUM.out (by rw [s1]; simpa using h)
    · intro h; exact DIF.out (by rw [d1]; simpa using h)
    · simp; omega
    · simp; omega

theorem lifted (os : Os) (started : os.Started) (H : Type) (enc : TypeId × Value → H) :
    ReturnsInHanded {} Try.checked os 5 .any (Rows.satExactSpec.pre6 enc Try.prog Try.f5 Rows.satExactRow.domain false) (Rows.satExactSpec.post enc Try.prog Try.f5 false true false false) := by
  refine law_lift started (by kernel_rfl) Try.func5 rfl rfl ?_ (by kernel_rfl)
    (ChangeSpec.witness6 (enc := enc) (C := Try.checked) false ⟨#[], #[.int .i64 0, .int .i64 0], []⟩ 8 (by kernel_rfl) (by kernel_rfl) (by kernel_rfl) (by kernel_rfl)) ?_
  · intro ds hl
    match ds, hl with
    | [_, _], _ => exact ⟨rfl, rfl, rfl⟩
  · intro W base args ds p hval hA hlt hwt
    rw [Try.params5] at hA hval hwt
    obtain ⟨v0, vs0, d0, ds0, p0, q0, hargs, rfl, rfl, h0, r0⟩ := trodAll_cons hA
    obtain ⟨v1, vs1, d1, ds1, p1, q1, rfl, rfl, rfl, h1, r1⟩ := trodAll_cons r0
    obtain ⟨rfl, rfl, rfl⟩ := trodAll_nil r1
    obtain rfl : args = #[v0, v1] := by cases args; simp_all
    obtain ⟨a0, rfl, rfl, rfl, w0⟩ := open_int Try.underlying3 (hval 0 3 v0 rfl rfl) h0
    obtain ⟨a1, rfl, rfl, rfl, w1⟩ := open_int Try.underlying3 (hval 1 3 v1 rfl rfl) h1
    exact walk a0 w0 a1 w1 W

theorem over : Rows.satExactRow.holds Try.pinned (OpenSpec.ofChange Rows.satExactSpec) :=
  OpenClaim.holds_of_wide 5 Try.f5 rfl rfl rfl rfl rfl rfl rfl ⟨rfl, rfl, rfl, rfl, rfl⟩ rfl rfl rfl rfl rfl (by kernel_rfl) Try.func5 (by kernel_rfl)
    (of_decide_eq_true (by kernel_rfl)) (by unfold Func.isWrapper; first | (rw [if_pos (by decide +kernel)]; kernel_rfl) | (rw [if_neg (by decide +kernel)]; exact ⟨rfl, rfl⟩))
    (fun os started H enc _ => lifted os started H enc)

theorem proved : Rows.SatExactSaid := over
#print axioms proved
end Go.Proofs.Ytckafdjinelchaa.satExact
