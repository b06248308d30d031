/- SatRing is true of any three integers: where nothing was changed, sums go in any order, what was added is taken away again, and products go through sums. -/
import Derived.Test.YtckafdjinelchaaSatSum
namespace Go.Proofs.Ytckafdjinelchaa.satRing
open Go.ChangeShapes Go.WideShapes Go.ChangeAt Go.RowKit
set_option linter.unusedVariables false

theorem addV_comm (a b : Int) : addV b a = addV a b := by unfold addV; rw [Int.add_comm]
theorem addB_comm (a b : Int) : addB b a = addB a b := by unfold addB bothB; rw [Int.add_comm]; cases clB a <;> cases clB b <;> simp
theorem not_clB {n : Int} (h : clB n = false) : n.natAbs ≤ 9007199254740992 := by
  unfold clB withB at h; simp at h; omega
theorem clB_not {n : Int} (h : clB n = true) : clV n = 9007199254740992 ∨ clV n = -9007199254740992 := by
  unfold clB withB at h; simp at h
  unfold clV withV
  split
  · omega
  · split
    · right; rfl
    · split
      · left; rfl
      · omega
theorem add_unch {a b : Int} (h : addB a b = false) : a.natAbs ≤ 9007199254740992 ∧ b.natAbs ≤ 9007199254740992 ∧ (a + b).natAbs ≤ 9007199254740992 ∧ addV a b = a + b := by
  unfold addB bothB at h
  simp at h
  obtain ⟨⟨h1, h2⟩, h3⟩ := h
  have a1 := not_clB h1
  have b1 := not_clB h2
  rw [clV_in a1, clV_in b1] at h3
  have c1 := not_clB h3
  refine ⟨a1, b1, c1, ?_⟩
  unfold addV; rw [clV_in a1, clV_in b1, clV_in c1]
theorem mul_unch {a b : Int} (h : mulB a b = false) : mulV a b = a * b := by
  unfold mulB bothB at h
  simp at h
  obtain ⟨⟨h1, h2⟩, h3⟩ := h
  have a1 := not_clB h1
  have b1 := not_clB h2
  rw [clV_in a1, clV_in b1] at h3
  have c1 := not_clB h3
  unfold mulV; rw [clV_in a1, clV_in b1, clV_in c1]
theorem add_ch {a b : Int} (h : addB a b = true) : clB a = true ∨ clB b = true ∨ addV a b = 9007199254740992 ∨ addV a b = -9007199254740992 := by
  unfold addB bothB at h
  simp at h
  rcases h with (h | h) | h
  · exact .inl h
  · exact .inr (.inl h)
  · exact .inr (.inr (clB_not h))
theorem sub_back {a b : Int} (h : addB a b = false) : subV (a + b) b = a ∧ subB (a + b) b = false := by
  obtain ⟨a1, b1, c1, _⟩ := add_unch h
  unfold subV subB bothB
  rw [clV_in c1, clV_in b1, show a + b - b = a by omega, clB_in c1, clB_in b1, clB_in a1, clV_in a1]
  exact ⟨rfl, rfl⟩
theorem ring {a b c : Int} (h1 : mulB a c = false) (h2 : mulB b c = false) (h3 : mulB (a + b) c = false) (h4 : addB (mulV a c) (mulV b c) = false) :
    mulV (a + b) c = addV (mulV a c) (mulV b c) := by
  rw [(add_unch h4).2.2.2, mul_unch h1, mul_unch h2, mul_unch h3, Int.add_mul]

set_option maxHeartbeats 8000000 in
set_option maxRecDepth 100000 in
theorem walk (a : Int) (wa : (Lit.int .i64 a).wf = true) (b : Int) (wb : (Lit.int .i64 b).wf = true) (c : Int) (wc : (Lit.int .i64 c).wf = true) (w : World) :
    Calls Try.prog 4 #[.int .i64 a, .int .i64 b, .int .i64 c] w fun e w' => e = .returned (.bool true) ∧ Below w.heap.size w w' := by
  have k1 := clV_bd (clV a + clV b)
  have k2 : -9007199254740992 ≤ addV a b := k1.1
  have k3 : addV a b ≤ 9007199254740992 := k1.2
  have m1 := addV_comm a b
  have m2 := addB_comm a b
  clear wa wb wc k1
  rcases Bool.eq_false_or_eq_true (addB a b) with hf | hf
  · have hc : clB a = true ∨ (clB a = false ∧ clB b = true) ∨ (clB a = false ∧ clB b = false ∧ addV a b = 9007199254740992) ∨ (clB a = false ∧ clB b = false ∧ (addV a b == 9007199254740992) = false ∧ addV a b = -9007199254740992) := by
      rcases Bool.eq_false_or_eq_true (clB a) with ha | ha
      · exact .inl ha
      · rcases Bool.eq_false_or_eq_true (clB b) with hb | hb
        · exact .inr (.inl ⟨ha, hb⟩)
        · rcases add_ch hf with h | h | h | h
          · rw [ha] at h; cases h
          · rw [hb] at h; cases h
          · exact .inr (.inr (.inl ⟨ha, hb, h⟩))
          · exact .inr (.inr (.inr ⟨ha, hb, by rw [h]; rfl, h⟩))
    rcases hc with h1 | ⟨h1, h2⟩ | ⟨h1, h2, h3⟩ | ⟨h1, h2, h4, h3⟩
    all_goals
      go_enter Try.func4, Try.ntmps4
      go_wp2_with (first
    | (go_at_call 8; refine (sat_clamp _ _).mono ?_; rintro e w' ⟨rfl, rfl⟩)
    | (go_at_call 9; refine (ref_clamp _ _).mono ?_; rintro e w' ⟨rfl, rfl⟩)
    | (go_at_call 10; refine (sat_add _ _ _).mono ?_; rintro e w' ⟨rfl, rfl⟩)
    | (go_at_call 11; refine (ref_add _ _ _).mono ?_; rintro e w' ⟨rfl, rfl⟩)
    | (go_at_call 14; refine (sat_mul _ _ _).mono ?_; rintro e w' ⟨rfl, rfl⟩)
    | (go_at_call 15; refine (ref_mul _ _ _).mono ?_; rintro e w' ⟨rfl, rfl⟩)
    | (go_at_call 12; refine (sat_sub _ _ _).mono ?_; rintro e w' ⟨rfl, rfl⟩)
    | (go_at_call 13; refine (ref_sub _ _ _).mono ?_; rintro e w' ⟨rfl, rfl⟩)
    | (go_at_call 16; refine (sat_within _ _ _ _).mono ?_; rintro e w' ⟨rfl, rfl⟩)
    | (go_at_call 17; refine (ref_within _ _ _ _).mono ?_; rintro e w' ⟨rfl, rfl⟩)
    | (go_at_call 18; refine (law_awake _).mono ?_; rintro e w' ⟨rfl, hb⟩))
      all_goals go_ret
      all_goals exact ⟨rfl, hb⟩
  · obtain ⟨a1, b1, c1, e1⟩ := add_unch hf
    obtain ⟨s1, s2⟩ := sub_back hf
    have x1 := clB_in a1
    have x2 := clB_in b1
    have l1 : -9007199254740992 ≤ a + b := by omega
    have l2 : a + b ≤ 9007199254740992 := by omega
    have R := fun h1 h2 h3 h4 => ring (a := a) (b := b) (c := c) h1 h2 h3 h4
    have hc : mulB a c = true ∨ (mulB a c = false ∧ mulB b c = true) ∨ (mulB a c = false ∧ mulB b c = false ∧ mulB (a + b) c = true) ∨
        (mulB a c = false ∧ mulB b c = false ∧ mulB (a + b) c = false ∧ addB (mulV a c) (mulV b c) = true) ∨
        (mulB a c = false ∧ mulB b c = false ∧ mulB (a + b) c = false ∧ addB (mulV a c) (mulV b c) = false ∧ mulV (a + b) c = addV (mulV a c) (mulV b c)) := by
      rcases Bool.eq_false_or_eq_true (mulB a c) with h1 | h1
      · exact .inl h1
      rcases Bool.eq_false_or_eq_true (mulB b c) with h2 | h2
      · exact .inr (.inl ⟨h1, h2⟩)
      rcases Bool.eq_false_or_eq_true (mulB (a + b) c) with h3 | h3
      · exact .inr (.inr (.inl ⟨h1, h2, h3⟩))
      rcases Bool.eq_false_or_eq_true (addB (mulV a c) (mulV b c)) with h4 | h4
      · exact .inr (.inr (.inr (.inl ⟨h1, h2, h3, h4⟩)))
      exact .inr (.inr (.inr (.inr ⟨h1, h2, h3, h4, R h1 h2 h3 h4⟩)))
    clear R a1 b1 c1
    rcases hc with h1 | ⟨h1, h2⟩ | ⟨h1, h2, h3⟩ | ⟨h1, h2, h3, h4⟩ | ⟨h1, h2, h3, h4, h5⟩
    all_goals
      go_enter Try.func4, Try.ntmps4
      go_wp2_with (first
    | (go_at_call 8; refine (sat_clamp _ _).mono ?_; rintro e w' ⟨rfl, rfl⟩)
    | (go_at_call 9; refine (ref_clamp _ _).mono ?_; rintro e w' ⟨rfl, rfl⟩)
    | (go_at_call 10; refine (sat_add _ _ _).mono ?_; rintro e w' ⟨rfl, rfl⟩)
    | (go_at_call 11; refine (ref_add _ _ _).mono ?_; rintro e w' ⟨rfl, rfl⟩)
    | (go_at_call 14; refine (sat_mul _ _ _).mono ?_; rintro e w' ⟨rfl, rfl⟩)
    | (go_at_call 15; refine (ref_mul _ _ _).mono ?_; rintro e w' ⟨rfl, rfl⟩)
    | (go_at_call 12; refine (sat_sub _ _ _).mono ?_; rintro e w' ⟨rfl, rfl⟩)
    | (go_at_call 13; refine (ref_sub _ _ _).mono ?_; rintro e w' ⟨rfl, rfl⟩)
    | (go_at_call 16; refine (sat_within _ _ _ _).mono ?_; rintro e w' ⟨rfl, rfl⟩)
    | (go_at_call 17; refine (ref_within _ _ _ _).mono ?_; rintro e w' ⟨rfl, rfl⟩)
    | (go_at_call 18; refine (law_awake _).mono ?_; rintro e w' ⟨rfl, hb⟩))
      all_goals go_ret
      all_goals exact ⟨rfl, hb⟩

theorem lifted (os : Os) (started : os.Started) (H : Type) (enc : TypeId × Value → H) :
    ReturnsInHanded {} Try.checked os 4 .any (Rows.satRingSpec.pre6 enc Try.prog Try.f4 Rows.satRingRow.domain false) (Rows.satRingSpec.post enc Try.prog Try.f4 false true false false) := by
  refine law_lift started (by kernel_rfl) Try.func4 rfl rfl ?_ (by kernel_rfl)
    (ChangeSpec.witness6 (enc := enc) (C := Try.checked) false ⟨#[], #[.int .i64 0, .int .i64 0, .int .i64 0], []⟩ 8 (by kernel_rfl) (by kernel_rfl) (by kernel_rfl) (by kernel_rfl)) ?_
  · intro ds hl
    match ds, hl with
    | [_, _, _], _ => exact ⟨rfl, rfl, rfl⟩
  · intro W base args ds p hval hA hlt hwt
    rw [Try.params4] at hA hval hwt
    obtain ⟨v0, vs0, d0, ds0, p0, q0, hargs, rfl, rfl, h0, r0⟩ := trodAll_cons hA
    obtain ⟨v1, vs1, d1, ds1, p1, q1, rfl, rfl, rfl, h1, r1⟩ := trodAll_cons r0
    obtain ⟨v2, vs2, d2, ds2, p2, q2, rfl, rfl, rfl, h2, r2⟩ := trodAll_cons r1
    obtain ⟨rfl, rfl, rfl⟩ := trodAll_nil r2
    obtain rfl : args = #[v0, v1, v2] := by cases args; simp_all
    obtain ⟨a0, rfl, rfl, rfl, w0⟩ := open_int Try.underlying3 (hval 0 3 v0 rfl rfl) h0
    obtain ⟨a1, rfl, rfl, rfl, w1⟩ := open_int Try.underlying3 (hval 1 3 v1 rfl rfl) h1
    obtain ⟨a2, rfl, rfl, rfl, w2⟩ := open_int Try.underlying3 (hval 2 3 v2 rfl rfl) h2
    exact walk a0 w0 a1 w1 a2 w2 W

theorem over : Rows.satRingRow.holds Try.pinned (OpenSpec.ofChange Rows.satRingSpec) :=
  OpenClaim.holds_of_wide 4 Try.f4 rfl rfl rfl rfl rfl rfl rfl ⟨rfl, rfl, rfl, rfl, rfl⟩ rfl rfl rfl rfl rfl (by kernel_rfl) Try.func4 (by kernel_rfl)
    (of_decide_eq_true (by kernel_rfl)) (by unfold Func.isWrapper; first | (rw [if_pos (by decide +kernel)]; kernel_rfl) | (rw [if_neg (by decide +kernel)]; exact ⟨rfl, rfl⟩))
    (fun os started H enc _ => lifted os started H enc)

theorem proved : Rows.SatRingSaid := over
#print axioms proved
end Go.Proofs.Ytckafdjinelchaa.satRing
