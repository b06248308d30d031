/- QuotLeaves is true of any two integers: the quotient times b, and what is left, are a; what is left has the sign of b, and is less; the nearest one is apart by a half at the most. -/
import Derived.Test.YtonlcpodedpnpaaQLaw
import Derived.Test.YtonlcpodedpnpaaLift
namespace Go.Proofs.Ytonlcpodedpnpaa.quotLeaves
open Go.ChangeShapes Go.WideShapes Go.ChangeAt Go.RowKit
set_option linter.unusedVariables false

theorem near_of {X Y Q M : Int} (hy : Y ≠ 0) (e : Q * Y + M = X) (hp : 0 < Y → 0 ≤ M ∧ M < Y) (hn : Y < 0 → Y < M ∧ M ≤ 0) :
    (flo (2 * X + Y) (2 * Y) = Q ∧ (2 * (X - Q * Y)).natAbs ≤ Y.natAbs) ∨ (flo (2 * X + Y) (2 * Y) = Q + 1 ∧ (2 * (X - (Q + 1) * Y)).natAbs ≤ Y.natAbs) := by
  have e2 : Q * (2 * Y) = 2 * (Q * Y) := by rw [Int.mul_left_comm]
  have e3 : (Q + 1) * (2 * Y) = 2 * (Q * Y) + 2 * Y := by rw [Int.add_mul, e2, Int.one_mul]
  have e4 : (Q + 1) * Y = Q * Y + Y := by rw [Int.add_mul, Int.one_mul]
  by_cases h0 : 0 < Y
  · have ⟨a, b⟩ := hp h0
    by_cases h : 2 * M < Y
    · exact .inl ⟨flo_unique (m := 2 * M + Y) (by omega) (fun _ => ⟨by omega, by omega⟩) (fun h => absurd h (by omega)) (by omega), by omega⟩
    · exact .inr ⟨flo_unique (m := 2 * M - Y) (by omega) (fun _ => ⟨by omega, by omega⟩) (fun h => absurd h (by omega)) (by omega), by omega⟩
  · have ⟨a, b⟩ := hn (by omega)
    by_cases h : Y < 2 * M
    · exact .inl ⟨flo_unique (m := 2 * M + Y) (by omega) (fun h => absurd h (by omega)) (fun _ => ⟨by omega, by omega⟩) (by omega), by omega⟩
    · exact .inr ⟨flo_unique (m := 2 * M - Y) (by omega) (fun h => absurd h (by omega)) (fun _ => ⟨by omega, by omega⟩) (by omega), by omega⟩

theorem facts {a b : Int} (hy : clV b ≠ 0) : ∃ N, (flV a b * clV b + mdV a b = clV a) ∧ (0 < clV b → 0 ≤ mdV a b ∧ mdV a b < clV b) ∧ (clV b < 0 → clV b < mdV a b ∧ mdV a b ≤ 0) ∧
    nrV a b = N ∧ (N = flV a b ∨ N = flV a b + 1) ∧ (2 * (clV a - N * clV b)).natAbs ≤ (clV b).natAbs := by
  obtain ⟨m, e, hp, hn⟩ := flo_spec (clV a) hy
  have e1 : flV a b = flo (clV a) (clV b) := by unfold flV; rw [if_neg hy]
  have e2 : mdV a b = m := by unfold mdV; rw [if_neg hy]; omega
  have e3 : nrV a b = flo (2 * clV a + clV b) (2 * clV b) := by unfold nrV; rw [if_neg hy]
  rw [e1, e2, e3]
  rcases near_of hy e hp hn with ⟨h, k⟩ | ⟨h, k⟩
  · exact ⟨_, e, hp, hn, h, .inl rfl, k⟩
  · exact ⟨_, e, hp, hn, h, .inr rfl, k⟩

theorem in_same {n : Int} (h : clB n = false) : clV n = n := clV_same h

set_option maxRecDepth 100000 in
set_option maxHeartbeats 2000000 in
theorem walk (a : Int) (wa : (Lit.int .i64 a).wf = true) (b : Int) (wb : (Lit.int .i64 b).wf = true) (w : World) :
    Calls Try.prog 4 #[.int .i64 a, .int .i64 b] w fun e w' => e = .returned (.bool true) ∧ Below w.heap.size w w' := by
  have hb := At.refl w
  have ⟨ha0, ha1⟩ := clV_bd a
  have ⟨hb0, hb1⟩ := clV_bd b
  by_cases hy : clV b = 0
  · have e1 : flV a b = 0 := by unfold flV; rw [if_pos hy]
    have e2 : mdV a b = 0 := by unfold mdV; rw [if_pos hy]
    have e3 : nrV a b = 0 := by unfold nrV; rw [if_pos hy]
    have e4 := nzB_t hy
    go_enter Try.func4, Try.ntmps4
    go_wp2_with (first
    | (go_at_call 16; refine (sat_clamp _ _).mono ?_; rintro e w' ⟨rfl, rfl⟩)
    | (go_at_call 7; refine (l_floor _ _ _ _ (by assumption)).mono ?_; rintro e w' ⟨rfl, hb⟩)
    | (go_at_call 9; refine (l_mod _ _ _ _ (by assumption)).mono ?_; rintro e w' ⟨rfl, hb⟩)
    | (go_at_call 11; refine (l_near _ _ _ _ (by assumption)).mono ?_; rintro e w' ⟨rfl, hb⟩)
    | (go_at_call 15; refine (law2_awake _ _ (by assumption)).mono ?_; rintro e w' ⟨rfl, hb⟩))
    all_goals go_ret
    all_goals exact ⟨rfl, hb⟩
  · obtain ⟨N, e, hp, hn, eN, hN, hd⟩ := facts (a := a) hy
    have e4 := nzB_f hy
    have hz0 : (clV b == 0) = false := by simpa using hy
    obtain ⟨Q, hQ⟩ : ∃ Q, flV a b = Q := ⟨_, rfl⟩
    obtain ⟨M, hM⟩ : ∃ M, mdV a b = M := ⟨_, rfl⟩
    rw [hQ, hM] at e
    rw [hM] at hp hn
    rw [hQ] at hN
    have q0 : -18014398509481984 ≤ Q * clV b ∧ Q * clV b ≤ 18014398509481984 := by
      by_cases h0 : 0 < clV b
      · have := hp h0; omega
      · have := hn (by omega); omega
    have d0 : -18014398509481984 ≤ N * clV b ∧ N * clV b ≤ 18014398509481984 := by omega
    have ⟨q1, q2⟩ := q0
    have ⟨d1, d2⟩ := d0
    have hkeep : clB a = true ∨ (clB a = false ∧ (a == clV a) = true) := by
      rcases Bool.eq_false_or_eq_true (clB a) with h | h
      · exact .inl h
      · exact .inr ⟨h, by simpa using (in_same h).symm⟩
    have hkeep2 : clB b = true ∨ (clB b = false ∧ (b == clV b) = true) := by
      rcases Bool.eq_false_or_eq_true (clB b) with h | h
      · exact .inl h
      · exact .inr ⟨h, by simpa using (in_same h).symm⟩
    have hN2 : ((N != Q) = false) ∨ ((N != Q) = true ∧ (N != Q + 1) = false) := by
      by_cases h : N = Q
      · exact .inl (by simpa using h)
      · exact .inr ⟨by simpa using h, by simpa using (show N = Q + 1 by omega)⟩
    have s0 : -9007199254740992 ≤ Q * clV b + M := by omega
    have s1 : Q * clV b + M ≤ 9007199254740992 := by omega
    have eT : (Q * clV b + M != clV a) = false := by simpa using e
    have HD := Lib.hid hd
    have HE := Lib.hid e
    have HP := Lib.hid hp
    have HNN := Lib.hid hn
    clear e hN hd hp hn hy q0 d0
    have HY := Lib.hid (show clV b ≠ 0 by simpa using hz0)
    have hQb := flo_bd (x := clV a) (show clV b ≠ 0 by simpa using hz0)
    rw [show flo (clV a) (clV b) = Q by rw [← hQ]; unfold flV; rw [if_neg (by simpa using hz0)]] at hQb
    have d5 : decide (max (2 * (clV a - N * clV b)) (-2 * (clV a - N * clV b)) ≤ max (clV b) (-clV b)) = true := by
      have := HD.out; simp only [decide_eq_true_eq]; omega
    have hs : (decide (0 < clV b) = true ∧ decide (clV b < 0) = false ∧ decide (M < 0) = false ∧ decide (clV b ≤ M) = false) ∨ (decide (0 < clV b) = false ∧ decide (clV b < 0) = true ∧ decide (0 < M) = false ∧ decide (M ≤ clV b) = false) := by
      simp only [decide_eq_true_eq, decide_eq_false_iff_not]
      by_cases h0 : 0 < clV b
      · have := HP.out h0; exact .inl (by omega)
      · have := HY.out; have := HNN.out (by omega); exact .inr (by omega)
    rcases hs with ⟨t1, t2, t3, t4⟩ | ⟨t1, t2, t3, t4⟩ <;> rcases hkeep with k1 | ⟨k1, k2⟩ <;> rcases hkeep2 with k3 | ⟨k3, k4⟩ <;> rcases hN2 with n1 | ⟨n1, n2⟩
    all_goals
      go_enter Try.func4, Try.ntmps4
      go_wp2_with (first
    | (go_at_call 16; refine (sat_clamp _ _).mono ?_; rintro e w' ⟨rfl, rfl⟩)
    | (go_at_call 7; refine (l_floor _ _ _ _ (by assumption)).mono ?_; rintro e w' ⟨rfl, hb⟩)
    | (go_at_call 9; refine (l_mod _ _ _ _ (by assumption)).mono ?_; rintro e w' ⟨rfl, hb⟩)
    | (go_at_call 11; refine (l_near _ _ _ _ (by assumption)).mono ?_; rintro e w' ⟨rfl, hb⟩)
    | (go_at_call 15; refine (law2_awake _ _ (by assumption)).mono ?_; rintro e w' ⟨rfl, hb⟩))
      go_ret
      exact ⟨rfl, hb⟩

theorem lifted (os : Os) (started : os.Started) (H : Type) (enc : TypeId × Value → H) :
    ReturnsInHanded {} Try.checked os 4 .any (Rows.quotLeavesSpec.pre6 enc Try.prog Try.f4 Rows.quotLeavesRow.domain false) (Rows.quotLeavesSpec.post enc Try.prog Try.f4 false true false false) := by
  refine law_lift started (by kernel_rfl) Try.func4 rfl rfl ?_ (by kernel_rfl)
    (ChangeSpec.witness6 (enc := enc) (C := Try.checked) false ⟨#[], #[.int .i64 0, .int .i64 0], []⟩ 8 (by kernel_rfl) (by kernel_rfl) (by kernel_rfl) (by kernel_rfl)) ?_
  · intro ds hl
    match ds, hl with
    | [_, _], _ => exact ⟨rfl, rfl, rfl⟩
  · intro W base args ds p hval hA hlt hwt
    rw [Try.params4] at hA hval hwt
    obtain ⟨v0, vs0, d0, ds0, p0, q0, hargs, rfl, rfl, h0, r0⟩ := trodAll_cons hA
    obtain ⟨v1, vs1, d1, ds1, p1, q1, rfl, rfl, rfl, h1, r1⟩ := trodAll_cons r0
    obtain ⟨rfl, rfl, rfl⟩ := trodAll_nil r1
    obtain rfl : args = #[v0, v1] := by cases args; simp_all
    obtain ⟨a0, rfl, rfl, rfl, w0⟩ := open_int Try.underlying3 (hval 0 3 v0 rfl rfl) h0
    obtain ⟨a1, rfl, rfl, rfl, w1⟩ := open_int Try.underlying3 (hval 1 3 v1 rfl rfl) h1
    exact walk a0 w0 a1 w1 W

theorem over : Rows.quotLeavesRow.holds Try.pinned (OpenSpec.ofChange Rows.quotLeavesSpec) :=
  OpenClaim.holds_of_wide 4 Try.f4 rfl rfl rfl rfl rfl rfl rfl ⟨rfl, rfl, rfl, rfl, rfl⟩ rfl rfl rfl rfl rfl (by kernel_rfl) Try.func4 (by kernel_rfl)
    (of_decide_eq_true (by kernel_rfl)) (by unfold Func.isWrapper; first | (rw [if_pos (by decide +kernel)]; kernel_rfl) | (rw [if_neg (by decide +kernel)]; exact ⟨rfl, rfl⟩))
    (fun os started H enc _ => lifted os started H enc)

theorem proved : Rows.QuotLeavesSaid := over
#print axioms proved
end Go.Proofs.Ytonlcpodedpnpaa.quotLeaves
