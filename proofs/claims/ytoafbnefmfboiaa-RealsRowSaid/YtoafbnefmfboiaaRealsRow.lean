/- RealsRow holds of every three float64: real numbers stand in one row. No condition. -/
import Derived.Test.YtoafbnefmfboiaaLaw3
import Derived.Test.YtoafbnefmfboiaaLift
namespace Go.Proofs.Ytoafbnefmfboiaa.realsRow
open Go.ChangeShapes Go.WideShapes Go.ChangeAt Go.RowKit Ieee
set_option linter.unusedVariables false
attribute [local go_sem] o_eql o_neq o_lss o_gtr

theorem fl_lt {b : Nat} (h : (Lit.float .f64 b).wf = true) : b < 18446744073709551616 := by
  simpa [Lit.wf] using h

theorem BIG_pos : 0 < (BIG : Int) := by
  have := mgR_pos (r := 9218868437227405312) (by omega)
  unfold BIG; omega
/-- What a kind says of the place in the row. -/
theorem key_kd (x : Nat) :
    (kdV x = 1 ∧ key x = 2 * (BIG : Int) + 1) ∨ (kdV x = 2 ∧ key x = -(2 * (BIG : Int))) ∨ (kdV x = 3 ∧ key x = 2 * (BIG : Int)) ∨ (kdV x = 4 ∧ key x = -1) ∨ (kdV x = 5 ∧ key x = 0) ∨
    (kdV x = 6 ∧ key x ≠ 0 ∧ key x ≠ -1 ∧ -(2 * (BIG : Int)) < key x ∧ key x < 2 * (BIG : Int)) := by
  rcases kinds x with ⟨h1, hk⟩ | ⟨h1, _, h3, h4, hk⟩ | ⟨h1, _, _, h4, h5, hk⟩ | ⟨h1, _, _, _, h5, h6, hk⟩ | ⟨h1, _, _, _, h5, h6, hk⟩ | ⟨h1, _, _, _, h5, h6, hk⟩
  · left; exact ⟨hk, by unfold key; rw [h1]; rfl⟩
  · right; left
    refine ⟨hk, ?_⟩
    unfold key V
    rw [h1, h3, h4]
    simp [sn, BIG]
    omega
  · right; right; left
    refine ⟨hk, ?_⟩
    unfold key V
    rw [h1, h4, h5]
    simp [sn, BIG]
  · right; right; right; right; right
    have a := mgR_lt h6
    have b := mgR_pos h5
    refine ⟨hk, ?_⟩
    unfold key V
    rw [h1, if_neg (by simp), if_neg (by omega)]
    unfold sn BIG
    split <;> omega
  · right; right; right; left
    refine ⟨hk, ?_⟩
    unfold key
    rw [h1, zero_V.2 h5, h5, h6]; rfl
  · right; right; right; right; left
    refine ⟨hk, ?_⟩
    unfold key
    rw [h1, zero_V.2 h5, h5, h6]; rfl

theorem od_self (a : Nat) : odV a a = 0 := by unfold odV; rw [if_neg (by omega), if_neg (by omega)]
theorem od_turn (a b : Nat) : odV b a = -odV a b := by
  unfold odV; split <;> (try split) <;> (try split) <;> omega
theorem od_goes {a b c : Nat} (h : odV a b ≤ 0) (g : odV b c ≤ 0) : odV a c ≤ 0 := by
  have h1 := od_le0 a b
  have h2 := od_le0 b c
  have h3 := od_le0 a c
  rw [decide_eq_decide] at h1 h2 h3
  omega
theorem od_kd {a b : Nat} (h : odV a b = 0) : kdV a = kdV b := by
  have hk : key a = key b := by unfold odV at h; split at h <;> (try split at h) <;> omega
  have hB := BIG_pos
  rcases key_kd a with ⟨k, e⟩ | ⟨k, e⟩ | ⟨k, e⟩ | ⟨k, e⟩ | ⟨k, e⟩ | ⟨k, e⟩ <;> rcases key_kd b with ⟨k', e'⟩ | ⟨k', e'⟩ | ⟨k', e'⟩ | ⟨k', e'⟩ | ⟨k', e'⟩ | ⟨k', e'⟩ <;> omega
theorem od_plain {a b : Nat} (h : odV a b ≠ 0) (g : kdV a = kdV b) : kdV a = 6 := by
  have hk : key a ≠ key b := by intro e; apply h; unfold odV; rw [if_neg (by omega), if_neg (by omega)]
  have hB := BIG_pos
  rcases key_kd a with ⟨k, e⟩ | ⟨k, e⟩ | ⟨k, e⟩ | ⟨k, e⟩ | ⟨k, e⟩ | ⟨k, e⟩ <;> rcases key_kd b with ⟨k', e'⟩ | ⟨k', e'⟩ | ⟨k', e'⟩ | ⟨k', e'⟩ | ⟨k', e'⟩ | ⟨k', e'⟩ <;> omega
theorem od_eq {a b : Nat} (h : odV a b ≠ 0) (g : eqF a b = true) : eqF a 0 = true := by
  have hk : key a ≠ key b := by intro e; apply h; unfold odV; rw [if_neg (by omega), if_neg (by omega)]
  unfold eqF at g
  cases na : nanB a
  · cases nb : nanB b
    · rw [na, nb] at g
      have hv : V a = V b := by simpa using g
      have e : rg a = 0 ↔ rg b = 0 := by rw [← zero_V, ← zero_V, hv]
      rw [eq0, decide_eq_true_eq]
      unfold key at hk
      rw [na, nb, hv] at hk
      by_cases z : rg a = 0
      · exact z
      · exfalso
        have z' : ¬ rg b = 0 := fun k => z (e.2 k)
        simp only [Bool.false_eq_true, if_false, z, z', false_and] at hk
        exact hk rfl
    · rw [na, nb] at g; simp at g
  · rw [na] at g; simp at g

/-- All that the law asks, ahead of its walk. -/
theorem asks (a b c : Nat) (ha : a < 18446744073709551616) (hb : b < 18446744073709551616) :
    ∃ A B C D s, odV a b = A ∧ odV b a = B ∧ odV b c = C ∧ odV a c = D ∧ odV a a = 0 ∧ (kdV a == kdV b) = s ∧
      ((decide (A ≤ 0) = false ∨ (decide (A ≤ 0) = true ∧ decide (C ≤ 0) = false) ∨ (decide (A ≤ 0) = true ∧ decide (C ≤ 0) = true ∧ decide (0 < D) = false))) ∧
      ((ltF a b = true ∧ ltF b a = false ∧ eqF a b = false ∧ A = -1 ∧ B = 1) ∨ (ltF a b = false ∧ ltF b a = true ∧ eqF a b = false ∧ A = 1 ∧ B = -1) ∨
       (ltF a b = false ∧ ltF b a = false ∧ eqF a b = false ∧ ((A = -1 ∧ B = 1) ∨ (A = 0 ∧ B = 0) ∨ (A = 1 ∧ B = -1))) ∨
       (ltF a b = false ∧ ltF b a = false ∧ eqF a b = true ∧ eqF a 0 = true ∧ ((A = -1 ∧ B = 1) ∨ (A = 1 ∧ B = -1))) ∨
       (ltF a b = false ∧ ltF b a = false ∧ eqF a b = true ∧ A = 0 ∧ B = 0)) ∧
      (A = 0 → s = true) ∧ (A ≠ 0 → s = true → (kdV a == 6) = true) := by
  have ht := od_turn a b
  have hbd : odV a b = -1 ∨ odV a b = 0 ∨ odV a b = 1 := by unfold odV; split <;> (try split) <;> simp
  have hg := @od_goes a b c
  refine ⟨odV a b, odV b a, odV b c, odV a c, _, rfl, rfl, rfl, rfl, od_self a, rfl, ?_, ?_, ?_, ?_⟩
  · by_cases p : odV a b ≤ 0
    · by_cases q : odV b c ≤ 0
      · right; right
        exact ⟨decide_eq_true p, decide_eq_true q, decide_eq_false (by have := hg p q; omega)⟩
      · right; left
        exact ⟨decide_eq_true p, decide_eq_false q⟩
    · left; exact decide_eq_false p
  · have hlt : ltF a b = true → ltF b a = false ∧ eqF a b = false := by
      unfold ltF eqF; cases nanB a <;> cases nanB b <;> simp <;> omega
    have hgt : ltF b a = true → eqF a b = false := by
      unfold ltF eqF; cases nanB a <;> cases nanB b <;> simp <;> omega
    rcases orders ha hb with ⟨h1, hk⟩ | ⟨h1, h2, hk⟩ | ⟨h1, h2, hk⟩
    · left
      exact ⟨h1, (hlt h1).1, (hlt h1).2, hk, by omega⟩
    · right; left
      exact ⟨h1, h2, hgt h2, hk, by omega⟩
    · cases he : eqF a b
      · right; right; left
        exact ⟨h1, h2, rfl, by omega⟩
      · by_cases z : odV a b = 0
        · right; right; right; right
          exact ⟨h1, h2, rfl, z, by omega⟩
        · right; right; right; left
          exact ⟨h1, h2, rfl, od_eq z he, by omega⟩
  · intro h
    exact beq_iff_eq.2 (od_kd h)
  · intro h g
    exact beq_iff_eq.2 (od_plain h (beq_iff_eq.1 g))

set_option maxRecDepth 100000 in
set_option maxHeartbeats 4000000 in
theorem walk (a : Nat) (wa : (Lit.float .f64 a).wf = true) (b : Nat) (wb : (Lit.float .f64 b).wf = true) (c : Nat) (wc : (Lit.float .f64 c).wf = true) (W : World) :
    Calls Try.prog 5 #[.float .f64 a, .float .f64 b, .float .f64 c] W fun e W' => e = .returned (.bool true) ∧ Below W.heap.size W W' := by
  have ha := fl_lt wa
  have hb' := fl_lt wb
  have hc := fl_lt wc
  have hb := At.refl W
  obtain ⟨A, B, C, D, s, eA, eB, eC, eD, eS, es, h1, h2, h3, h4⟩ := asks a b c ha hb'
  cases s
  all_goals rcases h2 with ⟨l1, l2, l3, rfl, rfl⟩ | ⟨l1, l2, l3, rfl, rfl⟩ | ⟨l1, l2, l3, ⟨rfl, rfl⟩ | ⟨rfl, rfl⟩ | ⟨rfl, rfl⟩⟩ | ⟨l1, l2, l3, l4, ⟨rfl, rfl⟩ | ⟨rfl, rfl⟩⟩ | ⟨l1, l2, l3, rfl, rfl⟩
  all_goals first
    | (have := h3 rfl; simp at this; done)
    | skip
  all_goals try have k6 := h4 (by decide) rfl
  all_goals clear h3 h4
  all_goals rcases h1 with t1 | ⟨t1, t2⟩ | ⟨t1, t2, t3⟩
  all_goals first
    | (simp at t1; done)
    | skip
  all_goals
    clear t1
    go_enter Try.func5, Try.ntmps5
    go_wp2_with (first
    | (go_at_call 17; refine (r_order _ _ (by first | assumption | decide) (by first | assumption | decide) _).mono ?_; rintro e w' ⟨rfl, rfl⟩)
    | (go_at_call 15; refine (r_kind _ (by first | assumption | decide) _).mono ?_; rintro e w' ⟨rfl, rfl⟩)
    | (go_at_call 18; refine (law3_awake _ _ (by assumption)).mono ?_; rintro e w' ⟨rfl, hb⟩))
    all_goals go_ret
    all_goals exact ⟨rfl, hb⟩

theorem lifted (os : Os) (started : os.Started) (H : Type) (enc : TypeId × Value → H) :
    ReturnsInHanded {} Try.checked os 5 .any (Rows.realsRowSpec.pre6 enc Try.prog Try.f5 Rows.realsRowRow.domain false) (Rows.realsRowSpec.post enc Try.prog Try.f5 false true false false) := by
  refine law_lift started (by kernel_rfl) Try.func5 rfl rfl ?_ (by kernel_rfl)
    (ChangeSpec.witness6 (enc := enc) (C := Try.checked) false ⟨#[], #[.float .f64 0, .float .f64 0, .float .f64 0], []⟩ 8 (by kernel_rfl) (by kernel_rfl) (by kernel_rfl) (by kernel_rfl)) ?_
  · intro ds hl
    match ds, hl with
    | [_, _, _], _ => exact ⟨rfl, rfl, rfl⟩
  · intro W base args ds p hval hA hlt hwt
    rw [Try.params5] at hA hval hwt
    obtain ⟨v0, vs0, d0, ds0, p0, q0, hargs, rfl, rfl, h0, r0⟩ := trodAll_cons hA
    obtain ⟨v1, vs1, d1, ds1, p1, q1, rfl, rfl, rfl, h1, r1⟩ := trodAll_cons r0
    obtain ⟨v2, vs2, d2, ds2, p2, q2, rfl, rfl, rfl, h2, r2⟩ := trodAll_cons r1
    obtain ⟨rfl, rfl, rfl⟩ := trodAll_nil r2
    obtain rfl : args = #[v0, v1, v2] := by cases args; simp_all
    obtain ⟨a0, rfl, rfl, rfl, w0⟩ := open_float Try.underlying22 (hval 0 22 v0 rfl rfl) h0
    obtain ⟨a1, rfl, rfl, rfl, w1⟩ := open_float Try.underlying22 (hval 1 22 v1 rfl rfl) h1
    obtain ⟨a2, rfl, rfl, rfl, w2⟩ := open_float Try.underlying22 (hval 2 22 v2 rfl rfl) h2
    exact walk a0 w0 a1 w1 a2 w2 W

theorem over : Rows.realsRowRow.holds Try.pinned (OpenSpec.ofChange Rows.realsRowSpec) :=
  OpenClaim.holds_of_wide 5 Try.f5 rfl rfl rfl rfl rfl rfl rfl ⟨rfl, rfl, rfl, rfl, rfl⟩ rfl rfl rfl rfl rfl (by kernel_rfl) Try.func5 (by kernel_rfl)
    (of_decide_eq_true (by kernel_rfl)) (by unfold Func.isWrapper; first | (rw [if_pos (by decide +kernel)]; kernel_rfl) | (rw [if_neg (by decide +kernel)]; exact ⟨rfl, rfl⟩))
    (fun os started H enc _ => lifted os started H enc)

theorem proved : Rows.RealsRowSaid := over
#print axioms proved
end Go.Proofs.Ytoafbnefmfboiaa.realsRow
