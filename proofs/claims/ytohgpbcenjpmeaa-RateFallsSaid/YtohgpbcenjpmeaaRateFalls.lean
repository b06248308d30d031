/- RateFalls holds of every pair of numbers: fewer ticks are no slower, nor is a set with fewer drops. No condition. -/
import Derived.Test.YtohgpbcenjpmeaaRate
import Derived.Test.YtohgpbcenjpmeaaLift
namespace Go.Proofs.Ytohgpbcenjpmeaa.rateFalls
open Go.ChangeShapes Go.WideShapes Go.ChangeAt Go.RowKit
set_option linter.unusedVariables false

theorem ediv_anti {A x y : Int} (hA : 0 ≤ A) (h0 : 0 < x) (h : x ≤ y) : A / y ≤ A / x := by
  have q0 : 0 ≤ A / y := Int.ediv_nonneg hA (by omega)
  refine (Int.le_ediv_iff_mul_le h0).2 (Int.le_trans (Int.mul_le_mul_of_nonneg_left h q0) ?_)
  exact Int.ediv_mul_le _ (by omega)
theorem cl_mono {m n : Int} (h : m ≤ n) : clV m ≤ clV n := by
  unfold clV withV; split <;> (try split) <;> (try split) <;> (try split) <;> (try split) <;> (try split) <;> omega
theorem falls {m n : Int} (h0 : 1 ≤ m) (h : m ≤ n) :
    shB m 20 = true ∧ shB n 20 = true ∧ shB m 60 = true ∧ shV n 20 ≤ shV m 20 ∧ shV m 60 ≤ shV m 20 ∧ shV m 20 ≤ 36000000 ∧ 0 ≤ shV n 20 := by
  have k1 : knB 20 = true := by decide
  have k2 : knB 60 = true := by decide
  obtain ⟨c0, c1⟩ := cl_one h0
  obtain ⟨d0, d1⟩ := cl_one (show 1 ≤ n by omega)
  have cm := cl_mono h
  unfold shB shV
  rw [k1, k2, if_pos (⟨rfl, h0⟩ : true = true ∧ 1 ≤ m), if_pos (⟨rfl, by omega⟩ : true = true ∧ 1 ≤ n), if_pos (⟨rfl, h0⟩ : true = true ∧ 1 ≤ m)]
  refine ⟨by simpa using h0, by simp; omega, by simpa using h0, ediv_anti (by omega) (by omega) (by omega), ediv_anti (by omega) (by omega) (by omega), ?_, Int.ediv_nonneg (by omega) (by omega)⟩
  have := ediv_anti (A := 360000000) (x := 20) (y := clV m * 20) (by omega) (by omega) (by omega)
  omega

theorem way (a b : Int) (W : World) (m n : Int) (hm : max (min a b) 1 = m) (b1 : shB m 20 = true) (b2 : shB n 20 = true) (b3 : shB m 60 = true) (k1 : shV n 20 ≤ shV m 20) (k2 : shV m 60 ≤ shV m 20) (k3 : shV m 20 ≤ 36000000) (k4 : 0 ≤ shV n 20)
    (hn : (a < b ∧ b < 1 ∧ n = 1) ∨ (a < b ∧ ¬ b < 1 ∧ n = b) ∨ (¬ a < b ∧ a < 1 ∧ n = 1) ∨ (¬ a < b ∧ ¬ a < 1 ∧ n = a)) :
    Calls Try.prog 4 #[.int .i64 a, .int .i64 b] W fun e W' => e = .returned (.bool true) ∧ Below W.heap.size W W' := by
  have hb := At.refl W
  have e1 : shV 1 10 = 36000000 := by decide +kernel
  have e2 : shB 1 10 = true := by decide +kernel
  have t1 := decide_eq_true k1
  have t2 := decide_eq_true k2
  have t3 := decide_eq_true k3
  have t4 := decide_eq_true k4
  clear k1 k2 k3 k4
  rcases hn with ⟨h1, h2, hn⟩ | ⟨h1, h2, hn⟩ | ⟨h1, h2, hn⟩ | ⟨h1, h2, hn⟩
  all_goals
    subst hn
    go_enter Try.func4, Try.ntmps4
    go_wp2_with (first
    | (go_at_call 6; refine (rt_of _ _ _ _ (by assumption)).mono ?_; rintro e w' ⟨rfl, hb⟩)
    | (go_at_call 12; refine (law10_awake _ _ (by assumption)).mono ?_; rintro e w' ⟨rfl, hb⟩))
    all_goals go_ret
    all_goals exact ⟨rfl, by assumption⟩

theorem walk (a : Int) (wa : (Lit.int .i64 a).wf = true) (b : Int) (wb : (Lit.int .i64 b).wf = true) (W : World) :
    Calls Try.prog 4 #[.int .i64 a, .int .i64 b] W fun e W' => e = .returned (.bool true) ∧ Below W.heap.size W W' := by
  obtain ⟨m, hm⟩ : ∃ m, max (min a b) 1 = m := ⟨_, rfl⟩
  have m0 : 1 ≤ m := by omega
  rcases (by omega : (a < b ∧ b < 1) ∨ (a < b ∧ ¬ b < 1) ∨ (¬ a < b ∧ a < 1) ∨ (¬ a < b ∧ ¬ a < 1)) with ⟨h1, h2⟩ | ⟨h1, h2⟩ | ⟨h1, h2⟩ | ⟨h1, h2⟩
  · obtain ⟨b1, b2, b3, k1, k2, k3, k4⟩ := falls (n := 1) m0 (by omega)
    exact way a b W m 1 hm b1 b2 b3 k1 k2 k3 k4 (.inl ⟨h1, h2, rfl⟩)
  · obtain ⟨b1, b2, b3, k1, k2, k3, k4⟩ := falls (n := b) m0 (by omega)
    exact way a b W m b hm b1 b2 b3 k1 k2 k3 k4 (.inr (.inl ⟨h1, h2, rfl⟩))
  · obtain ⟨b1, b2, b3, k1, k2, k3, k4⟩ := falls (n := 1) m0 (by omega)
    exact way a b W m 1 hm b1 b2 b3 k1 k2 k3 k4 (.inr (.inr (.inl ⟨h1, h2, rfl⟩)))
  · obtain ⟨b1, b2, b3, k1, k2, k3, k4⟩ := falls (n := a) m0 (by omega)
    exact way a b W m a hm b1 b2 b3 k1 k2 k3 k4 (.inr (.inr (.inr ⟨h1, h2, rfl⟩)))

theorem lifted (os : Os) (started : os.Started) (H : Type) (enc : TypeId × Value → H) :
    ReturnsInHanded {} Try.checked os 4 .any (Rows.rateFallsSpec.pre6 enc Try.prog Try.f4 Rows.rateFallsRow.domain false) (Rows.rateFallsSpec.post enc Try.prog Try.f4 false true false false) := by
  refine law_lift started (by kernel_rfl) Try.func4 rfl rfl ?_ (by kernel_rfl)
    (ChangeSpec.witness6 (enc := enc) (C := Try.checked) false ⟨#[], #[.int .i64 0, .int .i64 0], []⟩ 8 (by kernel_rfl) (by kernel_rfl) (by kernel_rfl) (by kernel_rfl)) ?_
  · intro ds hl
    match ds, hl with
    | [_, _], _ => exact ⟨rfl, rfl, rfl⟩
  · intro W base args ds p hval hA hlt hwt
    rw [Try.params4] at hA hval hwt
    obtain ⟨v0, vs0, d0, ds0, p0, q0, hargs, rfl, rfl, h0, r0⟩ := trodAll_cons hA
    obtain ⟨v1, vs1, d1, ds1, p1, q1, rfl, rfl, rfl, h1, r1⟩ := trodAll_cons r0
    obtain ⟨rfl, rfl, rfl⟩ := trodAll_nil r1
    obtain rfl : args = #[v0, v1] := by cases args; simp_all
    obtain ⟨a0, rfl, rfl, rfl, w0⟩ := open_int Try.underlying3 (hval 0 3 v0 rfl rfl) h0
    obtain ⟨a1, rfl, rfl, rfl, w1⟩ := open_int Try.underlying3 (hval 1 3 v1 rfl rfl) h1
    exact walk a0 w0 a1 w1 W

theorem over : Rows.rateFallsRow.holds Try.pinned (OpenSpec.ofChange Rows.rateFallsSpec) :=
  OpenClaim.holds_of_wide 4 Try.f4 rfl rfl rfl rfl rfl rfl rfl ⟨rfl, rfl, rfl, rfl, rfl⟩ rfl rfl rfl rfl rfl (by kernel_rfl) Try.func4 (by kernel_rfl)
    (of_decide_eq_true (by kernel_rfl)) (by unfold Func.isWrapper; first | (rw [if_pos (by decide +kernel)]; kernel_rfl) | (rw [if_neg (by decide +kernel)]; exact ⟨rfl, rfl⟩))
    (fun os started H enc _ => lifted os started H enc)

theorem proved : Rows.RateFallsSaid := over
#print axioms proved
end Go.Proofs.Ytohgpbcenjpmeaa.rateFalls
