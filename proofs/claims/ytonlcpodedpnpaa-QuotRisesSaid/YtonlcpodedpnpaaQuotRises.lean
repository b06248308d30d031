/- QuotRises is true of any three integers: a greater number has no less quotient; twice the product by twice the number is the same. -/
import Derived.Test.YtonlcpodedpnpaaQLaw
import Derived.Test.YtonlcpodedpnpaaLift
namespace Go.Proofs.Ytonlcpodedpnpaa.quotRises
open Go.ChangeShapes Go.WideShapes Go.ChangeAt Go.RowKit
set_option linter.unusedVariables false

theorem clV_mono {a b : Int} (h : a ≤ b) : clV a ≤ clV b := by
  unfold clV withV; repeat' split
  all_goals omega
theorem flo_mono {a b d : Int} (d0 : 0 < d) (h : a ≤ b) : flo a d ≤ flo b d := by
  unfold flo; rw [if_pos d0, if_pos d0]; exact Int.ediv_le_ediv d0 h
theorem rises {X Y Z : Int} (hX : X.natAbs ≤ 9007199254740992) (hY0 : 0 ≤ Y) (hY : Y ≤ 9007199254740992) (hZ : 0 < Z) : mqV X Y Z ≤ mqV (min X 9007199254740991 + 1) Y Z := by
  have hz : 0 < clV Z := by unfold clV withV; repeat' split; all_goals omega
  unfold mqV
  rw [if_neg (by omega), if_neg (by omega), clV_in hX, clV_in (n := Y) (by omega), clV_in (n := min X 9007199254740991 + 1) (by omega)]
  exact clV_mono (flo_mono hz (Int.mul_le_mul_of_nonneg_right (by omega) hY0))
theorem never_zero {X Y Z : Int} (hZ : 0 < Z) : (mqE X Y Z == 2) = false := by
  have hz : 0 < clV Z := by unfold clV withV; repeat' split; all_goals omega
  unfold mqE
  rw [if_neg (by omega)]
  split <;> rfl
theorem flo_twice {a d : Int} (d0 : 0 < d) : flo (2 * a) (2 * d) = flo a d := by
  obtain ⟨m, e, hp, hn⟩ := flo_spec a (show d ≠ 0 by omega)
  have := hp d0
  exact flo_unique (m := 2 * m) (by rw [Int.mul_left_comm]; omega) (fun _ => ⟨by omega, by omega⟩) (fun h => absurd h (by omega)) (by omega)
theorem twice {X H K : Int} (hH0 : 0 ≤ H) (hH : 2 * H ≤ 9007199254740992) (hK0 : 0 < K) (hK : 2 * K ≤ 9007199254740992) : mqV X H K = mqV X (2 * H) (2 * K) ∧ mqE X H K = mqE X (2 * H) (2 * K) := by
  unfold mqV mqE
  rw [clV_in (n := H) (by omega), clV_in (n := K) (by omega), clV_in (n := 2 * H) (by omega), clV_in (n := 2 * K) (by omega), if_neg (show ¬ K = 0 by omega), if_neg (show ¬ K = 0 by omega), if_neg (show ¬ 2 * K = 0 by omega), if_neg (show ¬ 2 * K = 0 by omega),
    Int.mul_left_comm, flo_twice hK0]
  exact ⟨rfl, rfl⟩

theorem walk (a : Int) (wa : (Lit.int .i64 a).wf = true) (b : Int) (wb : (Lit.int .i64 b).wf = true) (c : Int) (wc : (Lit.int .i64 c).wf = true) (w : World) :
    Calls Try.prog 6 #[.int .i64 a, .int .i64 b, .int .i64 c] w fun e w' => e = .returned (.bool true) ∧ Below w.heap.size w w' := by
  have hb := At.refl w
  have hc := wf_bd wc
  clear wa wb wc
  obtain ⟨X, hX⟩ : ∃ X, clV (max a (-9007199254740992)) = X := ⟨_, rfl⟩
  have ⟨x0, x1⟩ := clV_bd (max a (-9007199254740992))
  rw [hX] at x0 x1
  have ⟨b0, b1⟩ := clV_bd b
  obtain ⟨Y, hY⟩ : ∃ Y, max (clV b) (-clV b) = Y := ⟨_, rfl⟩
  obtain ⟨Z, hZ⟩ : ∃ Z, max c 1 = Z := ⟨_, rfl⟩
  have y0 : 0 ≤ Y := by omega
  have y1 : Y ≤ 9007199254740992 := by omega
  have z0 : 0 < Z := by omega
  have z1 : Z ≤ 9223372036854775807 := by omega
  obtain ⟨V, hV⟩ : ∃ V, min X 9007199254740991 + 1 = V := ⟨_, rfl⟩
  have r1 := rises (X := X) (Y := Y) (Z := Z) (by omega) y0 y1 z0
  rw [hV] at r1
  have r2 := never_zero (X := X) (Y := Y) z0
  have r3 := never_zero (X := V) (Y := Y) z0
  obtain ⟨K, hK⟩ : ∃ K, min Z 9007199254740992 / 2 = K := ⟨_, rfl⟩
  obtain ⟨H, hH⟩ : ∃ H, Y / 2 = H := ⟨_, rfl⟩
  by_cases hk : K = 0
  · have hk0 : (K == 0) = true := by simpa using hk
    have HC := Lib.hid hc
    go_enter Try.func6, Try.ntmps6
    go_wp2_with (first
    | (go_at_call 16; refine (sat_clamp _ _).mono ?_; rintro e w' ⟨rfl, rfl⟩)
    | (go_at_call 13; refine (l_muldiv _ _ _ _ _ (by assumption)).mono ?_; rintro e w' ⟨rfl, hb⟩)
    | (go_at_call 15; refine (law2_awake _ _ (by assumption)).mono ?_; rintro e w' ⟨rfl, hb⟩))
    all_goals go_ret
    all_goals exact ⟨rfl, hb⟩
  · have hk0 : (K == 0) = false := by simpa using hk
    have ⟨t1, t2⟩ := twice (X := X) (H := H) (K := K) (by omega) (by omega) (by omega) (by omega)
    have HC := Lib.hid hc
    go_enter Try.func6, Try.ntmps6
    go_wp2_with (first
    | (go_at_call 16; refine (sat_clamp _ _).mono ?_; rintro e w' ⟨rfl, rfl⟩)
    | (go_at_call 13; refine (l_muldiv _ _ _ _ _ (by assumption)).mono ?_; rintro e w' ⟨rfl, hb⟩)
    | (go_at_call 15; refine (law2_awake _ _ (by assumption)).mono ?_; rintro e w' ⟨rfl, hb⟩))
    all_goals go_ret
    all_goals exact ⟨rfl, hb⟩

theorem lifted (os : Os) (started : os.Started) (H : Type) (enc : TypeId × Value → H) :
    ReturnsInHanded {} Try.checked os 6 .any (Rows.quotRisesSpec.pre6 enc Try.prog Try.f6 Rows.quotRisesRow.domain false) (Rows.quotRisesSpec.post enc Try.prog Try.f6 false true false false) := by
  refine law_lift started (by kernel_rfl) Try.func6 rfl rfl ?_ (by kernel_rfl)
    (ChangeSpec.witness6 (enc := enc) (C := Try.checked) false ⟨#[], #[.int .i64 0, .int .i64 0, .int .i64 0], []⟩ 8 (by kernel_rfl) (by kernel_rfl) (by kernel_rfl) (by kernel_rfl)) ?_
  · intro ds hl
    match ds, hl with
    | [_, _, _], _ => exact ⟨rfl, rfl, rfl⟩
  · intro W base args ds p hval hA hlt hwt
    rw [Try.params6] at hA hval hwt
    obtain ⟨v0, vs0, d0, ds0, p0, q0, hargs, rfl, rfl, h0, r0⟩ := trodAll_cons hA
    obtain ⟨v1, vs1, d1, ds1, p1, q1, rfl, rfl, rfl, h1, r1⟩ := trodAll_cons r0
    obtain ⟨v2, vs2, d2, ds2, p2, q2, rfl, rfl, rfl, h2, r2⟩ := trodAll_cons r1
    obtain ⟨rfl, rfl, rfl⟩ := trodAll_nil r2
    obtain rfl : args = #[v0, v1, v2] := by cases args; simp_all
    obtain ⟨a0, rfl, rfl, rfl, w0⟩ := open_int Try.underlying3 (hval 0 3 v0 rfl rfl) h0
    obtain ⟨a1, rfl, rfl, rfl, w1⟩ := open_int Try.underlying3 (hval 1 3 v1 rfl rfl) h1
    obtain ⟨a2, rfl, rfl, rfl, w2⟩ := open_int Try.underlying3 (hval 2 3 v2 rfl rfl) h2
    exact walk a0 w0 a1 w1 a2 w2 W

theorem over : Rows.quotRisesRow.holds Try.pinned (OpenSpec.ofChange Rows.quotRisesSpec) :=
  OpenClaim.holds_of_wide 6 Try.f6 rfl rfl rfl rfl rfl rfl rfl ⟨rfl, rfl, rfl, rfl, rfl⟩ rfl rfl rfl rfl rfl (by kernel_rfl) Try.func6 (by kernel_rfl)
    (of_decide_eq_true (by kernel_rfl)) (by unfold Func.isWrapper; first | (rw [if_pos (by decide +kernel)]; kernel_rfl) | (rw [if_neg (by decide +kernel)]; exact ⟨rfl, rfl⟩))
    (fun os started H enc _ => lifted os started H enc)

theorem proved : Rows.QuotRisesSaid := over
#print axioms proved
end Go.Proofs.Ytonlcpodedpnpaa.quotRises
