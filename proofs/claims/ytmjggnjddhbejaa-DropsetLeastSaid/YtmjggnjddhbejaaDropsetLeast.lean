/- DropsetLeast holds of every volume and every set: so many drops are enough, and one less is not. No condition. -/
import Derived.Test.YtmjggnjddhbejaaDrop
namespace Go.Proofs.Ytmjggnjddhbejaa.dropsetLeast
open Go.ChangeShapes Go.WideShapes Go.ChangeAt Go.RowKit
set_option linter.unusedVariables false

theorem least (v f : Int) (hf : Kn f) (v0 : 0 ≤ v) (v1 : v ≤ 1000000000000) :
    0 ≤ -(-v * f / 1000) ∧ -(-v * f / 1000) ≤ 60000000000 ∧ v ≤ -(-v * f / 1000) * 1000 / f ∧ (v = 0 → -(-v * f / 1000) = 0) ∧ (0 < v → 1 ≤ -(-v * f / 1000) ∧ (-(-v * f / 1000) - 1) * 1000 / f < v) := by
  rcases hf with rfl | rfl | rfl | rfl <;> refine ⟨?_, ?_, ?_, ?_, ?_⟩ <;> omega

theorem walk (a : Int) (wa : (Lit.int .u64 a).wf = true) (b : Int) (wb : (Lit.int .u8 b).wf = true) (w : World) :
    Calls Try.prog 3 #[.int .u64 a, .int .u8 b] w fun e w' => e = .returned (.bool true) ∧ Below w.heap.size w w' := by
  have a0 : 0 ≤ a ∧ a ≤ 18446744073709551615 := by simp only [Lit.wf, IntKind.min, IntKind.max, IntKind.signed, IntKind.bits, Bool.and_eq_true] at wa; simpa using wa
  have b0 : 0 ≤ b ∧ b ≤ 255 := by simp only [Lit.wf, IntKind.min, IntKind.max, IntKind.signed, IntKind.bits, Bool.and_eq_true] at wb; simpa using wb
  obtain ⟨k, rfl⟩ := Int.eq_ofNat_of_zero_le b0.1
  have hk : k < 256 := by omega
  obtain ⟨v, hv⟩ : ∃ v, a % 1000000000001 = v := ⟨_, rfl⟩
  have ⟨v0, v1⟩ : 0 ≤ v ∧ v ≤ 1000000000000 := by omega
  have ⟨A0, A1⟩ := a0
  have HS := Lib.hid (fun w => law9_set k hk w)
  have hf := set_kn k
  generalize setV k = f at *
  have hb := At.refl w
  clear a0 b0 wa wb
  obtain ⟨N0, N1, hX, hz, hp⟩ := least v f hf v0 v1
  have hD := fun (w' : World) (h : At w w') => ds_drops w v f hf v0 v1 w' h
  generalize -(-v * f / 1000) = N at *
  have hV := fun (w' : World) (h : At w w') => ds_volume w N f hf N0 (by omega) w' h
  generalize N * 1000 / f = X at *
  have HD := Lib.hid hD
  have HV := Lib.hid hV
  have tX : decide (X < v) = false := by simp; omega
  rcases (show v = 0 ∨ 0 < v by omega) with h0 | h0
  · obtain rfl := hz h0
    subst h0
    clear hD hV hp hz hf
    go_enter Try.func3, Try.ntmps3
    go_wp2_with (first
      | (go_at_call 6; refine (HS.out _).mono ?_; rintro e w' ⟨rfl, rfl⟩)
      | (go_at_call 7; refine (HD.out _ (by assumption)).mono ?_; rintro e w' ⟨rfl, hb⟩)
      | (go_at_call 8; refine (HV.out _ (by assumption)).mono ?_; rintro e w' ⟨rfl, hb⟩)
      | (go_at_call 9; refine (law9_awake w _ (by assumption)).mono ?_; rintro e w' ⟨rfl, hb⟩))
    all_goals go_ret
    all_goals exact ⟨rfl, by assumption⟩
  · obtain ⟨n1, hU⟩ := hp h0
    have hW := fun (w' : World) (h : At w w') => ds_volume w (N - 1) f hf (by omega) (by omega) w' h
    generalize (N - 1) * 1000 / f = U at *
    have HW := Lib.hid hW
    have tU : decide (U < v) = true := by simp; omega
    have t0 : (v == 0) = false := by simp; omega
    clear hD hV hz hf hW
    go_enter Try.func3, Try.ntmps3
    go_wp2_with (first
      | (go_at_call 6; refine (HS.out _).mono ?_; rintro e w' ⟨rfl, rfl⟩)
      | (go_at_call 7; refine (HD.out _ (by assumption)).mono ?_; rintro e w' ⟨rfl, hb⟩)
      | (go_at_call 8; ((with_reducible refine (HV.out _ (by assumption)).mono ?_)); rintro e w' ⟨rfl, hb⟩)
      | (go_at_call 8; ((with_reducible refine (HW.out _ (by assumption)).mono ?_)); rintro e w' ⟨rfl, hb⟩)
      | (go_at_call 9; refine (law9_awake w _ (by assumption)).mono ?_; rintro e w' ⟨rfl, hb⟩))
    all_goals go_ret
    all_goals exact ⟨rfl, by assumption⟩

theorem lifted (os : Os) (started : os.Started) (H : Type) (enc : TypeId × Value → H) :
    ReturnsInHanded {} Try.checked os 3 .any (Rows.dropsetLeastSpec.pre6 enc Try.prog Try.f3 Rows.dropsetLeastRow.domain false) (Rows.dropsetLeastSpec.post enc Try.prog Try.f3 false true false false) := by
  refine law_lift started (by kernel_rfl) Try.func3 rfl rfl ?_ (by kernel_rfl)
    (ChangeSpec.witness6 (enc := enc) (C := Try.checked) false ⟨#[], #[.int .u64 0, .int .u8 0], []⟩ 8 (by kernel_rfl) (by kernel_rfl) (by kernel_rfl) (by kernel_rfl)) ?_
  · intro ds hl
    match ds, hl with
    | [_, _], _ => exact ⟨rfl, rfl, rfl⟩
  · intro W base args ds p hval hA hlt hwt
    rw [Try.params3] at hA hval hwt
    obtain ⟨v0, vs0, d0, ds0, p0, q0, hargs, rfl, rfl, h0, r0⟩ := trodAll_cons hA
    obtain ⟨v1, vs1, d1, ds1, p1, q1, rfl, rfl, rfl, h1, r1⟩ := trodAll_cons r0
    obtain ⟨rfl, rfl, rfl⟩ := trodAll_nil r1
    obtain rfl : args = #[v0, v1] := by cases args; simp_all
    obtain ⟨a0, rfl, rfl, rfl, w0⟩ := open_int Try.underlying22 (hval 0 22 v0 rfl rfl) h0
    obtain ⟨a1, rfl, rfl, rfl, w1⟩ := open_int Try.underlying5 (hval 1 5 v1 rfl rfl) h1
    exact walk a0 w0 a1 w1 W

theorem over : Rows.dropsetLeastRow.holds Try.pinned (OpenSpec.ofChange Rows.dropsetLeastSpec) :=
  OpenClaim.holds_of_wide 3 Try.f3 rfl rfl rfl rfl rfl rfl rfl ⟨rfl, rfl, rfl, rfl, rfl⟩ rfl rfl rfl rfl rfl (by kernel_rfl) Try.func3 (by kernel_rfl)
    (of_decide_eq_true (by kernel_rfl)) (by unfold Func.isWrapper; first | (rw [if_pos (by decide +kernel)]; kernel_rfl) | (rw [if_neg (by decide +kernel)]; exact ⟨rfl, rfl⟩))
    (fun os started H enc _ => lifted os started H enc)

theorem proved : Rows.DropsetLeastSaid := over
#print axioms proved
end Go.Proofs.Ytmjggnjddhbejaa.dropsetLeast
