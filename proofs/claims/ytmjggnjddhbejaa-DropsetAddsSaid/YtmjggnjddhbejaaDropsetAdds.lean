/- DropsetAdds holds of every two counts and every set: volumes add up, but for one microlitre. No condition. -/
import Derived.Test.YtmjggnjddhbejaaDrop
namespace Go.Proofs.Ytmjggnjddhbejaa.dropsetAdds
open Go.ChangeShapes Go.WideShapes Go.ChangeAt Go.RowKit
set_option linter.unusedVariables false

theorem adds (m n f : Int) (hf : Kn f) (m0 : 0 ≤ m) (m1 : m ≤ 1000000000) (n0 : 0 ≤ n) (n1 : n ≤ 1000000000) :
    ((m + n) * 1000 / f = m * 1000 / f + n * 1000 / f ∨ (m + n) * 1000 / f = m * 1000 / f + n * 1000 / f + 1) ∧ m * f * 1000 / f = 1000 * m ∧ 0 ≤ m * f ∧ m * f ≤ 60000000000 ∧
    0 ≤ m * 1000 / f ∧ m * 1000 / f ≤ 100000000000 ∧ 0 ≤ n * 1000 / f ∧ n * 1000 / f ≤ 100000000000 := by
  rcases hf with rfl | rfl | rfl | rfl <;> refine ⟨?_, ?_, ?_, ?_, ?_, ?_, ?_, ?_⟩ <;> omega

theorem walk (a : Int) (wa : (Lit.int .u32 a).wf = true) (b : Int) (wb : (Lit.int .u32 b).wf = true) (c : Int) (wc : (Lit.int .u8 c).wf = true) (w : World) :
    Calls Try.prog 4 #[.int .u32 a, .int .u32 b, .int .u8 c] w fun e w' => e = .returned (.bool true) ∧ Below w.heap.size w w' := by
  have a0 : 0 ≤ a ∧ a ≤ 4294967295 := by simp only [Lit.wf, IntKind.min, IntKind.max, IntKind.signed, IntKind.bits, Bool.and_eq_true] at wa; simpa using wa
  have b0 : 0 ≤ b ∧ b ≤ 4294967295 := by simp only [Lit.wf, IntKind.min, IntKind.max, IntKind.signed, IntKind.bits, Bool.and_eq_true] at wb; simpa using wb
  have c0 : 0 ≤ c ∧ c ≤ 255 := by simp only [Lit.wf, IntKind.min, IntKind.max, IntKind.signed, IntKind.bits, Bool.and_eq_true] at wc; simpa using wc
  obtain ⟨k, rfl⟩ := Int.eq_ofNat_of_zero_le c0.1
  have hk : k < 256 := by omega
  obtain ⟨m, hm⟩ : ∃ v, a % 1000000001 = v := ⟨_, rfl⟩
  obtain ⟨n, hn⟩ : ∃ v, b % 1000000001 = v := ⟨_, rfl⟩
  have ⟨m0, m1⟩ : 0 ≤ m ∧ m ≤ 1000000000 := by omega
  have ⟨n0, n1⟩ : 0 ≤ n ∧ n ≤ 1000000000 := by omega
  have ⟨A0, A1⟩ := a0
  have ⟨B0, B1⟩ := b0
  have HS := Lib.hid (fun w => law9_set k hk w)
  have hf := set_kn k
  generalize setV k = f at *
  have hb := At.refl w
  clear a0 b0 c0 wa wb wc
  obtain ⟨hs, ht, p0, p1, q0, q1, r0, r1⟩ := adds m n f hf m0 m1 n0 n1
  have h1 := fun (w' : World) (h : At w w') => ds_volume w m f hf m0 (by omega) w' h
  have h2 := fun (w' : World) (h : At w w') => ds_volume w n f hf n0 (by omega) w' h
  have h3 := fun (w' : World) (h : At w w') => ds_volume w (m + n) f hf (by omega) (by omega) w' h
  have h4 := fun (w' : World) (h : At w w') => ds_volume w (m * f) f hf p0 (by omega) w' h
  simp only [ht] at h4
  clear ht
  generalize (m + n) * 1000 / f = U at *
  generalize m * 1000 / f = X at *
  generalize n * 1000 / f = Y at *
  have H1 := Lib.hid h1
  have H2 := Lib.hid h2
  have H3 := Lib.hid h3
  have H4 := Lib.hid h4
  have tU : ((U == X + Y) = true) ∨ ((U == X + Y) = false ∧ (U == X + Y + 1) = true) := by
    rcases hs with h | h
    · exact .inl (by simpa using h)
    · exact .inr ⟨by simp; omega, by simpa using h⟩
  clear h1 h2 h3 h4 hs hf
  rcases tU with t1 | ⟨t1, t2⟩
  all_goals
    go_enter Try.func4, Try.ntmps4
    go_wp2_with (first
      | (go_at_call 6; refine (HS.out _).mono ?_; rintro e w' ⟨rfl, rfl⟩)
      | (go_at_call 8; ((with_reducible refine (H1.out _ (by assumption)).mono ?_)); rintro e w' ⟨rfl, hb⟩)
      | (go_at_call 8; ((with_reducible refine (H2.out _ (by assumption)).mono ?_)); rintro e w' ⟨rfl, hb⟩)
      | (go_at_call 8; ((with_reducible refine (H3.out _ (by assumption)).mono ?_)); rintro e w' ⟨rfl, hb⟩)
      | (go_at_call 8; ((with_reducible refine (H4.out _ (by assumption)).mono ?_)); rintro e w' ⟨rfl, hb⟩)
      | (go_at_call 9; refine (law9_awake w _ (by assumption)).mono ?_; rintro e w' ⟨rfl, hb⟩))
    all_goals go_ret
    all_goals exact ⟨rfl, by assumption⟩

theorem lifted (os : Os) (started : os.Started) (H : Type) (enc : TypeId × Value → H) :
    ReturnsInHanded {} Try.checked os 4 .any (Rows.dropsetAddsSpec.pre6 enc Try.prog Try.f4 Rows.dropsetAddsRow.domain false) (Rows.dropsetAddsSpec.post enc Try.prog Try.f4 false true false false) := by
  refine law_lift started (by kernel_rfl) Try.func4 rfl rfl ?_ (by kernel_rfl)
    (ChangeSpec.witness6 (enc := enc) (C := Try.checked) false ⟨#[], #[.int .u32 0, .int .u32 0, .int .u8 0], []⟩ 8 (by kernel_rfl) (by kernel_rfl) (by kernel_rfl) (by kernel_rfl)) ?_
  · intro ds hl
    match ds, hl with
    | [_, _, _], _ => exact ⟨rfl, rfl, rfl⟩
  · intro W base args ds p hval hA hlt hwt
    rw [Try.params4] at hA hval hwt
    obtain ⟨v0, vs0, d0, ds0, p0, q0, hargs, rfl, rfl, h0, r0⟩ := trodAll_cons hA
    obtain ⟨v1, vs1, d1, ds1, p1, q1, rfl, rfl, rfl, h1, r1⟩ := trodAll_cons r0
    obtain ⟨v2, vs2, d2, ds2, p2, q2, rfl, rfl, rfl, h2, r2⟩ := trodAll_cons r1
    obtain ⟨rfl, rfl, rfl⟩ := trodAll_nil r2
    obtain rfl : args = #[v0, v1, v2] := by cases args; simp_all
    obtain ⟨a0, rfl, rfl, rfl, w0⟩ := open_int Try.underlying28 (hval 0 28 v0 rfl rfl) h0
    obtain ⟨a1, rfl, rfl, rfl, w1⟩ := open_int Try.underlying28 (hval 1 28 v1 rfl rfl) h1
    obtain ⟨a2, rfl, rfl, rfl, w2⟩ := open_int Try.underlying5 (hval 2 5 v2 rfl rfl) h2
    exact walk a0 w0 a1 w1 a2 w2 W

theorem over : Rows.dropsetAddsRow.holds Try.pinned (OpenSpec.ofChange Rows.dropsetAddsSpec) :=
  OpenClaim.holds_of_wide 4 Try.f4 rfl rfl rfl rfl rfl rfl rfl ⟨rfl, rfl, rfl, rfl, rfl⟩ rfl rfl rfl rfl rfl (by kernel_rfl) Try.func4 (by kernel_rfl)
    (of_decide_eq_true (by kernel_rfl)) (by unfold Func.isWrapper; first | (rw [if_pos (by decide +kernel)]; kernel_rfl) | (rw [if_neg (by decide +kernel)]; exact ⟨rfl, rfl⟩))
    (fun os started H enc _ => lifted os started H enc)

theorem proved : Rows.DropsetAddsSaid := over
#print axioms proved
end Go.Proofs.Ytmjggnjddhbejaa.dropsetAdds
