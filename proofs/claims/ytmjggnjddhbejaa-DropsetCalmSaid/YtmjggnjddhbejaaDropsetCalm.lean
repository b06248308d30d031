/- DropsetCalm holds of every rate, every set and every wait: drops that come no faster than they should are never more in a minute than the limit. No condition. -/
import Derived.Test.YtmjggnjddhbejaaDrop
namespace Go.Proofs.Ytmjggnjddhbejaa.dropsetCalm
open Go.ChangeShapes Go.WideShapes Go.ChangeAt Go.RowKit
set_option linter.unusedVariables false

theorem every_in (D : Int) (h0 : 10 ≤ D) (h1 : D ≤ 60000) : 6 ≤ 360000 / D ∧ 360000 / D ≤ 36000 ∧ 360000 / D * D ≤ 360000 ∧ 360000 < (360000 / D + 1) * D := by
  have a := Int.mul_ediv_add_emod 360000 D
  have b := Int.emod_nonneg 360000 (b := D) (by omega)
  have c := Int.emod_lt_of_pos 360000 (b := D) (by omega)
  rw [Int.mul_comm] at a
  have e : (360000 / D + 1) * D = 360000 / D * D + D := by rw [Int.add_mul, Int.one_mul]
  refine ⟨(Int.le_ediv_iff_mul_le (by omega)).2 (by omega), ?_, by omega, by omega⟩
  have h : (360000 / D) * 10 ≤ 360000 / D * D := Int.mul_le_mul_of_nonneg_left h0 (Int.ediv_nonneg (by omega) (by omega))
  omega
theorem calm_in (D e g : Int) (h0 : 10 ≤ D) (he : 360000 < (e + 1) * D) (e0 : 0 ≤ e) (hg : e + 1 ≤ g) : 5999 / g + 1 ≤ D / 60 + 8 := by
  have a := Int.mul_ediv_add_emod 5999 g
  have b := Int.emod_nonneg 5999 (b := g) (by omega)
  have q0 : 0 ≤ 5999 / g := Int.ediv_nonneg (by omega) (by omega)
  generalize 5999 / g = q at *
  have c : (e + 1) * D ≤ g * D := Int.mul_le_mul_of_nonneg_right hg (by omega)
  have d : q * 360000 ≤ q * (g * D) := Int.mul_le_mul_of_nonneg_left (by omega) q0
  have f : g * q * D ≤ 5999 * D := Int.mul_le_mul_of_nonneg_right (by omega) (by omega)
  have i : q * (g * D) = g * q * D := by rw [← Int.mul_assoc, Int.mul_comm q g]
  omega
theorem later_in (D : Int) (h0 : 10 ≤ D) : 360000 / D < 1440000 / D + 50 := by
  have := Int.ediv_le_ediv (a := 360000) (b := 1440000) (c := D) (by omega) (by omega)
  omega

set_option maxHeartbeats 1000000 in
theorem walk (a : Int) (wa : (Lit.int .u16 a).wf = true) (b : Int) (wb : (Lit.int .u8 b).wf = true) (c : Int) (wc : (Lit.int .u8 c).wf = true) (w : World) :
    Calls Try.prog 5 #[.int .u16 a, .int .u8 b, .int .u8 c] w fun e w' => e = .returned (.bool true) ∧ Below w.heap.size w w' := by
  have a0 : 0 ≤ a ∧ a ≤ 65535 := by simp only [Lit.wf, IntKind.min, IntKind.max, IntKind.signed, IntKind.bits, Bool.and_eq_true] at wa; simpa using wa
  have b0 : 0 ≤ b ∧ b ≤ 255 := by simp only [Lit.wf, IntKind.min, IntKind.max, IntKind.signed, IntKind.bits, Bool.and_eq_true] at wb; simpa using wb
  have c0 : 0 ≤ c ∧ c ≤ 255 := by simp only [Lit.wf, IntKind.min, IntKind.max, IntKind.signed, IntKind.bits, Bool.and_eq_true] at wc; simpa using wc
  obtain ⟨k, rfl⟩ := Int.eq_ofNat_of_zero_le b0.1
  have hk : k < 256 := by omega
  obtain ⟨r, hr⟩ : ∃ v, 1 + a % 1000 = v := ⟨_, rfl⟩
  have ⟨r0, r1⟩ : 1 ≤ r ∧ r ≤ 1000 := by omega
  have ⟨A0, A1⟩ := a0
  have ⟨C0, C1⟩ := c0
  have HS := Lib.hid (fun w => law9_set k hk w)
  have hf := set_kn k
  generalize setV k = f at *
  have hb := At.refl w
  clear a0 b0 c0 wa wb wc
  have ⟨D0, D1⟩ := hour_in hf r0 r1
  have ⟨E0, E1, E2, E3⟩ := every_in (r * f) D0 D1
  have hl := later_in (r * f) D0
  have hg := calm_in (r * f) (360000 / (r * f)) (360000 / (r * f) + 1 + c) D0 E3 (by omega) (by omega)
  have h1 := fun (w' : World) (h : At w w') => ds_every w r f hf r0 r1 w' h
  have h2 := fun (w' : World) (h : At w w') => ds_limit w r f hf r0 r1 w' h
  have h3 := fun (w' : World) (h : At w w') => ds_timeout w r f hf r0 r1 w' h
  have hL : 0 ≤ r * f / 60 ∧ r * f / 60 ≤ 1000 := by omega
  obtain ⟨L0, L1⟩ := hL
  generalize 360000 / (r * f) = E at *
  generalize 1440000 / (r * f) = T at *
  generalize r * f / 60 = L at *
  rw [← Int.mul_assoc] at E2 E3
  have F0 : 10 ≤ f ∧ f ≤ 60 := by rcases hf with rfl | rfl | rfl | rfl <;> omega
  obtain ⟨f0, f1⟩ := F0
  have P0 : 0 ≤ E * r ∧ E * r ≤ 36000000 := ⟨Int.mul_nonneg (by omega) (by omega), by have := Int.mul_le_mul_of_nonneg_right E1 (show 0 ≤ r by omega); omega⟩
  have P1 : 0 ≤ (E + 1) * r ∧ (E + 1) * r ≤ 36001000 := by rw [Int.add_mul, Int.one_mul]; omega
  obtain ⟨P00, P01⟩ := P0
  obtain ⟨P10, P11⟩ := P1
  have Q0 : 0 ≤ E * r * f := Int.mul_nonneg (by omega) (by omega)
  have Q1 : (E + 1) * r * f ≤ 36001000 * f := Int.mul_le_mul_of_nonneg_right P11 (by omega)
  have Q2 : (E + 1) * r * f ≤ 2160060000 := by omega
  have t1 : decide (E * r * f ≤ 360000) = true := by simpa using E2
  have t2 : decide (360000 < (E + 1) * r * f) = true := by simpa using E3
  obtain ⟨G, hG⟩ : ∃ G, 5999 / (E + 1 + c) = G := ⟨_, rfl⟩
  rw [hG] at hg
  have t3 : decide (G + 1 ≤ L + 8) = true := by simpa using hg
  have t4 : decide (E < T + 50) = true := by simpa using hl
  have G0 : 0 ≤ G := hG ▸ Int.ediv_nonneg (by omega) (by omega)
  have tz : ((E + 1 + c) == 0) = false := by simp; omega
  have H1 := Lib.hid h1
  have H2 := Lib.hid h2
  have H3 := Lib.hid h3
  clear h1 h2 h3 hf D0 D1 Q1
  go_enter Try.func5, Try.ntmps5
  go_wp2_with (first
    | (go_at_call 6; refine (HS.out _).mono ?_; rintro e w' ⟨rfl, rfl⟩)
    | (go_at_call 10; refine (H1.out _ (by assumption)).mono ?_; rintro e w' ⟨rfl, hb⟩)
    | (go_at_call 11; refine (H2.out _ (by assumption)).mono ?_; rintro e w' ⟨rfl, hb⟩)
    | (go_at_call 12; refine (H3.out _ (by assumption)).mono ?_; rintro e w' ⟨rfl, hb⟩)
    | (go_at_call 9; refine (law9_awake w _ (by assumption)).mono ?_; rintro e w' ⟨rfl, hb⟩))
  all_goals go_ret
  all_goals exact ⟨rfl, by assumption⟩

theorem lifted (os : Os) (started : os.Started) (H : Type) (enc : TypeId × Value → H) :
    ReturnsInHanded {} Try.checked os 5 .any (Rows.dropsetCalmSpec.pre6 enc Try.prog Try.f5 Rows.dropsetCalmRow.domain false) (Rows.dropsetCalmSpec.post enc Try.prog Try.f5 false true false false) := by
  refine law_lift started (by kernel_rfl) Try.func5 rfl rfl ?_ (by kernel_rfl)
    (ChangeSpec.witness6 (enc := enc) (C := Try.checked) false ⟨#[], #[.int .u16 0, .int .u8 0, .int .u8 0], []⟩ 8 (by kernel_rfl) (by kernel_rfl) (by kernel_rfl) (by kernel_rfl)) ?_
  · intro ds hl
    match ds, hl with
    | [_, _, _], _ => exact ⟨rfl, rfl, rfl⟩
  · intro W base args ds p hval hA hlt hwt
    rw [Try.params5] at hA hval hwt
    obtain ⟨v0, vs0, d0, ds0, p0, q0, hargs, rfl, rfl, h0, r0⟩ := trodAll_cons hA
    obtain ⟨v1, vs1, d1, ds1, p1, q1, rfl, rfl, rfl, h1, r1⟩ := trodAll_cons r0
    obtain ⟨v2, vs2, d2, ds2, p2, q2, rfl, rfl, rfl, h2, r2⟩ := trodAll_cons r1
    obtain ⟨rfl, rfl, rfl⟩ := trodAll_nil r2
    obtain rfl : args = #[v0, v1, v2] := by cases args; simp_all
    obtain ⟨a0, rfl, rfl, rfl, w0⟩ := open_int Try.underlying30 (hval 0 30 v0 rfl rfl) h0
    obtain ⟨a1, rfl, rfl, rfl, w1⟩ := open_int Try.underlying5 (hval 1 5 v1 rfl rfl) h1
    obtain ⟨a2, rfl, rfl, rfl, w2⟩ := open_int Try.underlying5 (hval 2 5 v2 rfl rfl) h2
    exact walk a0 w0 a1 w1 a2 w2 W

theorem over : Rows.dropsetCalmRow.holds Try.pinned (OpenSpec.ofChange Rows.dropsetCalmSpec) :=
  OpenClaim.holds_of_wide 5 Try.f5 rfl rfl rfl rfl rfl rfl rfl ⟨rfl, rfl, rfl, rfl, rfl⟩ rfl rfl rfl rfl rfl (by kernel_rfl) Try.func5 (by kernel_rfl)
    (of_decide_eq_true (by kernel_rfl)) (by unfold Func.isWrapper; first | (rw [if_pos (by decide +kernel)]; kernel_rfl) | (rw [if_neg (by decide +kernel)]; exact ⟨rfl, rfl⟩))
    (fun os started H enc _ => lifted os started H enc)

theorem proved : Rows.DropsetCalmSaid := over
#print axioms proved
end Go.Proofs.Ytmjggnjddhbejaa.dropsetCalm
