/- RateBack holds of every rate, every programme and every set: at the ticks that a rate has it is not slower; with one tick more it is. No condition. -/
import Derived.Test.YtohgpbcenjpmeaaRate
import Derived.Test.YtohgpbcenjpmeaaLift
namespace Go.Proofs.Ytohgpbcenjpmeaa.rateBack
open Go.ChangeShapes Go.WideShapes Go.ChangeAt Go.RowKit
set_option linter.unusedVariables false

theorem hour_u {u f : Int} (hf : Kn f) (u0 : 1 ≤ u) (u1 : u ≤ 1000000) : 10 ≤ u * f ∧ u * f ≤ 60000000 := by rcases hf with rfl | rfl | rfl | rfl <;> omega
/-- What is divided by the quotient is not less; by one more, it is. -/
theorem back_in {A D : Int} (h0 : 0 < D) (hA : D ≤ A) : 1 ≤ A / D ∧ A / D * D ≤ A ∧ A < (A / D + 1) * D :=
  ⟨(Int.le_ediv_iff_mul_le h0).2 (by omega), Int.ediv_mul_le _ (by omega), Int.lt_ediv_add_one_mul_self _ h0⟩
theorem up {A t u f : Int} (f0 : 0 < f) (t0 : 1 ≤ t) (h : t * (u * f) ≤ A) : u ≤ A / (t * f) := by
  refine (Int.le_ediv_iff_mul_le (Int.mul_pos (by omega) f0)).2 ?_
  rwa [show u * (t * f) = t * (u * f) by rw [← Int.mul_assoc, Int.mul_comm u t, Int.mul_assoc]]
theorem down {A t u f : Int} (f0 : 0 < f) (t0 : 1 ≤ t) (h : A < t * (u * f)) : A / (t * f) < u := by
  refine (Int.ediv_lt_iff_lt_mul (Int.mul_pos (by omega) f0)).2 ?_
  rwa [show u * (t * f) = t * (u * f) by rw [← Int.mul_assoc, Int.mul_comm u t, Int.mul_assoc]]
theorem sh_of {n f : Int} (hf : Kn f) (h0 : 1 ≤ n) (h1 : n ≤ 9007199254740992) : shV n f = 360000000 / (n * f) ∧ shB n f = true := by
  unfold shV shB
  rw [if_pos ⟨kn_mk hf, h0⟩, clV_in (by omega), kn_mk hf]
  exact ⟨rfl, by simpa using h0⟩
theorem gl_of {r : Int} (h0 : 1 ≤ r) (h1 : r ≤ 1000) : glV r = r * 1000 := by
  unfold glV withV; rw [if_neg (by omega), if_neg (by omega), if_neg (by omega)]

/-- All that the law compares, by name. -/
theorem facts {u r f : Int} (hf : Kn f) (u0 : 1 ≤ u) (u1 : u ≤ 1000000) (r0 : 1 ≤ r) (r1 : r ≤ 1000) :
    ∃ T E X Y Z G : Int, shV u f = T ∧ shB u f = true ∧ 360000 / (r * f) = E ∧ shV T f = X ∧ shB T f = true ∧ shV (T + 1) f = Y ∧ shB (T + 1) f = true ∧ shV E f = Z ∧ shB E f = true ∧ glV r = G ∧
      1 ≤ T ∧ T ≤ 36000000 ∧ 1 ≤ E ∧ E ≤ 36000 ∧ u ≤ X ∧ Y < u ∧ G ≤ Z := by
  have ⟨D0, D1⟩ := hour_u hf u0 u1
  have ⟨H0, H1⟩ := hour_in hf r0 r1
  have F0 : 0 < f := by rcases hf with rfl | rfl | rfl | rfl <;> omega
  obtain ⟨s1, s2⟩ := sh_of hf u0 (by omega)
  obtain ⟨t0, t1, t2⟩ := back_in (A := 360000000) (D := u * f) (by omega) (by omega)
  obtain ⟨e0, e1, e2⟩ := back_in (A := 360000) (D := r * f) (by omega) (by omega)
  have t3 : 360000000 / (u * f) ≤ 36000000 := by
    have := Int.mul_le_mul_of_nonneg_left D0 (show 0 ≤ 360000000 / (u * f) by omega)
    omega
  have e3 : 360000 / (r * f) ≤ 36000 := by
    have := Int.mul_le_mul_of_nonneg_left H0 (show 0 ≤ 360000 / (r * f) by omega)
    omega
  obtain ⟨x1, x2⟩ := sh_of hf t0 (by omega)
  obtain ⟨y1, y2⟩ := sh_of (n := 360000000 / (u * f) + 1) hf (by omega) (by omega)
  obtain ⟨z1, z2⟩ := sh_of hf e0 (by omega)
  refine ⟨_, _, _, _, _, _, s1, s2, rfl, x1, x2, y1, y2, z1, z2, gl_of r0 r1, t0, t3, e0, e3, up F0 t0 t1, down F0 (by omega) t2, ?_⟩
  refine up F0 e0 ?_
  rw [show r * 1000 * f = r * f * 1000 by rw [Int.mul_assoc, Int.mul_comm 1000 f, ← Int.mul_assoc], ← Int.mul_assoc]
  omega

theorem walk (a : Int) (wa : (Lit.int .u32 a).wf = true) (b : Int) (wb : (Lit.int .u16 b).wf = true) (c : Int) (wc : (Lit.int .u8 c).wf = true) (w : World) :
    Calls Try.prog 5 #[.int .u32 a, .int .u16 b, .int .u8 c] w fun e w' => e = .returned (.bool true) ∧ Below w.heap.size w w' := by
  have a0 : 0 ≤ a ∧ a ≤ 4294967295 := by simp only [Lit.wf, IntKind.min, IntKind.max, IntKind.signed, IntKind.bits, Bool.and_eq_true] at wa; simpa using wa
  have b0 : 0 ≤ b ∧ b ≤ 65535 := by simp only [Lit.wf, IntKind.min, IntKind.max, IntKind.signed, IntKind.bits, Bool.and_eq_true] at wb; simpa using wb
  have c0 : 0 ≤ c ∧ c ≤ 255 := by simp only [Lit.wf, IntKind.min, IntKind.max, IntKind.signed, IntKind.bits, Bool.and_eq_true] at wc; simpa using wc
  obtain ⟨k, rfl⟩ := Int.eq_ofNat_of_zero_le c0.1
  have hk : k < 256 := by omega
  obtain ⟨u, hu⟩ : ∃ v, 1 + a % 1000000 = v := ⟨_, rfl⟩
  obtain ⟨r, hr⟩ : ∃ v, 1 + b % 1000 = v := ⟨_, rfl⟩
  have ⟨u0, u1⟩ : 1 ≤ u ∧ u ≤ 1000000 := by omega
  have ⟨r0, r1⟩ : 1 ≤ r ∧ r ≤ 1000 := by omega
  have ⟨A0, A1⟩ := a0
  have ⟨B0, B1⟩ := b0
  have HS := Lib.hid (fun w => law9_set k hk w)
  have hf := set_kn k
  generalize setV k = f at *
  have hb := At.refl w
  clear a0 b0 c0 wa wb wc
  obtain ⟨T, E, X, Y, Z, G, s1, s2, e1, x1, x2, y1, y2, z1, z2, g1, T0, T1, E0, E1, h1, h2, h3⟩ := facts hf u0 u1 r0 r1
  have c1 := fun (w' : World) (h : At w w') => rt_ticks u f w w' h
  have c2 := fun (w' : World) (h : At w w') => ds_every w r f hf r0 r1 w' h
  have c3 := fun (w' : World) (h : At w w') => rt_of T f w w' h
  have c4 := fun (w' : World) (h : At w w') => rt_of (T + 1) f w w' h
  have c5 := fun (w' : World) (h : At w w') => rt_of E f w w' h
  have c6 := fun (w' : World) => rt_goal r w'
  rw [s1, s2] at c1
  rw [e1] at c2
  rw [x1, x2] at c3
  rw [y1, y2] at c4
  rw [z1, z2] at c5
  rw [g1] at c6
  clear s1 s2 e1 x1 x2 y1 y2 z1 z2 g1 hf
  have C1 := Lib.hid c1
  have C2 := Lib.hid c2
  have C3 := Lib.hid c3
  have C4 := Lib.hid c4
  have C5 := Lib.hid c5
  have C6 := Lib.hid c6
  have t1 : decide (T < 1) = false := decide_eq_false (by omega)
  have t2 : decide (E < 1) = false := decide_eq_false (by omega)
  have t3 : decide (u ≤ X) = true := decide_eq_true h1
  have t4 : decide (Y < u) = true := decide_eq_true h2
  have t5 : decide (G ≤ Z) = true := decide_eq_true h3
  clear c1 c2 c3 c4 c5 c6
  go_enter Try.func5, Try.ntmps5
  go_wp2_with (first
    | (go_at_call 13; refine (HS.out _).mono ?_; rintro e w' ⟨rfl, rfl⟩)
    | (go_at_call 8; refine (C1.out _ (by assumption)).mono ?_; rintro e w' ⟨rfl, hb⟩)
    | (go_at_call 14; refine (C2.out _ (by assumption)).mono ?_; rintro e w' ⟨rfl, hb⟩)
    | (go_at_call 6; ((with_reducible refine (C3.out _ (by assumption)).mono ?_)); rintro e w' ⟨rfl, hb⟩)
    | (go_at_call 6; ((with_reducible refine (C4.out _ (by assumption)).mono ?_)); rintro e w' ⟨rfl, hb⟩)
    | (go_at_call 6; ((with_reducible refine (C5.out _ (by assumption)).mono ?_)); rintro e w' ⟨rfl, hb⟩)
    | (go_at_call 10; refine (C6.out _).mono ?_; rintro e w' ⟨rfl, rfl⟩)
    | (go_at_call 12; refine (law10_awake w _ (by assumption)).mono ?_; rintro e w' ⟨rfl, hb⟩))
  all_goals go_ret
  all_goals exact ⟨rfl, by assumption⟩

theorem lifted (os : Os) (started : os.Started) (H : Type) (enc : TypeId × Value → H) :
    ReturnsInHanded {} Try.checked os 5 .any (Rows.rateBackSpec.pre6 enc Try.prog Try.f5 Rows.rateBackRow.domain false) (Rows.rateBackSpec.post enc Try.prog Try.f5 false true false false) := by
  refine law_lift started (by kernel_rfl) Try.func5 rfl rfl ?_ (by kernel_rfl)
    (ChangeSpec.witness6 (enc := enc) (C := Try.checked) false ⟨#[], #[.int .u32 0, .int .u16 0, .int .u8 0], []⟩ 8 (by kernel_rfl) (by kernel_rfl) (by kernel_rfl) (by kernel_rfl)) ?_
  · intro ds hl
    match ds, hl with
    | [_, _, _], _ => exact ⟨rfl, rfl, rfl⟩
  · intro W base args ds p hval hA hlt hwt
    rw [Try.params5] at hA hval hwt
    obtain ⟨v0, vs0, d0, ds0, p0, q0, hargs, rfl, rfl, h0, r0⟩ := trodAll_cons hA
    obtain ⟨v1, vs1, d1, ds1, p1, q1, rfl, rfl, rfl, h1, r1⟩ := trodAll_cons r0
    obtain ⟨v2, vs2, d2, ds2, p2, q2, rfl, rfl, rfl, h2, r2⟩ := trodAll_cons r1
    obtain ⟨rfl, rfl, rfl⟩ := trodAll_nil r2
    obtain rfl : args = #[v0, v1, v2] := by cases args; simp_all
    obtain ⟨a0, rfl, rfl, rfl, w0⟩ := open_int Try.underlying27 (hval 0 27 v0 rfl rfl) h0
    obtain ⟨a1, rfl, rfl, rfl, w1⟩ := open_int Try.underlying28 (hval 1 28 v1 rfl rfl) h1
    obtain ⟨a2, rfl, rfl, rfl, w2⟩ := open_int Try.underlying5 (hval 2 5 v2 rfl rfl) h2
    exact walk a0 w0 a1 w1 a2 w2 W

theorem over : Rows.rateBackRow.holds Try.pinned (OpenSpec.ofChange Rows.rateBackSpec) :=
  OpenClaim.holds_of_wide 5 Try.f5 rfl rfl rfl rfl rfl rfl rfl ⟨rfl, rfl, rfl, rfl, rfl⟩ rfl rfl rfl rfl rfl (by kernel_rfl) Try.func5 (by kernel_rfl)
    (of_decide_eq_true (by kernel_rfl)) (by unfold Func.isWrapper; first | (rw [if_pos (by decide +kernel)]; kernel_rfl) | (rw [if_neg (by decide +kernel)]; exact ⟨rfl, rfl⟩))
    (fun os started H enc _ => lifted os started H enc)

theorem proved : Rows.RateBackSaid := over
#print axioms proved
end Go.Proofs.Ytohgpbcenjpmeaa.rateBack
