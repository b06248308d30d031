/- ReviveFinds holds of every two entries, every way of writing and every torn text: what was written last, and whole, is found. No condition. -/
import Derived.Test.YthibaehiponfnaaFindsNE
import Derived.Test.YthibaehiponfnaaFindsM0
import Derived.Test.YthibaehiponfnaaFindsM1
namespace Go.Proofs.Ythibaehiponfnaa.reviveFinds
open Go.ChangeShapes Go.WideShapes Go.ChangeAt Go.RowKit
set_option linter.unusedVariables false
set_option linter.unusedSimpArgs false
set_option maxRecDepth 100000

theorem byte_in {h : Int} (w : (Lit.int .u8 h).wf = true) : 0 ≤ h ∧ h ≤ 255 := by
  simp only [Lit.wf, IntKind.min, IntKind.max, IntKind.signed, IntKind.bits, Bool.and_eq_true] at w; simpa using w
theorem ent_eq {a0 a1 a2 a3 a4 a5 a6 a7 b0 b1 b2 b3 b4 b5 b6 b7 : Int} (h : entB a0 a1 a2 a3 a4 a5 a6 a7 b0 b1 b2 b3 b4 b5 b6 b7 = true) : a0 = b0 ∧ a1 = b1 ∧ a2 = b2 ∧ a3 = b3 ∧ a4 = b4 ∧ a5 = b5 ∧ a6 = b6 ∧ a7 = b7 := by
  unfold entB at h
  simpa using h

set_option maxHeartbeats 4000000 in
theorem walk (W : World) (e0 : Int) (we0 : (Lit.int .i64 e0).wf = true) (e1 : Int) (we1 : (Lit.int .i64 e1).wf = true) (e2 : Int) (we2 : (Lit.int .i64 e2).wf = true) (e3 : Int) (we3 : (Lit.int .i64 e3).wf = true) (e4 : Int) (we4 : (Lit.int .i64 e4).wf = true) (e5 : Int) (we5 : (Lit.int .i64 e5).wf = true) (e6 : Int) (we6 : (Lit.int .i64 e6).wf = true) (e7 : Int) (we7 : (Lit.int .i64 e7).wf = true) (d0 : Int) (wd0 : (Lit.int .i64 d0).wf = true) (d1 : Int) (wd1 : (Lit.int .i64 d1).wf = true) (d2 : Int) (wd2 : (Lit.int .i64 d2).wf = true) (d3 : Int) (wd3 : (Lit.int .i64 d3).wf = true) (d4 : Int) (wd4 : (Lit.int .i64 d4).wf = true) (d5 : Int) (wd5 : (Lit.int .i64 d5).wf = true) (d6 : Int) (wd6 : (Lit.int .i64 d6).wf = true) (d7 : Int) (wd7 : (Lit.int .i64 d7).wf = true) (h0 : Int) (wh0 : (Lit.int .u8 h0).wf = true) (h1 : Int) (wh1 : (Lit.int .u8 h1).wf = true) (h2 : Int) (wh2 : (Lit.int .u8 h2).wf = true) (T : ByteArray) (wT : T.size ≤ maxLen) :
    Calls Try.prog 3 #[.agg #[.int .i64 e0, .int .i64 e1, .int .i64 e2, .int .i64 e3, .int .i64 e4, .int .i64 e5, .int .i64 e6, .int .i64 e7, .int .i64 d0, .int .i64 d1, .int .i64 d2, .int .i64 d3, .int .i64 d4, .int .i64 d5, .int .i64 d6, .int .i64 d7], .agg #[.int .u8 h0, .int .u8 h1, .int .u8 h2], .string T] W fun e W' => e = .returned (.bool true) ∧ Below W.heap.size W W' := by
  have HR1 := fun w => j_right e0 e1 e2 e3 e4 e5 e6 e7 w
  have HR2 := fun w => j_right (e0 + 1) d1 d2 d3 d4 d5 d6 d7 w
  cases he : enB e0 e1 e2 e3 e4 e5 e6 e7
  · rw [he] at HR1
    exact not1 e0 e1 e2 e3 e4 e5 e6 e7 d0 d1 d2 d3 d4 d5 d6 d7 h0 h1 h2 T W (Lib.hid HR1)
  rw [he] at HR1
  by_cases hT : 64 < T.size
  · exact big e0 e1 e2 e3 e4 e5 e6 e7 d0 d1 d2 d3 d4 d5 d6 d7 h0 h1 h2 T W (decide_eq_true (by omega)) (Lib.hid HR1)
  have ht : decide (64 < (T.size : Int)) = false := decide_eq_false (by omega)
  have hb := en_bd he
  cases hd : enB (e0 + 1) d1 d2 d3 d4 d5 d6 d7
  · rw [hd] at HR2
    exact not2 e0 e1 e2 e3 e4 e5 e6 e7 d0 d1 d2 d3 d4 d5 d6 d7 h0 h1 h2 T W ht (by omega) (by omega) (Lib.hid HR1) (Lib.hid HR2)
  rw [hd] at HR2
  have y := byte_in wh0
  have y' := byte_in wh1
  have y'' := byte_in wh2
  have hS := pt_size he
  have hD := pt_size hd
  have gS := gt_put he
  have gD := gt_put hd
  have vS := fun i => gtV_put he i
  have vD := fun i => gtV_put hd i
  have HG := fun w => j_get T w (by omega)
  have HT : (gtB T = false ∧ gtB T = false) ∨ (gtB T = true ∧ entB (gtV T 0) (gtV T 1) (gtV T 2) (gtV T 3) (gtV T 4) (gtV T 5) (gtV T 6) (gtV T 7) (e0 + 1) d1 d2 d3 d4 d5 d6 d7 = true ∧ gtB T = true ∧ gtV T 0 = e0 + 1 ∧ gtV T 5 = d5 ∧ gtV T 6 = d6 ∧ gtV T 7 = d7) ∨ (gtB T = true ∧ entB (gtV T 0) (gtV T 1) (gtV T 2) (gtV T 3) (gtV T 4) (gtV T 5) (gtV T 6) (gtV T 7) (e0 + 1) d1 d2 d3 d4 d5 d6 d7 = false) := by
    cases hg : gtB T
    · exact .inl ⟨rfl, rfl⟩
    · cases hn : entB (gtV T 0) (gtV T 1) (gtV T 2) (gtV T 3) (gtV T 4) (gtV T 5) (gtV T 6) (gtV T 7) (e0 + 1) d1 d2 d3 d4 d5 d6 d7
      · exact .inr (.inr ⟨rfl, rfl⟩)
      · obtain ⟨u0, u1, u2, u3, u4, u5, u6, u7⟩ := ent_eq hn
        exact .inr (.inl ⟨rfl, rfl, rfl, u0, u5, u6, u7⟩)
  rcases (by omega : h0 % 2 = 0 ∨ h0 % 2 = 1) with hk | hk
  · have HN1 := fun w => re_next_ok ⟨#[]⟩ ⟨#[]⟩ ⟨#[]⟩ 0 0 1 0 (by decide) e0 e1 e2 e3 e4 e5 e6 e7 he w
    have HN2 := fun w => re_next_ok (ptS e0 e1 e2 e3 e4 e5 e6 e7) ⟨#[]⟩ ⟨#[]⟩ 0 0 0 1 (by decide) (e0 + 1) d1 d2 d3 d4 d5 d6 d7 hd w
    obtain ⟨am, ar, av, ak, HB1⟩ := bt_last0 gS gt_nil (by omega) (by decide) 0 0
    have HLast := fun (X : ByteArray) (hx : gtB X = false) (hz : X.size ≤ 64) => bt_last0 gS hx (by omega) (by omega) 1 0
    have HNext := fun (X : ByteArray) (hx : gtB X = true) (x0 : gtV X 0 = e0 + 1) (x5 : gtV X 5 = d5) (x6 : gtV X 6 = d6) (x7 : gtV X 7 = d7) (hz : X.size ≤ 64) => (show _ from by
      have h := bt_next0 gS hx (by rw [vS 0, x0]; rfl) (by omega) (by omega) 1 0
      rw [x0, x5, x6, x7] at h
      exact h)
    simp only [vS, List.getD_cons_zero, List.getD_cons_succ] at HB1 HLast
    have HDg := And.intro gD (And.intro (vD 0) (And.intro (vD 5) (And.intro (vD 6) (vD 7))))
    generalize ptS e0 e1 e2 e3 e4 e5 e6 e7 = S at *
    generalize ptS (e0 + 1) d1 d2 d3 d4 d5 d6 d7 = D at *
    exact main0 e0 e1 e2 e3 e4 e5 e6 e7 d0 d1 d2 d3 d4 d5 d6 d7 h0 h1 h2 T W S D (gtB T) (gtV T 0) (gtV T 1) (gtV T 2) (gtV T 3) (gtV T 4) (gtV T 5) (gtV T 6) (gtV T 7) am ar av ak ht (by omega) (by omega) hk y.1 y.2 y'.1 y'.2 y''.1 y''.2 (Lib.hid hS) (Lib.hid hD) (Lib.hid HR1) (Lib.hid HR2) (Lib.hid HN1) (Lib.hid HN2) (Lib.hid HB1) (Lib.hid HG) (Lib.hid HLast) (Lib.hid HNext) (Lib.hid HDg) (Lib.hid (by omega)) (Lib.hid HT)
  · have HN1 := fun w => re_next_ok ⟨#[]⟩ ⟨#[]⟩ ⟨#[]⟩ 0 0 0 1 (by decide) e0 e1 e2 e3 e4 e5 e6 e7 he w
    have HN2 := fun w => re_next_ok ⟨#[]⟩ (ptS e0 e1 e2 e3 e4 e5 e6 e7) ⟨#[]⟩ 1 0 1 0 (by decide) (e0 + 1) d1 d2 d3 d4 d5 d6 d7 hd w
    obtain ⟨am, ar, av, ak, HB1⟩ := bt_last1 gS gt_nil (by omega) (by decide) 1 0
    have HLast := fun (X : ByteArray) (hx : gtB X = false) (hz : X.size ≤ 64) => bt_last1 gS hx (by omega) (by omega) 0 0
    have HNext := fun (X : ByteArray) (hx : gtB X = true) (x0 : gtV X 0 = e0 + 1) (x5 : gtV X 5 = d5) (x6 : gtV X 6 = d6) (x7 : gtV X 7 = d7) (hz : X.size ≤ 64) => (show _ from by
      have h := bt_next1 gS hx (by rw [vS 0, x0]; rfl) (by omega) (by omega) 0 0
      rw [x0, x5, x6, x7] at h
      exact h)
    simp only [vS, List.getD_cons_zero, List.getD_cons_succ] at HB1 HLast
    have HDg := And.intro gD (And.intro (vD 0) (And.intro (vD 5) (And.intro (vD 6) (vD 7))))
    generalize ptS e0 e1 e2 e3 e4 e5 e6 e7 = S at *
    generalize ptS (e0 + 1) d1 d2 d3 d4 d5 d6 d7 = D at *
    exact main1 e0 e1 e2 e3 e4 e5 e6 e7 d0 d1 d2 d3 d4 d5 d6 d7 h0 h1 h2 T W S D (gtB T) (gtV T 0) (gtV T 1) (gtV T 2) (gtV T 3) (gtV T 4) (gtV T 5) (gtV T 6) (gtV T 7) am ar av ak ht (by omega) (by omega) hk y.1 y.2 y'.1 y'.2 y''.1 y''.2 (Lib.hid hS) (Lib.hid hD) (Lib.hid HR1) (Lib.hid HR2) (Lib.hid HN1) (Lib.hid HN2) (Lib.hid HB1) (Lib.hid HG) (Lib.hid HLast) (Lib.hid HNext) (Lib.hid HDg) (Lib.hid (by omega)) (Lib.hid HT)

set_option maxRecDepth 100000 in
theorem lifted (os : Os) (started : os.Started) (H : Type) (enc : TypeId × Value → H) :
    ReturnsInHanded {} Try.checked os 3 .any (Rows.reviveFindsSpec.pre6 enc Try.prog Try.f3 Rows.reviveFindsRow.domain false) (Rows.reviveFindsSpec.post enc Try.prog Try.f3 false true false false) := by
  refine law_lift started (by kernel_rfl) Try.func3 rfl rfl ?_ (by kernel_rfl)
    (ChangeSpec.witness6 (enc := enc) (C := Try.checked) false ⟨#[], #[.agg #[.int .i64 0, .int .i64 0, .int .i64 0, .int .i64 0, .int .i64 0, .int .i64 0, .int .i64 0, .int .i64 0, .int .i64 0, .int .i64 0, .int .i64 0, .int .i64 0, .int .i64 0, .int .i64 0, .int .i64 0, .int .i64 0], .agg #[.int .u8 0, .int .u8 0, .int .u8 0], .string ⟨#[]⟩], []⟩ 8 (by kernel_rfl) (by kernel_rfl) (by kernel_rfl) (by kernel_rfl)) ?_
  · intro ds hl
    match ds, hl with
    | [_, _, _], _ => exact ⟨rfl, rfl, rfl⟩
  · intro W base args ds p hval hA hlt hwt
    rw [Try.params3] at hA hval hwt
    obtain ⟨v0, vs0, d0, ds0, p0, q0, hargs, rfl, rfl, h0, r0⟩ := trodAll_cons hA
    obtain ⟨v1, vs1, d1, ds1, p1, q1, rfl, rfl, rfl, h1, r1⟩ := trodAll_cons r0
    obtain ⟨v2, vs2, d2, ds2, p2, q2, rfl, rfl, rfl, h2, r2⟩ := trodAll_cons r1
    obtain ⟨rfl, rfl, rfl⟩ := trodAll_nil r2
    obtain rfl : args = #[v0, v1, v2] := by cases args; simp_all
    obtain ⟨cs0, rfl, l0, k0⟩ := open_leaves 5 [.int .i64, .int .i64, .int .i64, .int .i64, .int .i64, .int .i64, .int .i64, .int .i64, .int .i64, .int .i64, .int .i64, .int .i64, .int .i64, .int .i64, .int .i64, .int .i64] (by kernel_rfl) (by kernel_rfl) (hval 0 28 v0 rfl rfl) h0
    match cs0, l0, k0 with
    | [y0_0, y0_1, y0_2, y0_3, y0_4, y0_5, y0_6, y0_7, y0_8, y0_9, y0_10, y0_11, y0_12, y0_13, y0_14, y0_15], _, k0 =>
    obtain ⟨x0_0, e0_0, w0_0⟩ : leafIs (.int .i64) y0_0 := k0 0 _ rfl
    subst e0_0
    obtain ⟨x0_1, e0_1, w0_1⟩ : leafIs (.int .i64) y0_1 := k0 1 _ rfl
    subst e0_1
    obtain ⟨x0_2, e0_2, w0_2⟩ : leafIs (.int .i64) y0_2 := k0 2 _ rfl
    subst e0_2
    obtain ⟨x0_3, e0_3, w0_3⟩ : leafIs (.int .i64) y0_3 := k0 3 _ rfl
    subst e0_3
    obtain ⟨x0_4, e0_4, w0_4⟩ : leafIs (.int .i64) y0_4 := k0 4 _ rfl
    subst e0_4
    obtain ⟨x0_5, e0_5, w0_5⟩ : leafIs (.int .i64) y0_5 := k0 5 _ rfl
    subst e0_5
    obtain ⟨x0_6, e0_6, w0_6⟩ : leafIs (.int .i64) y0_6 := k0 6 _ rfl
    subst e0_6
    obtain ⟨x0_7, e0_7, w0_7⟩ : leafIs (.int .i64) y0_7 := k0 7 _ rfl
    subst e0_7
    obtain ⟨x0_8, e0_8, w0_8⟩ : leafIs (.int .i64) y0_8 := k0 8 _ rfl
    subst e0_8
    obtain ⟨x0_9, e0_9, w0_9⟩ : leafIs (.int .i64) y0_9 := k0 9 _ rfl
    subst e0_9
    obtain ⟨x0_10, e0_10, w0_10⟩ : leafIs (.int .i64) y0_10 := k0 10 _ rfl
    subst e0_10
    obtain ⟨x0_11, e0_11, w0_11⟩ : leafIs (.int .i64) y0_11 := k0 11 _ rfl
    subst e0_11
    obtain ⟨x0_12, e0_12, w0_12⟩ : leafIs (.int .i64) y0_12 := k0 12 _ rfl
    subst e0_12
    obtain ⟨x0_13, e0_13, w0_13⟩ : leafIs (.int .i64) y0_13 := k0 13 _ rfl
    subst e0_13
    obtain ⟨x0_14, e0_14, w0_14⟩ : leafIs (.int .i64) y0_14 := k0 14 _ rfl
    subst e0_14
    obtain ⟨x0_15, e0_15, w0_15⟩ : leafIs (.int .i64) y0_15 := k0 15 _ rfl
    subst e0_15
    obtain ⟨cs1, rfl, l1, k1⟩ := open_leaves 5 [.int .u8, .int .u8, .int .u8] (by kernel_rfl) (by kernel_rfl) (hval 1 29 v1 rfl rfl) h1
    match cs1, l1, k1 with
    | [y1_0, y1_1, y1_2], _, k1 =>
    obtain ⟨x1_0, e1_0, w1_0⟩ : leafIs (.int .u8) y1_0 := k1 0 _ rfl
    subst e1_0
    obtain ⟨x1_1, e1_1, w1_1⟩ : leafIs (.int .u8) y1_1 := k1 1 _ rfl
    subst e1_1
    obtain ⟨x1_2, e1_2, w1_2⟩ : leafIs (.int .u8) y1_2 := k1 2 _ rfl
    subst e1_2
    obtain ⟨a2, rfl, rfl, rfl, w2⟩ := Go.ChangeMaps.open_string Try.underlying9 (hval 2 9 v2 rfl rfl) h2
    exact walk W x0_0 w0_0 x0_1 w0_1 x0_2 w0_2 x0_3 w0_3 x0_4 w0_4 x0_5 w0_5 x0_6 w0_6 x0_7 w0_7 x0_8 w0_8 x0_9 w0_9 x0_10 w0_10 x0_11 w0_11 x0_12 w0_12 x0_13 w0_13 x0_14 w0_14 x0_15 w0_15 x1_0 w1_0 x1_1 w1_1 x1_2 w1_2 a2 w2

theorem over : Rows.reviveFindsRow.holds Try.pinned (OpenSpec.ofChange Rows.reviveFindsSpec) :=
  OpenClaim.holds_of_wide 3 Try.f3 rfl rfl rfl rfl rfl rfl rfl ⟨rfl, rfl, rfl, rfl, rfl⟩ rfl rfl rfl rfl rfl (by kernel_rfl) Try.func3 (by kernel_rfl)
    (of_decide_eq_true (by kernel_rfl)) (by unfold Func.isWrapper; first | (rw [if_pos (by decide +kernel)]; kernel_rfl) | (rw [if_neg (by decide +kernel)]; exact ⟨rfl, rfl⟩))
    (fun os started H enc _ => lifted os started H enc)

theorem proved : Rows.ReviveFindsSaid := over
#print axioms proved
end Go.Proofs.Ythibaehiponfnaa.reviveFinds
