/- RecordSays holds of every raw record and every record: what is taken, the raw one, and whether it may be, are the document's. No condition. -/
import Derived.Test.YtbiagohlpdpobaaLaw11
import Derived.Test.YtbiagohlpdpobaaRefRec
import Derived.Test.YtbiagohlpdpobaaLeaf
namespace Go.Proofs.Ytbiagohlpdpobaa.recordSays
open Go.ChangeShapes Go.WideShapes Go.ChangeAt Go.RowKit Ieee
set_option linter.unusedVariables false
attribute [local go_sem] run_store_real run_equalIn_real Near.cell Near.frozen

set_option maxRecDepth 100000 in
set_option maxHeartbeats 2000000 in
theorem walk (a : Nat) (wa : (Lit.float .f64 a).wf = true) (t : Nat) (wt : (Lit.float .f64 t).wf = true) (b : Nat) (wb : (Lit.float .f64 b).wf = true) (e : Nat) (we : (Lit.float .f64 e).wf = true) (d : Bool) (k : Int) (wk : (Lit.int .i64 k).wf = true) (z : Bool)
    (A : Int) (wA : (Lit.int .i64 A).wf = true) (T : Int) (wT : (Lit.int .i64 T).wf = true) (B : Int) (wB : (Lit.int .i64 B).wf = true) (E : Int) (wE : (Lit.int .i64 E).wf = true) (D : Bool) (K : Int) (wK : (Lit.int .i64 K).wf = true) (Z : Bool) (O : Int) (wO : (Lit.int .i64 O).wf = true) (W : World) :
    Calls Try.prog 3 #[.agg #[.float .f64 a, .float .f64 t, .float .f64 b, .float .f64 e, .bool d, .int .i64 k, .bool z], .agg #[.int .i64 A, .int .i64 T, .int .i64 B, .int .i64 E, .bool D, .int .i64 K, .bool Z, .int .i64 O]] W fun x W' => x = .returned (.bool true) ∧ Below W.heap.size W W' := by
  clear wa wt wb we wk wA wT wB wE wK wO
  have h1 := fun w => rc_raw A T B E D K Z O w
  have h2 := fun w => rr_raw A T B E D K Z O w
  have h3 := fun w => rc_take a t b e d k z w
  have h4 := fun w => rr_take a t b e d k z w
  have q1 : eqF (floatOfInt .f64 A) (floatOfInt .f64 A) = true := by rw [eq_self, nan_int]; rfl
  have q2 : eqF (floatOfInt .f64 T) (floatOfInt .f64 T) = true := by rw [eq_self, nan_int]; rfl
  have q3 : eqF (floatOfInt .f64 B) (floatOfInt .f64 B) = true := by rw [eq_self, nan_int]; rfl
  have q4 : eqF (floatOfInt .f64 E) (floatOfInt .f64 E) = true := by rw [eq_self, nan_int]; rfl
  generalize floatOfInt .f64 A = fA at *
  generalize floatOfInt .f64 T = fT at *
  generalize floatOfInt .f64 B = fB at *
  generalize floatOfInt .f64 E = fE at *
  generalize badV (tkB a 0 4095) (tkB t 0 180) (tkB b 0 6000) (tkB e 0 300) (!upB k 10) = bad at *
  generalize tkV a 0 4095 = tA at *
  generalize tkV t 0 180 = tT at *
  generalize tkV b 0 6000 = tB at *
  generalize tkV e 0 300 = tE at *
  generalize kyV k = tK at *
  have H1 := Lib.hid h1
  have H2 := Lib.hid h2
  have H3 := Lib.hid h3
  have H4 := Lib.hid h4
  clear h1 h2 h3 h4
  have A0 : Below W.heap.size W W := Below.refl _ _
  go_enter Try.func3, Try.ntmps3
  go_wp2_with (fail)
  refine (H1.out _).mono ?_
  rintro e w1 ⟨rfl, hb⟩
  have A1 := below_call (below_alloc_on (below_alloc_on A0 _) _) hb
  have B1 := ((box_new W _ _).alloc _).below hb
  have C1 := (box_at (W.alloc _) _ _ (g := W.heap.size + 1) (by simp)).below hb
  clear hb A0
  obtain ⟨c0, c1, c2, c3, c4, c5, c6, c7, cf, cl⟩ := C1.eight
  go_wp2_with (fail)
  refine (H2.out _).mono ?_
  rintro e w2 ⟨rfl, hb⟩
  have A2 := below_call (below_alloc_on A1 _) hb
  have B2 := (B1.alloc _).below hb
  have C2 := (C1.alloc _).below hb
  have D2 := (box_new w1 _ _).below hb
  have n1 : ¬ W.heap.size = w1.heap.size := by have := B1.1; omega
  have n2 : ¬ W.heap.size + 1 = w1.heap.size := by have := C1.1; omega
  generalize w1.heap.size = g1 at *
  clear hb A1 B1 C1 c0 c1 c2 c3 c4 c5 c6 c7 cf cl
  have A3 := below_alloc_on A2 (.cells #[.float .f64 fA, .float .f64 fT, .float .f64 fB, .float .f64 fE, .bool D, .int .i64 K, .bool Z] 24)
  have B3 := B2.alloc (.cells #[.float .f64 fA, .float .f64 fT, .float .f64 fB, .float .f64 fE, .bool D, .int .i64 K, .bool Z] 24)
  have C3 := C2.alloc (.cells #[.float .f64 fA, .float .f64 fT, .float .f64 fB, .float .f64 fE, .bool D, .int .i64 K, .bool Z] 24)
  have D3 := D2.alloc (.cells #[.float .f64 fA, .float .f64 fT, .float .f64 fB, .float .f64 fE, .bool D, .int .i64 K, .bool Z] 24)
  have E3 := box_new w2 #[.float .f64 fA, .float .f64 fT, .float .f64 fB, .float .f64 fE, .bool D, .int .i64 K, .bool Z] 24
  go_wp2
  generalize w2.heap.size = g2 at *
  generalize w2.alloc (.cells #[.float .f64 fA, .float .f64 fT, .float .f64 fB, .float .f64 fE, .bool D, .int .i64 K, .bool Z] 24) = w3 at *
  clear A2 B2 C2 D2
  obtain ⟨b0, b1, b2, b3, b4, b5, b6, bf, bl⟩ := B3.seven
  obtain ⟨c0, c1, c2, c3, c4, c5, c6, c7, cf, cl⟩ := C3.eight
  obtain ⟨d0, d1, d2, d3, d4, d5, d6, df, dl⟩ := D3.seven
  obtain ⟨e0, e1, e2, e3, e4, e5, e6, ef, el⟩ := E3.seven
  refine wp_region_calm (by kernel_rfl) (by kernel_rfl) ?_
  repeat (go_big_quiet_step ((first | ((go_at_call 9; exact calm_of _ (H3.out _))) | ((go_at_call 10; exact calm_of _ (H4.out _))) | ((go_at_call 11; exact calm_of _ (rc_clean _ _ _ _ _ _ _ _ _))) | ((go_at_call 12; exact calm_of _ (rr_clean _ _ _ _ _ _ _ _ _))) | ((go_at_call 13; exact calm_of _ (law11_awake _))))))
  refine wpQuiet_nil ?_
  intro _ hw'
  obtain ⟨u, rfl⟩ := hw'
  go_wp2
  all_goals go_ret
  all_goals exact ⟨rfl, u.up A3⟩

theorem lifted (os : Os) (started : os.Started) (H : Type) (enc : TypeId × Value → H) :
    ReturnsInHanded {} Try.checked os 3 .any (Rows.recordSaysSpec.pre6 enc Try.prog Try.f3 Rows.recordSaysRow.domain false) (Rows.recordSaysSpec.post enc Try.prog Try.f3 false true false false) := by
  refine law_lift started (by kernel_rfl) Try.func3 rfl rfl ?_ (by kernel_rfl)
    (ChangeSpec.witness6 (enc := enc) (C := Try.checked) false ⟨#[], #[.agg #[.float .f64 0, .float .f64 0, .float .f64 0, .float .f64 0, .bool false, .int .i64 0, .bool false], .agg #[.int .i64 0, .int .i64 0, .int .i64 0, .int .i64 0, .bool false, .int .i64 0, .bool false, .int .i64 0]], []⟩ 8 (by kernel_rfl) (by kernel_rfl) (by kernel_rfl) (by kernel_rfl)) ?_
  · intro ds hl
    match ds, hl with
    | [_, _], _ => exact ⟨rfl, rfl, rfl⟩
  · intro W base args ds p hval hA hlt hwt
    rw [Try.params3] at hA hval hwt
    obtain ⟨v0, vs0, d0, ds0, p0, q0, hargs, rfl, rfl, h0, r0⟩ := trodAll_cons hA
    obtain ⟨v1, vs1, d1, ds1, p1, q1, rfl, rfl, rfl, h1, r1⟩ := trodAll_cons r0
    obtain ⟨rfl, rfl, rfl⟩ := trodAll_nil r1
    obtain rfl : args = #[v0, v1] := by cases args; simp_all
    obtain ⟨cs0, rfl, l0, k0⟩ := open_leaves 5 [.float .f64, .float .f64, .float .f64, .float .f64, .bool, .int .i64, .bool] (by kernel_rfl) (by kernel_rfl) (hval 0 24 v0 rfl rfl) h0
    match cs0, l0, k0 with
    | [y0_0, y0_1, y0_2, y0_3, y0_4, y0_5, y0_6], _, k0 =>
    obtain ⟨x0_0, e0_0, w0_0⟩ : leafIs (.float .f64) y0_0 := k0 0 _ rfl
    subst e0_0
    obtain ⟨x0_1, e0_1, w0_1⟩ : leafIs (.float .f64) y0_1 := k0 1 _ rfl
    subst e0_1
    obtain ⟨x0_2, e0_2, w0_2⟩ : leafIs (.float .f64) y0_2 := k0 2 _ rfl
    subst e0_2
    obtain ⟨x0_3, e0_3, w0_3⟩ : leafIs (.float .f64) y0_3 := k0 3 _ rfl
    subst e0_3
    obtain ⟨x0_4, e0_4⟩ : leafIs (.bool) y0_4 := k0 4 _ rfl
    subst e0_4
    obtain ⟨x0_5, e0_5, w0_5⟩ : leafIs (.int .i64) y0_5 := k0 5 _ rfl
    subst e0_5
    obtain ⟨x0_6, e0_6⟩ : leafIs (.bool) y0_6 := k0 6 _ rfl
    subst e0_6
    obtain ⟨cs1, rfl, l1, k1⟩ := open_leaves 5 [.int .i64, .int .i64, .int .i64, .int .i64, .bool, .int .i64, .bool, .int .i64] (by kernel_rfl) (by kernel_rfl) (hval 1 26 v1 rfl rfl) h1
    match cs1, l1, k1 with
    | [y1_0, y1_1, y1_2, y1_3, y1_4, y1_5, y1_6, y1_7], _, k1 =>
    obtain ⟨x1_0, e1_0, w1_0⟩ : leafIs (.int .i64) y1_0 := k1 0 _ rfl
    subst e1_0
    obtain ⟨x1_1, e1_1, w1_1⟩ : leafIs (.int .i64) y1_1 := k1 1 _ rfl
    subst e1_1
    obtain ⟨x1_2, e1_2, w1_2⟩ : leafIs (.int .i64) y1_2 := k1 2 _ rfl
    subst e1_2
    obtain ⟨x1_3, e1_3, w1_3⟩ : leafIs (.int .i64) y1_3 := k1 3 _ rfl
    subst e1_3
    obtain ⟨x1_4, e1_4⟩ : leafIs (.bool) y1_4 := k1 4 _ rfl
    subst e1_4
    obtain ⟨x1_5, e1_5, w1_5⟩ : leafIs (.int .i64) y1_5 := k1 5 _ rfl
    subst e1_5
    obtain ⟨x1_6, e1_6⟩ : leafIs (.bool) y1_6 := k1 6 _ rfl
    subst e1_6
    obtain ⟨x1_7, e1_7, w1_7⟩ : leafIs (.int .i64) y1_7 := k1 7 _ rfl
    subst e1_7
    exact walk x0_0 w0_0 x0_1 w0_1 x0_2 w0_2 x0_3 w0_3 x0_4 x0_5 w0_5 x0_6 x1_0 w1_0 x1_1 w1_1 x1_2 w1_2 x1_3 w1_3 x1_4 x1_5 w1_5 x1_6 x1_7 w1_7 W

theorem over : Rows.recordSaysRow.holds Try.pinned (OpenSpec.ofChange Rows.recordSaysSpec) :=
  OpenClaim.holds_of_wide 3 Try.f3 rfl rfl rfl rfl rfl rfl rfl ⟨rfl, rfl, rfl, rfl, rfl⟩ rfl rfl rfl rfl rfl (by kernel_rfl) Try.func3 (by kernel_rfl)
    (of_decide_eq_true (by kernel_rfl)) (by unfold Func.isWrapper; first | (rw [if_pos (by decide +kernel)]; kernel_rfl) | (rw [if_neg (by decide +kernel)]; exact ⟨rfl, rfl⟩))
    (fun os started H enc _ => lifted os started H enc)

theorem proved : Rows.RecordSaysSaid := over
#print axioms proved
end Go.Proofs.Ytbiagohlpdpobaa.recordSays
