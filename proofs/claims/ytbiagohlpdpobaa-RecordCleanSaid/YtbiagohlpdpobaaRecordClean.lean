/- RecordClean holds of every raw record: what is taken may be, and is taken again as it is. No condition. -/
import Derived.Test.YtbiagohlpdpobaaLaw11
import Derived.Test.YtbiagohlpdpobaaLeaf
namespace Go.Proofs.Ytbiagohlpdpobaa.recordClean
open Go.ChangeShapes Go.WideShapes Go.ChangeAt Go.RowKit Ieee
set_option linter.unusedVariables false
attribute [local go_sem] run_store_real cell_set_ite

theorem ky_ky (k : Int) : kyV (kyV k) = kyV k ∧ upB (kyV k) 10 = true := by
  by_cases h : upB k 10 = true
  · have e : kyV k = k := by unfold kyV; rw [if_pos h]
    rw [e, e]
    exact ⟨rfl, h⟩
  · have e : kyV k = 0 := by unfold kyV; rw [if_neg h]
    rw [e]
    exact ⟨by decide, by decide⟩

set_option maxRecDepth 100000 in
set_option maxHeartbeats 2000000 in
theorem walk (a : Nat) (wa : (Lit.float .f64 a).wf = true) (t : Nat) (wt : (Lit.float .f64 t).wf = true) (b : Nat) (wb : (Lit.float .f64 b).wf = true) (e : Nat) (we : (Lit.float .f64 e).wf = true) (d : Bool) (k : Int) (wk : (Lit.int .i64 k).wf = true) (z : Bool) (W : World) :
    Calls Try.prog 4 #[.agg #[.float .f64 a, .float .f64 t, .float .f64 b, .float .f64 e, .bool d, .int .i64 k, .bool z]] W fun x W' => x = .returned (.bool true) ∧ Below W.heap.size W W' := by
  clear wa wt wb we wk
  have h1 := fun w => rc_take a t b e d k z w
  have ⟨a0, a1⟩ := tk_in a (hi := 4095) (by omega) (by omega)
  have ⟨t0, t1⟩ := tk_in t (hi := 180) (by omega) (by omega)
  have ⟨b0, b1⟩ := tk_in b (hi := 6000) (by omega) (by omega)
  have ⟨e0, e1⟩ := tk_in e (hi := 300) (by omega) (by omega)
  have ⟨k0, k1⟩ := ky_ky k
  have ⟨m1, n1⟩ := mk_bd (tkB a 0 4095) (bit := 1) (by omega)
  have ⟨m2, n2⟩ := mk_bd (tkB t 0 180) (bit := 2) (by omega)
  have ⟨m3, n3⟩ := mk_bd (tkB b 0 6000) (bit := 4) (by omega)
  have ⟨m4, n4⟩ := mk_bd (tkB e 0 300) (bit := 8) (by omega)
  have ⟨m5, n5⟩ := mk_bd (!upB k 10) (bit := 16) (by omega)
  have o0 : 0 ≤ badV (tkB a 0 4095) (tkB t 0 180) (tkB b 0 6000) (tkB e 0 300) (!upB k 10) ∧ badV (tkB a 0 4095) (tkB t 0 180) (tkB b 0 6000) (tkB e 0 300) (!upB k 10) ≤ 31 := by unfold badV; omega
  clear m1 m2 m3 m4 m5 n1 n2 n3 n4 n5
  generalize badV (tkB a 0 4095) (tkB t 0 180) (tkB b 0 6000) (tkB e 0 300) (!upB k 10) = O at *
  generalize tkV a 0 4095 = A at *
  generalize tkV t 0 180 = T at *
  generalize tkV b 0 6000 = B at *
  generalize tkV e 0 300 = E at *
  generalize kyV k = K at *
  have h2 := fun w => rc_raw A T B E d K z O w
  have h3 := fun w => rc_take (floatOfInt .f64 A) (floatOfInt .f64 T) (floatOfInt .f64 B) (floatOfInt .f64 E) d K z w
  have qA := tk_int a0 a1 (by omega)
  have qT := tk_int t0 t1 (by omega)
  have qB := tk_int b0 b1 (by omega)
  have qE := tk_int e0 e1 (by omega)
  rw [qA.1, qA.2, qT.1, qT.2, qB.1, qB.2, qE.1, qE.2, k0, k1, show badV false false false false (!true) = 0 from by decide] at h3
  have h4 := fun w => rc_clean A T B E d K z O w
  have hc : clnB A T B E K O = true := by
    unfold clnB
    rw [k1]
    unfold upB
    rw [decide_eq_true ⟨a0, a1⟩, decide_eq_true ⟨t0, t1⟩, decide_eq_true ⟨b0, b1⟩, decide_eq_true ⟨e0, e1⟩, decide_eq_true o0]
    rfl
  rw [hc] at h4
  clear qA qT qB qE k0 k1 a0 a1 t0 t1 b0 b1 e0 e1 o0 hc
  generalize floatOfInt .f64 A = fA at *
  generalize floatOfInt .f64 T = fT at *
  generalize floatOfInt .f64 B = fB at *
  generalize floatOfInt .f64 E = fE at *
  have H1 := Lib.hid h1
  have H2 := Lib.hid h2
  have H3 := Lib.hid h3
  have H4 := Lib.hid h4
  clear h1 h2 h3 h4
  have A0 : Below W.heap.size W W := Below.refl _ _
  go_enter Try.func4, Try.ntmps4
  go_wp2_with (fail)
  refine (H1.out _).mono ?_
  rintro e w1 ⟨rfl, hb⟩
  have A1 := below_call (below_alloc_on A0 _) hb
  have l1 : W.heap.size ≤ w1.heap.size := A1.size
  clear hb A0
  go_wp2_with (fail)
  refine (H2.out _).mono ?_
  rintro e w2 ⟨rfl, hb⟩
  have A2 := below_call (below_alloc_on A1 _) hb
  have B2 := (box_new w1 _ _).below hb
  generalize w1.heap.size = g1 at *
  clear hb A1
  go_wp2_with (fail)
  refine (H3.out _).mono ?_
  rintro e w3 ⟨rfl, hb⟩
  have A3 := below_call A2 hb
  have B3 := B2.below hb
  clear hb A2 B2
  have l3 : W.heap.size ≤ w3.heap.size := A3.size
  have n1 : ¬ g1 = w3.heap.size := by have := B3.1; omega
  have n2 : ¬ g1 = w3.heap.size + 1 := by have := B3.1; omega
  have C3 := box_new w3 #[.int .i64 A, .int .i64 T, .int .i64 B, .int .i64 E, .bool d, .int .i64 K, .bool z, .int .i64 0] 26
  have A4 := below_alloc_on A3 (.cells #[.int .i64 A, .int .i64 T, .int .i64 B, .int .i64 E, .bool d, .int .i64 K, .bool z, .int .i64 0] 26)
  have B4 := B3.alloc (.cells #[.int .i64 A, .int .i64 T, .int .i64 B, .int .i64 E, .bool d, .int .i64 K, .bool z, .int .i64 0] 26)
  have D4 := box_at (w3.alloc (.cells #[.int .i64 A, .int .i64 T, .int .i64 B, .int .i64 E, .bool d, .int .i64 K, .bool z, .int .i64 0] 26)) #[.int .i64 A, .int .i64 T, .int .i64 B, .int .i64 E, .bool d, .int .i64 K, .bool z, .int .i64 0] 26 (g := w3.heap.size + 1) (by simp)
  have C4 := C3.alloc (.cells #[.int .i64 A, .int .i64 T, .int .i64 B, .int .i64 E, .bool d, .int .i64 K, .bool z, .int .i64 0] 26)
  have A5 := below_alloc_on A4 (.cells #[.int .i64 A, .int .i64 T, .int .i64 B, .int .i64 E, .bool d, .int .i64 K, .bool z, .int .i64 0] 26)
  obtain ⟨d0, d1, d2, d3, d4, d5, d6, d7, df, dl⟩ := B3.eight
  go_wp2_with (fail)
  refine (H4.out _).mono ?_
  rintro e w4 ⟨rfl, hb⟩
  have A6 := below_call A5 hb
  have C6 := C4.below hb
  have D6 := D4.below hb
  generalize w3.heap.size = g3 at *
  clear hb A5 C4 D4 A4 B4 C3
  obtain ⟨c0, c1, c2, c3, c4, c5, c6, c7, cf, cl⟩ := C6.eight
  obtain ⟨e0, e1, e2, e3, e4, e5, e6, e7, ef, el⟩ := (show Box w4 (g3 + 1) #[.int .i64 A, .int .i64 T, .int .i64 B, .int .i64 E, .bool d, .int .i64 K, .bool z, .int .i64 0] from D6).eight
  go_wp2_with (fail)
  refine (law11_awake _).mono ?_
  rintro e w5 ⟨rfl, hb⟩
  have A7 := below_call A6 hb
  go_wp2
  all_goals go_ret
  all_goals exact ⟨rfl, A7⟩

theorem lifted (os : Os) (started : os.Started) (H : Type) (enc : TypeId × Value → H) :
    ReturnsInHanded {} Try.checked os 4 .any (Rows.recordCleanSpec.pre6 enc Try.prog Try.f4 Rows.recordCleanRow.domain false) (Rows.recordCleanSpec.post enc Try.prog Try.f4 false true false false) := by
  refine law_lift started (by kernel_rfl) Try.func4 rfl rfl ?_ (by kernel_rfl)
    (ChangeSpec.witness6 (enc := enc) (C := Try.checked) false ⟨#[], #[.agg #[.float .f64 0, .float .f64 0, .float .f64 0, .float .f64 0, .bool false, .int .i64 0, .bool false]], []⟩ 8 (by kernel_rfl) (by kernel_rfl) (by kernel_rfl) (by kernel_rfl)) ?_
  · intro ds hl
    match ds, hl with
    | [_], _ => exact ⟨rfl, rfl, rfl⟩
  · intro W base args ds p hval hA hlt hwt
    rw [Try.params4] at hA hval hwt
    obtain ⟨v0, vs0, d0, ds0, p0, q0, hargs, rfl, rfl, h0, r0⟩ := trodAll_cons hA
    obtain ⟨rfl, rfl, rfl⟩ := trodAll_nil r0
    obtain rfl : args = #[v0] := by cases args; simp_all
    obtain ⟨cs0, rfl, l0, k0⟩ := open_leaves 5 [.float .f64, .float .f64, .float .f64, .float .f64, .bool, .int .i64, .bool] (by kernel_rfl) (by kernel_rfl) (hval 0 24 v0 rfl rfl) h0
    match cs0, l0, k0 with
    | [y0_0, y0_1, y0_2, y0_3, y0_4, y0_5, y0_6], _, k0 =>
    obtain ⟨x0_0, e0_0, w0_0⟩ : leafIs (.float .f64) y0_0 := k0 0 _ rfl
    subst e0_0
    obtain ⟨x0_1, e0_1, w0_1⟩ : leafIs (.float .f64) y0_1 := k0 1 _ rfl
    subst e0_1
    obtain ⟨x0_2, e0_2, w0_2⟩ : leafIs (.float .f64) y0_2 := k0 2 _ rfl
    subst e0_2
    obtain ⟨x0_3, e0_3, w0_3⟩ : leafIs (.float .f64) y0_3 := k0 3 _ rfl
    subst e0_3
    obtain ⟨x0_4, e0_4⟩ : leafIs (.bool) y0_4 := k0 4 _ rfl
    subst e0_4
    obtain ⟨x0_5, e0_5, w0_5⟩ : leafIs (.int .i64) y0_5 := k0 5 _ rfl
    subst e0_5
    obtain ⟨x0_6, e0_6⟩ : leafIs (.bool) y0_6 := k0 6 _ rfl
    subst e0_6
    exact walk x0_0 w0_0 x0_1 w0_1 x0_2 w0_2 x0_3 w0_3 x0_4 x0_5 w0_5 x0_6 W

theorem over : Rows.recordCleanRow.holds Try.pinned (OpenSpec.ofChange Rows.recordCleanSpec) :=
  OpenClaim.holds_of_wide 4 Try.f4 rfl rfl rfl rfl rfl rfl rfl ⟨rfl, rfl, rfl, rfl, rfl⟩ rfl rfl rfl rfl rfl (by kernel_rfl) Try.func4 (by kernel_rfl)
    (of_decide_eq_true (by kernel_rfl)) (by unfold Func.isWrapper; first | (rw [if_pos (by decide +kernel)]; kernel_rfl) | (rw [if_neg (by decide +kernel)]; exact ⟨rfl, rfl⟩))
    (fun os started H enc _ => lifted os started H enc)

theorem proved : Rows.RecordCleanSaid := over
#print axioms proved
end Go.Proofs.Ytbiagohlpdpobaa.recordClean
