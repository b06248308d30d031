/- ClampSays holds of every clamp, whatever it is told: the next one, whether it is stalled, and whether it is shut, are the document's. No condition. -/
import Derived.Test.YtjojclgbonhngaaLaw14
import Derived.Test.YtjojclgbonhngaaRefClamp
import Derived.Test.YtjojclgbonhngaaLeaf
namespace Go.Proofs.Ytjojclgbonhngaa.clampSays
open Go.ChangeShapes Go.WideShapes Go.ChangeAt Go.RowKit
set_option linter.unusedVariables false
attribute [local go_sem] cell_set_ite Near.cell Near.frozen

set_option maxHeartbeats 2000000 in
theorem walk (p : Int) (wp : (Lit.int .i64 p).wf = true) (k : Int) (wk : (Lit.int .i64 k).wf = true) (r : Int) (wr : (Lit.int .i64 r).wf = true) (o : Int) (wo : (Lit.int .i64 o).wf = true)
    (v : Int) (wv : (Lit.int .i64 v).wf = true) (x : Int) (wx : (Lit.int .i64 x).wf = true) (b : Bool) (W : World) :
    Calls Try.prog 3 #[.agg #[.int .i64 p, .int .i64 k, .int .i64 r, .int .i64 o], .agg #[.int .i64 v, .int .i64 x], .bool b] W fun e W' => e = .returned (.bool true) ∧ Below W.heap.size W W' := by
  clear wp wk wr wo wv wx
  have h1 := fun w => cl_step p k r o v b x w
  have h2 := fun w => rc_step p k r o v b x w
  generalize stP p k (waV v b) = P at *
  generalize stH k = K at *
  generalize waV v b = V at *
  generalize slB (apV r p k x) = S at *
  generalize apV r p k x = R at *
  have H1 := Lib.hid h1
  have H2 := Lib.hid h2
  clear h1 h2
  have A0 : Below W.heap.size W W := Below.refl _ _
  go_enter Try.func3, Try.ntmps3
  go_wp2_with (fail)
  refine (H1.out _).mono ?_
  rintro e w1 ⟨rfl, hb⟩
  have A1 := below_call (below_alloc_on (below_alloc_on A0 _) _) hb
  have B1 := ((box_new W _ _).alloc _).below hb
  have C1 := (box_at (W.alloc _) _ _ (g := W.heap.size + 1) (by simp)).below hb
  clear hb A0
  obtain ⟨b0, b1, b2, b3, bf, bl⟩ := B1.four
  obtain ⟨c0, c1, cf, cl⟩ := C1.two
  go_wp2_with (fail)
  refine (H2.out _).mono ?_
  rintro e w2 ⟨rfl, hb⟩
  have A2 := below_call (below_alloc_on A1 _) hb
  have B2 := (B1.alloc _).below hb
  have D2 := (box_new w1 _ _).below hb
  have n1 : ¬ W.heap.size = w1.heap.size := by omega
  generalize w1.heap.size = g1 at *
  clear hb A1 B1 C1 b0 b1 b2 b3 bf bl c0 c1 cf cl
  have B3 := B2.alloc (.cells #[.int .i64 P, .int .i64 K, .int .i64 R, .int .i64 V] 25)
  have D3 := D2.alloc (.cells #[.int .i64 P, .int .i64 K, .int .i64 R, .int .i64 V] 25)
  have E3 := box_new w2 #[.int .i64 P, .int .i64 K, .int .i64 R, .int .i64 V] 25
  have A3 := below_alloc_on A2 (.cells #[.int .i64 P, .int .i64 K, .int .i64 R, .int .i64 V] 25)
  go_wp2
  generalize w2.heap.size = g2 at *
  generalize w2.alloc (.cells #[.int .i64 P, .int .i64 K, .int .i64 R, .int .i64 V] 25) = w3 at *
  clear A2 B2 D2
  have HB := fun u : Near w3 => (B3.near u).four
  have HD := fun u : Near w3 => (D3.near u).four
  have HE := fun u : Near w3 => (E3.near u).four
  obtain ⟨b0, b1, b2, b3, bf, bl⟩ := B3.four
  obtain ⟨d0, d1, d2, d3, df, dl⟩ := D3.four
  obtain ⟨e0, e1, e2, e3, ef, el⟩ := E3.four
  clear HB HD HE
  refine wp_region_calm (by kernel_rfl) (by kernel_rfl) ?_
  repeat (go_big_quiet_step ((first | ((go_at_call 9; exact calm_of _ (cl_start _))) | ((go_at_call 10; exact calm_of _ (rc_start _))) | ((go_at_call 11; exact calm_of _ (cl_shut _ _ _ _ _))) | ((go_at_call 12; exact calm_of _ (rc_shut _ _ _ _ _))) | ((go_at_call 13; exact calm_of _ (law14_awake _))))))
  refine wpQuiet_nil ?_
  intro _ hw'
  obtain ⟨u, rfl⟩ := hw'
  go_wp2
  all_goals go_ret
  all_goals exact ⟨rfl, u.up A3⟩

theorem lifted (os : Os) (started : os.Started) (H : Type) (enc : TypeId × Value → H) :
    ReturnsInHanded {} Try.checked os 3 .any (Rows.clampSaysSpec.pre6 enc Try.prog Try.f3 Rows.clampSaysRow.domain false) (Rows.clampSaysSpec.post enc Try.prog Try.f3 false true false false) := by
  refine law_lift started (by kernel_rfl) Try.func3 rfl rfl ?_ (by kernel_rfl)
    (ChangeSpec.witness6 (enc := enc) (C := Try.checked) false ⟨#[], #[.agg #[.int .i64 0, .int .i64 0, .int .i64 0, .int .i64 0], .agg #[.int .i64 0, .int .i64 0], .bool false], []⟩ 8 (by kernel_rfl) (by kernel_rfl) (by kernel_rfl) (by kernel_rfl)) ?_
  · intro ds hl
    match ds, hl with
    | [_, _, _], _ => exact ⟨rfl, rfl, rfl⟩
  · intro W base args ds p hval hA hlt hwt
    rw [Try.params3] at hA hval hwt
    obtain ⟨v0, vs0, d0, ds0, p0, q0, hargs, rfl, rfl, h0, r0⟩ := trodAll_cons hA
    obtain ⟨v1, vs1, d1, ds1, p1, q1, rfl, rfl, rfl, h1, r1⟩ := trodAll_cons r0
    obtain ⟨v2, vs2, d2, ds2, p2, q2, rfl, rfl, rfl, h2, r2⟩ := trodAll_cons r1
    obtain ⟨rfl, rfl, rfl⟩ := trodAll_nil r2
    obtain rfl : args = #[v0, v1, v2] := by cases args; simp_all
    obtain ⟨cs0, rfl, l0, k0⟩ := open_leaves 5 [.int .i64, .int .i64, .int .i64, .int .i64] (by kernel_rfl) (by kernel_rfl) (hval 0 25 v0 rfl rfl) h0
    match cs0, l0, k0 with
    | [y0_0, y0_1, y0_2, y0_3], _, k0 =>
    obtain ⟨x0_0, e0_0, w0_0⟩ : leafIs (.int .i64) y0_0 := k0 0 _ rfl
    subst e0_0
    obtain ⟨x0_1, e0_1, w0_1⟩ : leafIs (.int .i64) y0_1 := k0 1 _ rfl
    subst e0_1
    obtain ⟨x0_2, e0_2, w0_2⟩ : leafIs (.int .i64) y0_2 := k0 2 _ rfl
    subst e0_2
    obtain ⟨x0_3, e0_3, w0_3⟩ : leafIs (.int .i64) y0_3 := k0 3 _ rfl
    subst e0_3
    obtain ⟨cs1, rfl, l1, k1⟩ := open_leaves 5 [.int .i64, .int .i64] (by kernel_rfl) (by kernel_rfl) (hval 1 26 v1 rfl rfl) h1
    match cs1, l1, k1 with
    | [y1_0, y1_1], _, k1 =>
    obtain ⟨x1_0, e1_0, w1_0⟩ : leafIs (.int .i64) y1_0 := k1 0 _ rfl
    subst e1_0
    obtain ⟨x1_1, e1_1, w1_1⟩ : leafIs (.int .i64) y1_1 := k1 1 _ rfl
    subst e1_1
    obtain ⟨a2, rfl, rfl, rfl⟩ := open_bool Try.underlying4 (hval 2 4 v2 rfl rfl) h2
    exact walk x0_0 w0_0 x0_1 w0_1 x0_2 w0_2 x0_3 w0_3 x1_0 w1_0 x1_1 w1_1 a2 W

theorem over : Rows.clampSaysRow.holds Try.pinned (OpenSpec.ofChange Rows.clampSaysSpec) :=
  OpenClaim.holds_of_wide 3 Try.f3 rfl rfl rfl rfl rfl rfl rfl ⟨rfl, rfl, rfl, rfl, rfl⟩ rfl rfl rfl rfl rfl (by kernel_rfl) Try.func3 (by kernel_rfl)
    (of_decide_eq_true (by kernel_rfl)) (by unfold Func.isWrapper; first | (rw [if_pos (by decide +kernel)]; kernel_rfl) | (rw [if_neg (by decide +kernel)]; exact ⟨rfl, rfl⟩))
    (fun os started H enc _ => lifted os started H enc)

theorem proved : Rows.ClampSaysSaid := over
#print axioms proved
end Go.Proofs.Ytjojclgbonhngaa.clampSays
