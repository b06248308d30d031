/- RealsSays holds of every three float64 and every pair of limits: kinds, order, the second one, what is taken and what is nearest are the document's. No condition. -/
import Derived.Test.YtoafbnefmfboiaaLaw3
import Derived.Test.YtoafbnefmfboiaaLift
import Derived.Test.YtoafbnefmfboiaaArr
import Derived.BigQuiet
namespace Go.Proofs.Ytoafbnefmfboiaa.realsSays
open Go.ChangeShapes Go.WideShapes Go.ChangeAt Go.RowKit Ieee
set_option linter.unusedVariables false
attribute [local go_sem] o_eql o_neq o_lss o_gtr

theorem fl_lt {b : Nat} (h : (Lit.float .f64 b).wf = true) : b < 18446744073709551616 := by
  simpa [Lit.wf] using h
theorem mid_one (a b c : Nat) : midV a b c = a ∨ midV a b c = b ∨ midV a b c = c := by
  unfold midV; repeat' split
  all_goals simp
theorem rm_one (a b c : Nat) : rmV a b c = a ∨ rmV a b c = b ∨ rmV a b c = c := by
  unfold rmV; repeat' split
  all_goals simp

set_option maxRecDepth 100000 in
set_option maxHeartbeats 2000000 in
theorem walk (x : Nat) (wx : (Lit.float .f64 x).wf = true) (y : Nat) (wy : (Lit.float .f64 y).wf = true) (z : Nat) (wz : (Lit.float .f64 z).wf = true) (lo : Int) (w0 : (Lit.int .i64 lo).wf = true) (hi : Int) (w1 : (Lit.int .i64 hi).wf = true) (W : World) :
    Calls Try.prog 3 #[.agg #[.float .f64 x, .float .f64 y, .float .f64 z], .int .i64 lo, .int .i64 hi] W fun e W' => e = .returned (.bool true) ∧ Below W.heap.size W W' := by
  have hx := fl_lt wx
  have hy := fl_lt wy
  have hz := fl_lt wz
  have hm : midV x y z < 18446744073709551616 := by rcases mid_one x y z with h | h | h <;> omega
  have hr : rmV x y z < 18446744073709551616 := by rcases rm_one x y z with h | h | h <;> omega
  have ho : odV (midV x y z) (rmV x y z) = 0 := by
    have := mids_same x y z
    unfold odV; rw [if_neg (by omega), if_neg (by omega)]
  have hb : At W (W.alloc (.cells #[.float .f64 x, .float .f64 y, .float .f64 z] 23)) := (At.refl W).below ((Below.refl _ _).alloc (Nat.le_refl _) _)
  have s1 : (tkV x lo hi == tkV x lo hi) = true := beq_self_eq_true _
  have s2 : (tkB x lo hi == tkB x lo hi) = true := beq_self_eq_true _
  have s3 : (nrV3 x lo hi == nrV3 x lo hi) = true := beq_self_eq_true _
  have s4 : (kdV x == kdV x) = true := beq_self_eq_true _
  have s5 : (odV x y == odV x y) = true := beq_self_eq_true _
  go_enter Try.func3, Try.ntmps3
  go_wp2_with (first
    | (go_at_call 8; refine (r_take _ _ _ _).mono ?_; rintro e w' ⟨rfl, rfl⟩)
    | (go_at_call 9; refine (q_take _ _ _ _).mono ?_; rintro e w' ⟨rfl, rfl⟩)
    | (go_at_call 10; refine (r_near _ _ _ _).mono ?_; rintro e w' ⟨rfl, rfl⟩)
    | (go_at_call 11; refine (q_near _ _ _ _).mono ?_; rintro e w' ⟨rfl, rfl⟩))
  go_quiet (first
    | (go_at_call 12; refine (r_mid _ _ _ hx hy hz _).mono ?_; rintro e w' ⟨rfl, rfl⟩; exact ⟨rfl, _, rfl⟩)
    | (go_at_call 13; refine (q_mid _ _ _ hx hy hz _).mono ?_; rintro e w' ⟨rfl, rfl⟩; exact ⟨rfl, _, rfl⟩))
  go_wp2
  go_quiet (first
    | (go_at_call 14; refine (q_order _ _ (by assumption) (by assumption) _).mono ?_; rintro e w' ⟨rfl, rfl⟩; exact ⟨rfl, _, rfl⟩)
    | (go_at_call 17; refine (r_order _ _ (by assumption) (by assumption) _).mono ?_; rintro e w' ⟨rfl, rfl⟩; exact ⟨rfl, _, rfl⟩)
    | (go_at_call 15; refine (r_kind _ (by assumption) _).mono ?_; rintro e w' ⟨rfl, rfl⟩; exact ⟨rfl, _, rfl⟩)
    | (go_at_call 16; refine (q_kind _ (by assumption) _).mono ?_; rintro e w' ⟨rfl, rfl⟩; exact ⟨rfl, _, rfl⟩)
    | (go_at_call 18; refine (law3_awake0 _).mono ?_; rintro e w' ⟨rfl, rfl⟩; exact ⟨rfl, Nat.succ _, rfl⟩))
  go_wp2
  all_goals go_ret
  all_goals exact ⟨rfl, (hb.draws _).draws _⟩

theorem lifted (os : Os) (started : os.Started) (H : Type) (enc : TypeId × Value → H) :
    ReturnsInHanded {} Try.checked os 3 .any (Rows.realsSaysSpec.pre6 enc Try.prog Try.f3 Rows.realsSaysRow.domain false) (Rows.realsSaysSpec.post enc Try.prog Try.f3 false true false false) := by
  refine law_lift started (by kernel_rfl) Try.func3 rfl rfl ?_ (by kernel_rfl)
    (ChangeSpec.witness6 (enc := enc) (C := Try.checked) false ⟨#[], #[.agg #[.float .f64 0, .float .f64 0, .float .f64 0], .int .i64 0, .int .i64 0], []⟩ 8 (by kernel_rfl) (by kernel_rfl) (by kernel_rfl) (by kernel_rfl)) ?_
  · intro ds hl
    match ds, hl with
    | [_, _, _], _ => exact ⟨rfl, rfl, rfl⟩
  · intro W base args ds p hval hA hlt hwt
    rw [Try.params3] at hA hval hwt
    obtain ⟨v0, vs0, d0, ds0, p0, q0, hargs, rfl, rfl, h0, r0⟩ := trodAll_cons hA
    obtain ⟨v1, vs1, d1, ds1, p1, q1, rfl, rfl, rfl, h1, r1⟩ := trodAll_cons r0
    obtain ⟨v2, vs2, d2, ds2, p2, q2, rfl, rfl, rfl, h2, r2⟩ := trodAll_cons r1
    obtain ⟨rfl, rfl, rfl⟩ := trodAll_nil r2
    obtain rfl : args = #[v0, v1, v2] := by cases args; simp_all
    obtain ⟨xs0, rfl, l0, w0⟩ := open_float_cells Try.underlying23 Try.underlying22 (by kernel_rfl) (by kernel_rfl) (hval 0 23 v0 rfl rfl) h0
    match xs0, l0, w0 with
    | [x0_0, x0_1, x0_2], _, w0 =>
    obtain ⟨a1, rfl, rfl, rfl, w1⟩ := open_int Try.underlying3 (hval 1 3 v1 rfl rfl) h1
    obtain ⟨a2, rfl, rfl, rfl, w2⟩ := open_int Try.underlying3 (hval 2 3 v2 rfl rfl) h2
    exact walk x0_0 (w0 _ (by simp)) x0_1 (w0 _ (by simp)) x0_2 (w0 _ (by simp)) a1 w1 a2 w2 W

theorem over : Rows.realsSaysRow.holds Try.pinned (OpenSpec.ofChange Rows.realsSaysSpec) :=
  OpenClaim.holds_of_wide 3 Try.f3 rfl rfl rfl rfl rfl rfl rfl ⟨rfl, rfl, rfl, rfl, rfl⟩ rfl rfl rfl rfl rfl (by kernel_rfl) Try.func3 (by kernel_rfl)
    (of_decide_eq_true (by kernel_rfl)) (by unfold Func.isWrapper; first | (rw [if_pos (by decide +kernel)]; kernel_rfl) | (rw [if_neg (by decide +kernel)]; exact ⟨rfl, rfl⟩))
    (fun os started H enc _ => lifted os started H enc)

theorem proved : Rows.RealsSaysSaid := over
#print axioms proved
end Go.Proofs.Ytoafbnefmfboiaa.realsSays
