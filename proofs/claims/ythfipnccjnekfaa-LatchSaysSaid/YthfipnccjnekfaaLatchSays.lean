/- LatchSays holds of any numbers: what is raised, acknowledged, of which level it is, and which hazards there are, are the document's. No condition. -/
import Derived.Test.YthfipnccjnekfaaLaw34
import Derived.Test.YthfipnccjnekfaaRef34
import Derived.Test.YthfipnccjnekfaaLeaf
namespace Go.Proofs.Ythfipnccjnekfaa.latchSays
open Go.ChangeShapes Go.WideShapes Go.ChangeAt Go.RowKit
set_option linter.unusedVariables false
set_option linter.unusedSimpArgs false

theorem eq_self (xs : List Int) : eqL xs xs = true := by simp [eqL]
theorem walk (a : Int) (wa : (Lit.int .i64 a).wf = true) (b : Int) (wb : (Lit.int .i64 b).wf = true) (W : World) :
    Calls Try.prog 3 #[.int .i64 a, .int .i64 b] W fun e W' => e = .returned (.bool true) ∧ Below W.heap.size W W' := by
  clear wa wb
  have HA := Lib.hid law34_awake
  have hn := wh_le a 12
  have HW := Lib.hid (fun w => lt_which a w)
  have HR := Lib.hid (fun w => rl_which a w)
  have he := eq_self (whK a 12)
  generalize whK a 12 = xs at *
  have HE := Lib.hid he
  clear he
  have K0 : Kept W W := ⟨Below.refl _ _⟩
  go_enter Try.func3, Try.ntmps3
  go_wp2_with (first
    | (go_at_call 12; refine (lt_raise _ _ _).mono ?_; rintro e w' ⟨rfl, rfl⟩)
    | (go_at_call 13; refine (rl_raise _ _ _).mono ?_; rintro e w' ⟨rfl, rfl⟩)
    | (go_at_call 14; refine (lt_ack _ _ _).mono ?_; rintro e w' ⟨rfl, rfl⟩)
    | (go_at_call 15; refine (rl_ack _ _ _).mono ?_; rintro e w' ⟨rfl, rfl⟩)
    | (go_at_call 16; refine (lt_level _ _).mono ?_; rintro e w' ⟨rfl, rfl⟩)
    | (go_at_call 17; refine (rl_level _ _).mono ?_; rintro e w' ⟨rfl, rfl⟩)
    | (go_at_call 19; refine (HW.out _).mono ?_; rintro e w1 ho; obtain ⟨B, d, rfl, hd, hi, hb⟩ := ho.new; have K1 := K0.call hb; have R1 : Reads w1 B xs.length xs := ⟨hi⟩; clear hi ho)
    | (go_at_call 20; refine (HR.out _).mono ?_; rintro e w2 ho; obtain ⟨C, f, rfl, hf, hj, hb2⟩ := ho.new; have K2 := K1.call hb2; have R2 : Reads w2 C xs.length xs := ⟨hj⟩; have R3 := R1.call hb2; clear hj ho)
    | (go_at_call 18; refine (l34_ints _ _ _ _ _ _ xs xs _ R3 R2 (by omega) (by omega)).mono ?_; rw [HE.out]; rintro e w3 ⟨rfl, hb3⟩; have K3 := K2.call hb3)
    | (go_at_call 21; refine (HA.out _).mono ?_; rintro e w4 ⟨rfl, hb4⟩; have K4 := K3.call hb4))
  all_goals go_ret
  all_goals exact ⟨rfl, K4.bel⟩

set_option maxRecDepth 100000 in
theorem lifted (os : Os) (started : os.Started) (H : Type) (enc : TypeId × Value → H) :
    ReturnsInHanded {} Try.checked os 3 .any (Rows.latchSaysSpec.pre6 enc Try.prog Try.f3 Rows.latchSaysRow.domain false) (Rows.latchSaysSpec.post enc Try.prog Try.f3 false true false false) := by
  refine law_lift started (by kernel_rfl) Try.func3 rfl rfl ?_ (by kernel_rfl)
    (ChangeSpec.witness6 (enc := enc) (C := Try.checked) false ⟨#[], #[.int .i64 0, .int .i64 0], []⟩ 8 (by kernel_rfl) (by kernel_rfl) (by kernel_rfl) (by kernel_rfl)) ?_
  · intro ds hl
    match ds, hl with
    | [_, _], _ => exact ⟨rfl, rfl, rfl⟩
  · intro W base args ds p hval hA hlt hwt
    rw [Try.params3] at hA hval hwt
    obtain ⟨v0, vs0, d0, ds0, p0, q0, hargs, rfl, rfl, h0, r0⟩ := trodAll_cons hA
    obtain ⟨v1, vs1, d1, ds1, p1, q1, rfl, rfl, rfl, h1, r1⟩ := trodAll_cons r0
    obtain ⟨rfl, rfl, rfl⟩ := trodAll_nil r1
    obtain rfl : args = #[v0, v1] := by cases args; simp_all
    obtain ⟨a0, rfl, rfl, rfl, w0⟩ := open_int Try.underlying3 (hval 0 3 v0 rfl rfl) h0
    obtain ⟨a1, rfl, rfl, rfl, w1⟩ := open_int Try.underlying3 (hval 1 3 v1 rfl rfl) h1
    exact walk a0 w0 a1 w1 W

theorem over : Rows.latchSaysRow.holds Try.pinned (OpenSpec.ofChange Rows.latchSaysSpec) :=
  OpenClaim.holds_of_wide 3 Try.f3 rfl rfl rfl rfl rfl rfl rfl ⟨rfl, rfl, rfl, rfl, rfl⟩ rfl rfl rfl rfl rfl (by kernel_rfl) Try.func3 (by kernel_rfl)
    (of_decide_eq_true (by kernel_rfl)) (by unfold Func.isWrapper; first | (rw [if_pos (by decide +kernel)]; kernel_rfl) | (rw [if_neg (by decide +kernel)]; exact ⟨rfl, rfl⟩))
    (fun os started H enc _ => lifted os started H enc)

theorem proved : Rows.LatchSaysSaid := over
#print axioms proved
end Go.Proofs.Ythfipnccjnekfaa.latchSays
