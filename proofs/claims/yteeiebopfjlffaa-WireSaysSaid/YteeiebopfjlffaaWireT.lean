/- Contract: step. -/
import Derived.Test.YteeiebopfjlffaaWireK
import Derived.Test.YteeiebopfjlffaaCalm
namespace Go.Proofs.Yteeiebopfjlffaa
open Go.RowKit Ieee
set_option linter.unusedVariables false
set_option linter.unusedSimpArgs false
set_option maxRecDepth 100000
attribute [local go_sem] cell_set_ite Near.cell Near.frozen

def spV (x : Sp) : Value := .agg #[.float .f64 x.raw.adc, .float .f64 x.raw.tilt, .float .f64 x.raw.bat, .float .f64 x.raw.enc, .bool x.raw.door, .int .i64 x.raw.key, .bool x.raw.wr, .bool x.cut, .string x.torn]
def stS (x : Sp) : ByteArray := if stB x then ⟨(stL x).toArray⟩ else ⟨#[]⟩
theorem cutS (x : Sp) (hc : x.cut = true) (hb : stB x = true) : numS 1 1 ++ numS ((x.torn.size : Nat) : Int) 1 ++ x.torn = stS x := by
  unfold stS stL
  rw [hb, hc]
  simp only [if_true]
  unfold stB at hb
  rw [hc] at hb
  simp only [if_true, decide_eq_true_eq] at hb
  rw [show numS 1 1 = ⟨(numL 1 1).toArray⟩ from numS_is 1 1 (by omega) (by omega) (by omega), show (1 : Int) = ((1 : Nat) : Int) from rfl, numS_is x.torn.size 1 (by omega) (by omega) (by omega), num_one, num_one, app_bytes]
  have hx : x.torn = ⟨x.torn.data.toList.toArray⟩ := by cases x.torn; simp
  rw [hx, app_bytes]
  rfl
set_option maxHeartbeats 2000000 in
theorem wi_step (x : Sp) (hr : wfR x.raw) (k0 : -9223372036854775808 ≤ x.raw.key) (k1 : x.raw.key ≤ 9223372036854775807) (hz : x.torn.size ≤ maxLen) (w : World) :
    Calls Try.prog 12 #[spV x] w fun e w' => e = .returned (.tuple #[.string (stS x), .bool (stB x)]) ∧ Below w.heap.size w w' := by
  have D0 : Below w.heap.size w w := Below.refl _ _
  have KT := Lib.hid fun w => wi_tick x.raw hr k0 k1 w
  have HCS := Lib.hid (cutS x)
  have eB : stB x = if x.cut then decide (x.torn.size ≤ 64) else wkB x.raw := rfl
  have eS : x.cut = false → stS x = wkS x.raw := fun hc => by
    unfold stS wkS stL
    rw [eB, hc]
    rfl
  obtain ⟨raw, cut, torn⟩ := x
  simp only at KT eB eS HCS k0 k1 hz hr
  cases cut with
  | false =>
    have eS := eS rfl
    simp only [Bool.false_eq_true, if_false] at eB
    rw [eS, eB]
    generalize wkS raw = s at *
    generalize wkB raw = b at *
    clear eS eB HCS
    obtain ⟨adc, tilt, bat, enc, door, key, wr⟩ := raw
    unfold rwW' at KT
    show Calls _ _ #[.agg #[.float .f64 adc, .float .f64 tilt, .float .f64 bat, .float .f64 enc, .bool door, .int .i64 key, .bool wr, .bool false, .string torn]] w _
    simp only at KT
    go_enter Try.func12, Try.ntmps12
    go_wp2_with (go_at_call 23; refine (KT.out _).mono ?_; rintro e w1 ⟨rfl, b1⟩)
    all_goals go_ret2
    all_goals exact ⟨rfl, below_call (below_alloc_on D0 _) b1⟩
  | true =>
    clear KT eS
    obtain ⟨adc, tilt, bat, enc, door, key, wr⟩ := raw
    show Calls _ _ #[.agg #[.float .f64 adc, .float .f64 tilt, .float .f64 bat, .float .f64 enc, .bool door, .int .i64 key, .bool wr, .bool true, .string torn]] w _
    simp only [if_true] at eB
    by_cases ht : torn.size ≤ 64
    · rw [decide_eq_true ht] at eB
      have e := HCS.out rfl eB
      rw [← e, eB]
      clear e eB HCS
      have N1 := Lib.hid fun w => code_num 1 1 (by omega) (by omega) w
      have N2 := Lib.hid fun w => code_num ((torn.size : Nat) : Int) 1 (by omega) (by omega) w
      have z1 := numS7 1 1
      have z2 := numS7 ((torn.size : Nat) : Int) 1
      generalize numS 1 1 = s1 at *
      generalize numS ((torn.size : Nat) : Int) 1 = s2 at *
      go_enter Try.func12, Try.ntmps12
      go_wp2_with (fail)
      refine wp_region_calm (by kernel_rfl) (by kernel_rfl) ?_
      repeat (go_big_quiet_step ((first | (go_at_call 24; with_reducible exact calm_of _ (N1.out _)) | (go_at_call 24; with_reducible exact calm_of _ (N2.out _)))))
      refine wpQuiet_nil ?_
      intro _ hw'
      obtain ⟨u, rfl⟩ := hw'
      go_wp2_with (fail)
      all_goals go_ret2
      all_goals exact ⟨rfl, below_call (below_alloc_on D0 _) u.below⟩
    · rw [decide_eq_false ht] at eB
      have eS : stS ⟨⟨adc, tilt, bat, enc, door, key, wr⟩, true, torn⟩ = ⟨#[]⟩ := by unfold stS; rw [eB]; rfl
      rw [eS, eB]
      clear eS eB HCS
      go_enter Try.func12, Try.ntmps12
      go_wp2_with (fail)
      all_goals go_ret2
      all_goals exact ⟨rfl, below_alloc_on D0 _⟩
end Go.Proofs.Yteeiebopfjlffaa
