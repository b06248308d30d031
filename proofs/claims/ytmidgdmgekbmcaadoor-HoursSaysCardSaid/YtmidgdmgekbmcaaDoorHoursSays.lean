/- HoursSays holds of every tick and every text: the text, and the tick, are the document's. No condition. -/
import Derived.Test.YtmidgdmgekbmcaaDoorLaid
import Derived.Test.YtmidgdmgekbmcaaDoorCards
import Derived.Test.YtmidgdmgekbmcaaDoorTie
import Derived.Test.YtmidgdmgekbmcaaDoorLaw53
import Derived.ChangeMaps5
namespace Go.Proofs.YtmidgdmgekbmcaaDoor.hoursSays
open Go.ChangeShapes Go.WideShapes Go.ChangeAt Go.RowKit
set_option linter.unusedVariables false
set_option linter.unusedSimpArgs false
set_option maxRecDepth 100000
attribute [local go_sem] cell_set_ite Near.cell Near.frozen
attribute [-go_sem] run_string_add_if

set_option maxHeartbeats 4000000 in
theorem walk (w : World) (tick : Int) (wt : (Lit.int .i64 tick).wf = true) (s : ByteArray) (ws : s.size ≤ maxLen) (hL : laidMetH Tryd.prog Rows.hoursSaysRow.laid w) :
    Calls Tryd.prog 3 #[.int .i64 tick, .string s] w fun e w' => e = .returned (.bool true) ∧ Below w.heap.size w w' := by
  obtain ⟨T, E⟩ := hr_tabs hL (by kernel_rfl) (by kernel_rfl) (by kernel_rfl)
  have HK := Lib.hid (fun u h => law53_awake w T E u h)
  have H0 := Lib.hid (At.refl w)
  clear hL wt
  by_cases hn : 60 < s.size
  · have t0 : decide ((60 : Int) < (s.size : Int)) = true := decide_eq_true (by omega)
    clear hn T E ws
    go_enter Tryd.func3, Tryd.ntmps3
    go_wp2_with (go_at_call 5; refine (HK.out _ H0.out).mono ?_; rintro e w' ⟨rfl, hb⟩)
    go_ret
    exact ⟨rfl, hb⟩
  · have t0 : decide ((60 : Int) < (s.size : Int)) = false := decide_eq_false (by omega)
    have hl : s.data.toList.length ≤ 60 := by rw [Array.length_toList]; show s.size ≤ 60; omega
    have X1 := Lib.hid (fun u h => hr_text w T tick u h)
    have X2 := Lib.hid (fun u h => rh_text w tick u h)
    have heq : ((bS (txL (ckN tick))).toList == (bS (txL (ckN tick))).toList) = true := by rw [bS_beq]; exact beq_self_eq_true _
    obtain ⟨n, b, P1, P2⟩ : ∃ (n : Int) (b : Bool), Hid (∀ u, At w u → Calls Tryd.prog 6 #[.string s] u fun e w' => e = .returned (.tuple #[.int .i64 n, .bool b]) ∧ At w w') ∧ Hid (∀ u, At w u → Calls Tryd.prog 7 #[.string s] u fun e w' => e = .returned (.tuple #[.int .i64 n, .bool b]) ∧ At w w') := by
      rw [← bS_of s]
      rcases is_tx s.data.toList with ⟨t, ht, he⟩ | hno
      · rw [← he]
        exact ⟨t, true, Lib.hid (fun u h => hr_parse_yes w T E t ht u h), Lib.hid (fun u h => rh_parse_yes w t ht u h)⟩
      · exact ⟨0, false, Lib.hid (fun u h => hr_parse_no w T E _ hl hno u h), Lib.hid (fun u h => rh_parse_no w _ hl hno u h)⟩
    clear hn T E ws hl
    generalize bS (txL (ckN tick)) = x at *
    go_enter Tryd.func3, Tryd.ntmps3
    go_wp2_with (fail)
    refine (P1.out _ H0.out).mono ?_
    rintro e w1 ⟨rfl, a1⟩
    have A1 := Lib.hid a1
    clear a1
    go_wp2_with (fail)
    refine (P2.out _ A1.out).mono ?_
    rintro e w2 ⟨rfl, a2⟩
    have A2 := Lib.hid a2
    clear a2
    go_wp2_with (fail)
    refine (X1.out _ A2.out).mono ?_
    rintro e w3 ⟨rfl, a3⟩
    have A3 := Lib.hid a3
    clear a3
    go_wp2_with (fail)
    refine (X2.out _ A3.out).mono ?_
    rintro e w4 ⟨rfl, a4⟩
    have A4 := Lib.hid a4
    clear a4
    cases b
    all_goals go_wp2_with (go_at_call 5; refine (HK.out _ A4.out).mono ?_; rintro e w' ⟨rfl, hb⟩)
    all_goals go_ret
    all_goals exact ⟨rfl, hb⟩

theorem door_met (os : Os) (args : Array Value) : laidMetH Tryd.prog Rows.hoursSaysRow.laid ((World.doorLaid Tryd.prog 62 os).forCall (fun _ _ => 0) ⟨#[], args, []⟩).memory :=
  laidMetH_of_parts3 (fuel := 8) (laidMet_of_run' 8 (by kernel_rfl) (by kernel_rfl)) (by kernel_rfl) (by kernel_rfl)
set_option maxRecDepth 100000 in
theorem lifted (os : Os) (started : os.Started) (H : Type) (enc : TypeId × Value → H) :
    ReturnsInHanded {} Tryd.checked os 3 .any (fun w args => (Rows.hoursSaysSpec.pre enc Tryd.prog Tryd.f3 [] false w args ∧ laidMetH Tryd.prog Rows.hoursSaysRow.laid w) ∧ sizedMet enc Tryd.prog Tryd.f3 (OpenSpec.ofChange Rows.hoursSaysSpec) false w args) (Rows.hoursSaysSpec.post enc Tryd.prog Tryd.f3 false true false false) := by
  refine law_lift_laid (laid := Rows.hoursSaysRow.laid) started (by kernel_rfl) Tryd.func3 rfl rfl ?_ (by kernel_rfl)
    (ChangeSpec.witness_shaped (enc := enc) (C := Tryd.checked) (os := os) (X := fun w _ => laidMetH Tryd.prog Rows.hoursSaysRow.laid w) false (World.doorLaid Tryd.prog 62 os) #[.int .i64 0, .string ⟨#[]⟩] 8 rfl (World.shaped_of_RefB (by kernel_rfl) (by kernel_rfl)) (by kernel_rfl) (by kernel_rfl) (by kernel_rfl) (door_met os _)) ?_
  · intro ds hl
    match ds, hl with
    | [_, _], _ => exact ⟨rfl, rfl, rfl⟩
  · intro W base args ds p hval hA hlt hwt hL
    rw [Tryd.params3] at hA hval hwt
    obtain ⟨v0, vs0, d0, ds0, p0, q0, hargs, rfl, rfl, h0, r0⟩ := trodAll_cons hA
    obtain ⟨v1, vs1, d1, ds1, p1, q1, rfl, rfl, rfl, h1, r1⟩ := trodAll_cons r0
    obtain ⟨rfl, rfl, rfl⟩ := trodAll_nil r1
    obtain rfl : args = #[v0, v1] := by cases args; simp_all
    obtain ⟨a0, rfl, rfl, rfl, w0⟩ := open_int Tryd.underlying3 (hval 0 3 v0 rfl rfl) h0
    obtain ⟨a1, rfl, rfl, rfl, w1⟩ := Go.ChangeMaps.open_string Tryd.underlying9 (hval 1 9 v1 rfl rfl) h1
    exact walk W a0 w0 a1 w1 hL

theorem over : Rows.hoursSaysRow.holds Tryd.pinned (OpenSpec.ofChange Rows.hoursSaysSpec) :=
  OpenClaim.holds_of_wide 3 Tryd.f3 rfl rfl rfl rfl rfl rfl rfl ⟨rfl, rfl, rfl, rfl, rfl⟩ rfl rfl rfl rfl rfl (by kernel_rfl) Tryd.func3 (by kernel_rfl)
    (of_decide_eq_true (by kernel_rfl)) (by unfold Func.isWrapper; first | (rw [if_pos (by decide +kernel)]; kernel_rfl) | (rw [if_neg (by decide +kernel)]; exact ⟨rfl, rfl⟩))
    (fun os started H enc _ => lifted os started H enc)

theorem plain (f : FuncId) (fn : Func) (hf : Tryd.pinned.checked.prog.funcNamed "pinchcock/pinchcocklaw53.HoursSays" = some f) (hfn : Tryd.pinned.checked.prog.funcs[f]? = some fn) :
    true = Tryd.pinned.checked.prog.looks [] ∧ ∀ (j : Nat) t, fn.params[j]? = some t → Tryd.pinned.checked.prog.wantsStandIn t = false := by
  obtain rfl : f = 3 := Option.some.inj ((show Tryd.prog.funcNamed "pinchcock/pinchcocklaw53.HoursSays" = some 3 by kernel_rfl).symm.trans hf) |>.symm
  obtain rfl : fn = Tryd.f3 := (Option.some.inj (Tryd.func3.symm.trans hfn)).symm
  refine ⟨by kernel_rfl, fun j t ht => ?_⟩
  rw [Tryd.params3] at ht
  have hm : t ∈ [3, 9] := by simpa using Array.mem_of_getElem? ht
  have hall : ([3, 9].all fun u => !Tryd.prog.wantsStandIn u) = true := by kernel_rfl
  exact (show Tryd.prog.wantsStandIn t = false by simpa using List.all_eq_true.1 hall t hm)
theorem proved : Rows.HoursSaysCardSaid :=
  Claim7.holds_tied_plain_at .later [] _ _ _ _ over (fun _ h => by cases h) (by kernel_rfl) (fun _ h => by cases h) hoursSays_row_tie rfl ⟨rfl, rfl⟩ (by kernel_rfl) rfl plain (by kernel_rfl)
#print axioms proved
end Go.Proofs.YtmidgdmgekbmcaaDoor.hoursSays
