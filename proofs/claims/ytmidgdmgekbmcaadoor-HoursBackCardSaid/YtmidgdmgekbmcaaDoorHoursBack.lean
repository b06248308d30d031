/- HoursBack holds of every two ticks and every text: what is told is parsed as it was, and the other way round. No condition. -/
import Derived.Test.YtmidgdmgekbmcaaDoorLaid
import Derived.Test.YtmidgdmgekbmcaaDoorCards
import Derived.Test.YtmidgdmgekbmcaaDoorTie
import Derived.Test.YtmidgdmgekbmcaaDoorLaw53
import Derived.ChangeMaps5
namespace Go.Proofs.YtmidgdmgekbmcaaDoor.hoursBack
open Go.ChangeShapes Go.WideShapes Go.ChangeAt Go.RowKit
set_option linter.unusedVariables false
set_option linter.unusedSimpArgs false
set_option maxRecDepth 100000
attribute [local go_sem] cell_set_ite Near.cell Near.frozen
attribute [-go_sem] run_string_add_if

set_option maxHeartbeats 1000000 in
theorem walk (w : World) (a : Int) (wa : (Lit.int .u64 a).wf = true) (b : Int) (wb : (Lit.int .u64 b).wf = true) (s : ByteArray) (ws : s.size ≤ maxLen) (hL : laidMetH Tryd.prog Rows.hoursBackRow.laid w) :
    Calls Tryd.prog 4 #[.int .u64 a, .int .u64 b, .string s] w fun e w' => e = .returned (.bool true) ∧ Below w.heap.size w w' := by
  obtain ⟨T, E⟩ := hr_tabs hL (by kernel_rfl) (by kernel_rfl) (by kernel_rfl)
  have HK := Lib.hid (fun u h => law53_awake w T E u h)
  have H0 := Lib.hid (At.refl w)
  simp only [Lit.wf, IntKind.min, IntKind.max, IntKind.signed, IntKind.bits, Bool.and_eq_true] at wa wb
  simp at wa wb
  have a0 : 0 ≤ a := by omega
  have b0 : 0 ≤ b := by omega
  clear wa wb hL
  by_cases hn : 60 < s.size
  · have t0 : decide ((60 : Int) < (s.size : Int)) = true := decide_eq_true (by omega)
    clear hn T E ws
    go_enter Tryd.func4, Tryd.ntmps4
    go_wp2_with (go_at_call 5; refine (HK.out _ H0.out).mono ?_; rintro e w' ⟨rfl, hb⟩)
    go_ret
    exact ⟨rfl, hb⟩
  · have t0 : decide ((60 : Int) < (s.size : Int)) = false := decide_eq_false (by omega)
    have hl : s.data.toList.length ≤ 60 := by rw [Array.length_toList]; show s.size ≤ 60; omega
    obtain ⟨x, hx⟩ : ∃ x : Nat, a % 1099511627777 = (x : Int) := ⟨(a % 1099511627777).toNat, by omega⟩
    obtain ⟨y, hy⟩ : ∃ y : Nat, b % 1099511627777 = (y : Int) := ⟨(b % 1099511627777).toNat, by omega⟩
    have hx1 : x ≤ 1099511627776 := by omega
    have hy1 : y ≤ 1099511627776 := by omega
    have X1 := fun u h => hr_text w T (x : Int) u h
    have X2 := fun u h => hr_text w T (y : Int) u h
    rw [ck_id hx1] at X1
    rw [ck_id hy1] at X2
    have P1 := Lib.hid (fun u h => hr_parse_yes w T E x hx1 u h)
    have X1 := Lib.hid X1
    have X2 := Lib.hid X2
    have hr : x < y → (bS (txL x)).size ≤ (bS (txL y)).size ∧ ((bS (txL x)).size = (bS (txL y)).size → Op.bytesLess (bS (txL x)).toList (bS (txL y)).toList = true) := by
      rw [bS_size, bS_size, Lib.toList_data, Lib.toList_data]; exact tx_rises
    obtain ⟨m, q, P2, hq⟩ : ∃ (m : Int) (q : Bool), Hid (∀ u, At w u → Calls Tryd.prog 6 #[.string s] u fun e w' => e = .returned (.tuple #[.int .i64 m, .bool q]) ∧ At w w') ∧
        (q = true ∧ 0 ≤ m ∧ m ≤ 1099511627776 ∧ Hid (∀ u, At w u → Calls Tryd.prog 8 #[.int .i64 m] u fun e w' => e = .returned (.string s) ∧ At w w') ∨ q = false ∧ m = 0) := by
      rw [← bS_of s]
      rcases is_tx s.data.toList with ⟨t, ht, he⟩ | hno
      · rw [← he]
        refine ⟨t, true, Lib.hid (fun u h => hr_parse_yes w T E t ht u h), .inl ⟨rfl, by omega, by omega, Lib.hid fun u h => ?_⟩⟩
        have := hr_text w T (t : Int) u h
        rw [ck_id ht] at this
        exact this
      · exact ⟨0, false, Lib.hid (fun u h => hr_parse_no w T E _ hl hno u h), .inr ⟨rfl, rfl⟩⟩
    clear hn T E ws hl
    generalize bS (txL x) = c at *
    generalize bS (txL y) = d at *
    have hss : (s.toList == s.toList) = true := beq_self_eq_true _
    have hne : ((x : Int) != (x : Int)) = false := by simp
    have hw3 : (¬ x < y) ∨ (x < y ∧ c.size < d.size) ∨ (x < y ∧ c.size = d.size ∧ Op.bytesLess c.toList d.toList = true) := by
      by_cases h : x < y
      · have ⟨h1, h2⟩ := hr h
        rcases Nat.lt_or_ge c.size d.size with h3 | h3
        · exact .inr (.inl ⟨h, h3⟩)
        · exact .inr (.inr ⟨h, by omega, h2 (by omega)⟩)
      · exact .inl h
    have HW := Lib.hid hw3
    have HQ := Lib.hid hq
    clear hr hw3 hq
    go_enter Tryd.func4, Tryd.ntmps4
    go_wp2_with (fail)
    with_reducible refine (X1.out _ H0.out).mono ?_
    rintro e w1 ⟨rfl, a1⟩
    have A1 := Lib.hid a1
    clear a1
    go_wp2_with (fail)
    with_reducible refine (X2.out _ A1.out).mono ?_
    rintro e w2 ⟨rfl, a2⟩
    have A2 := Lib.hid a2
    clear a2
    go_wp2_with (fail)
    with_reducible refine (P1.out _ A2.out).mono ?_
    rintro e w3 ⟨rfl, a3⟩
    have A3 := Lib.hid a3
    clear a3 hx hy
    rcases HW.out with h | ⟨h1, h2⟩ | ⟨h1, h2, h3⟩
    · have f1 : decide (x < y) = false := by simpa using h
      have f2 : decide ((x : Int) < (y : Int)) = false := by simp; omega
      clear h
      go_upto_region 8 with (fail)
      clear f1 f2
      go_wp2_with (fail)
      with_reducible refine (P2.out _ A3.out).mono ?_
      rintro e w4 ⟨rfl, a4⟩
      have A4 := Lib.hid a4
      clear a4
      rcases HQ.out with ⟨rfl, m0, m1, XT⟩ | ⟨rfl, rfl⟩
      · have g1 : decide (0 ≤ m) = true := by simpa using m0
        have g2 : decide (m ≤ 1099511627776) = true := by simpa using m1
        go_wp2_with (first
          | (go_at_call 8; with_reducible refine (XT.out _ A4.out).mono ?_; rintro e w5 ⟨rfl, a5⟩; have A5 := Lib.hid a5; clear a5)
          | (go_at_call 5; with_reducible refine (HK.out _ A5.out).mono ?_; rintro e w6 ⟨rfl, hb⟩))
        go_ret
        exact ⟨rfl, hb⟩
      · go_wp2_with (go_at_call 5; with_reducible refine (HK.out _ A4.out).mono ?_; rintro e w6 ⟨rfl, hb⟩)
        go_ret
        exact ⟨rfl, hb⟩
    · have f1 : decide (x < y) = true := by simpa using h1
      have f2 : decide ((x : Int) < (y : Int)) = true := by simp; omega
      have f3 : decide (d.size < c.size) = false := by simp; omega
      have f4 : decide ((d.size : Int) < (c.size : Int)) = false := by simp; omega
      have f5 : ((c.size : Int) == (d.size : Int)) = false := by simp; omega
      clear h1 h2
      go_upto_region 8 with (fail)
      clear f1 f2 f3 f4 f5
      go_wp2_with (fail)
      with_reducible refine (P2.out _ A3.out).mono ?_
      rintro e w4 ⟨rfl, a4⟩
      have A4 := Lib.hid a4
      clear a4
      rcases HQ.out with ⟨rfl, m0, m1, XT⟩ | ⟨rfl, rfl⟩
      · have g1 : decide (0 ≤ m) = true := by simpa using m0
        have g2 : decide (m ≤ 1099511627776) = true := by simpa using m1
        go_wp2_with (first
          | (go_at_call 8; with_reducible refine (XT.out _ A4.out).mono ?_; rintro e w5 ⟨rfl, a5⟩; have A5 := Lib.hid a5; clear a5)
          | (go_at_call 5; with_reducible refine (HK.out _ A5.out).mono ?_; rintro e w6 ⟨rfl, hb⟩))
        go_ret
        exact ⟨rfl, hb⟩
      · go_wp2_with (go_at_call 5; with_reducible refine (HK.out _ A4.out).mono ?_; rintro e w6 ⟨rfl, hb⟩)
        go_ret
        exact ⟨rfl, hb⟩
    · have f1 : decide (x < y) = true := by simpa using h1
      have f2 : decide ((x : Int) < (y : Int)) = true := by simp; omega
      have f3 : decide (d.size < c.size) = false := by simp; omega
      have f4 : decide ((d.size : Int) < (c.size : Int)) = false := by simp; omega
      have f5 : ((c.size : Int) == (d.size : Int)) = true := by simp; omega
      clear h1 h2
      go_upto_region 8 with (fail)
      clear f1 f2 f3 f4 f5 h3
      go_wp2_with (fail)
      with_reducible refine (P2.out _ A3.out).mono ?_
      rintro e w4 ⟨rfl, a4⟩
      have A4 := Lib.hid a4
      clear a4
      rcases HQ.out with ⟨rfl, m0, m1, XT⟩ | ⟨rfl, rfl⟩
      · have g1 : decide (0 ≤ m) = true := by simpa using m0
        have g2 : decide (m ≤ 1099511627776) = true := by simpa using m1
        go_wp2_with (first
          | (go_at_call 8; with_reducible refine (XT.out _ A4.out).mono ?_; rintro e w5 ⟨rfl, a5⟩; have A5 := Lib.hid a5; clear a5)
          | (go_at_call 5; with_reducible refine (HK.out _ A5.out).mono ?_; rintro e w6 ⟨rfl, hb⟩))
        go_ret
        exact ⟨rfl, hb⟩
      · go_wp2_with (go_at_call 5; with_reducible refine (HK.out _ A4.out).mono ?_; rintro e w6 ⟨rfl, hb⟩)
        go_ret
        exact ⟨rfl, hb⟩

theorem door_met (os : Os) (args : Array Value) : laidMetH Tryd.prog Rows.hoursBackRow.laid ((World.doorLaid Tryd.prog 62 os).forCall (fun _ _ => 0) ⟨#[], args, []⟩).memory :=
  laidMetH_of_parts3 (fuel := 8) (laidMet_of_run' 8 (by kernel_rfl) (by kernel_rfl)) (by kernel_rfl) (by kernel_rfl)
set_option maxRecDepth 100000 in
theorem lifted (os : Os) (started : os.Started) (H : Type) (enc : TypeId × Value → H) :
    ReturnsInHanded {} Tryd.checked os 4 .any (fun w args => (Rows.hoursBackSpec.pre enc Tryd.prog Tryd.f4 [] false w args ∧ laidMetH Tryd.prog Rows.hoursBackRow.laid w) ∧ sizedMet enc Tryd.prog Tryd.f4 (OpenSpec.ofChange Rows.hoursBackSpec) false w args) (Rows.hoursBackSpec.post enc Tryd.prog Tryd.f4 false true false false) := by
  refine law_lift_laid (laid := Rows.hoursBackRow.laid) started (by kernel_rfl) Tryd.func4 rfl rfl ?_ (by kernel_rfl)
    (ChangeSpec.witness_shaped (enc := enc) (C := Tryd.checked) (os := os) (X := fun w _ => laidMetH Tryd.prog Rows.hoursBackRow.laid w) false (World.doorLaid Tryd.prog 62 os) #[.int .u64 0, .int .u64 0, .string ⟨#[]⟩] 8 rfl (World.shaped_of_RefB (by kernel_rfl) (by kernel_rfl)) (by kernel_rfl) (by kernel_rfl) (by kernel_rfl) (door_met os _)) ?_
  · intro ds hl
    match ds, hl with
    | [_, _, _], _ => exact ⟨rfl, rfl, rfl⟩
  · intro W base args ds p hval hA hlt hwt hL
    rw [Tryd.params4] at hA hval hwt
    obtain ⟨v0, vs0, d0, ds0, p0, q0, hargs, rfl, rfl, h0, r0⟩ := trodAll_cons hA
    obtain ⟨v1, vs1, d1, ds1, p1, q1, rfl, rfl, rfl, h1, r1⟩ := trodAll_cons r0
    obtain ⟨v2, vs2, d2, ds2, p2, q2, rfl, rfl, rfl, h2, r2⟩ := trodAll_cons r1
    obtain ⟨rfl, rfl, rfl⟩ := trodAll_nil r2
    obtain rfl : args = #[v0, v1, v2] := by cases args; simp_all
    obtain ⟨a0, rfl, rfl, rfl, w0⟩ := open_int Tryd.underlying27 (hval 0 27 v0 rfl rfl) h0
    obtain ⟨a1, rfl, rfl, rfl, w1⟩ := open_int Tryd.underlying27 (hval 1 27 v1 rfl rfl) h1
    obtain ⟨a2, rfl, rfl, rfl, w2⟩ := Go.ChangeMaps.open_string Tryd.underlying9 (hval 2 9 v2 rfl rfl) h2
    exact walk W a0 w0 a1 w1 a2 w2 hL

theorem over : Rows.hoursBackRow.holds Tryd.pinned (OpenSpec.ofChange Rows.hoursBackSpec) :=
  OpenClaim.holds_of_wide 4 Tryd.f4 rfl rfl rfl rfl rfl rfl rfl ⟨rfl, rfl, rfl, rfl, rfl⟩ rfl rfl rfl rfl rfl (by kernel_rfl) Tryd.func4 (by kernel_rfl)
    (of_decide_eq_true (by kernel_rfl)) (by unfold Func.isWrapper; first | (rw [if_pos (by decide +kernel)]; kernel_rfl) | (rw [if_neg (by decide +kernel)]; exact ⟨rfl, rfl⟩))
    (fun os started H enc _ => lifted os started H enc)

theorem plain (f : FuncId) (fn : Func) (hf : Tryd.pinned.checked.prog.funcNamed "pinchcock/pinchcocklaw53.HoursBack" = some f) (hfn : Tryd.pinned.checked.prog.funcs[f]? = some fn) :
    true = Tryd.pinned.checked.prog.looks [] ∧ ∀ (j : Nat) t, fn.params[j]? = some t → Tryd.pinned.checked.prog.wantsStandIn t = false := by
  obtain rfl : f = 4 := Option.some.inj ((show Tryd.prog.funcNamed "pinchcock/pinchcocklaw53.HoursBack" = some 4 by kernel_rfl).symm.trans hf) |>.symm
  obtain rfl : fn = Tryd.f4 := (Option.some.inj (Tryd.func4.symm.trans hfn)).symm
  refine ⟨by kernel_rfl, fun j t ht => ?_⟩
  rw [Tryd.params4] at ht
  have hm : t ∈ [27, 27, 9] := by simpa using Array.mem_of_getElem? ht
  have hall : ([27, 27, 9].all fun u => !Tryd.prog.wantsStandIn u) = true := by kernel_rfl
  exact (show Tryd.prog.wantsStandIn t = false by simpa using List.all_eq_true.1 hall t hm)
theorem proved : Rows.HoursBackCardSaid :=
  Claim7.holds_tied_plain_at .later [] _ _ _ _ over (fun _ h => by cases h) (by kernel_rfl) (fun _ h => by cases h) hoursBack_row_tie rfl ⟨rfl, rfl⟩ (by kernel_rfl) rfl plain (by kernel_rfl)
#print axioms proved
end Go.Proofs.YtmidgdmgekbmcaaDoor.hoursBack
