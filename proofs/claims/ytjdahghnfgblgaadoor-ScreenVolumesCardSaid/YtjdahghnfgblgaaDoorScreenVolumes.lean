/- ScreenVolumes holds of every two numbers: a volume's text has its digits, unlike volumes have unlike texts, and the greater one no shorter one, and, if it is as long, a greater one. No condition but the tables that are laid. -/
import Derived.Test.YtjdahghnfgblgaaDoorLaid
import Derived.Test.YtjdahghnfgblgaaDoorCards
import Derived.Test.YtjdahghnfgblgaaDoorTie
import Derived.Test.YtjdahghnfgblgaaDoorLaw43
import Derived.Test.YtjdahghnfgblgaaDoorVol
import Derived.Deep.LoopGhost
import Derived.Deep.DeepCutAuto
namespace Go.Proofs.YtjdahghnfgblgaaDoor.screenVolumes
open Go.ChangeShapes Go.WideShapes Go.ChangeAt Go.RowKit
set_option linter.unusedVariables false
set_option linter.unusedSimpArgs false
set_option maxRecDepth 100000
attribute [local go_sem] cell_set_ite Near.cell Near.frozen
attribute [local go_sem ↓] Go.wp_at_zero Go.wp_at_succ

set_option maxHeartbeats 8000000 in
theorem walk (a : Int) (wa : (Lit.int .u32 a).wf = true) (b : Int) (wb : (Lit.int .u32 b).wf = true) (W : World) (hL : laidMetH Tryd.prog Rows.screenVolumesRow.laid W) :
    Calls Tryd.prog 4 #[.int .u32 a, .int .u32 b] W fun e W' => e = .returned (.bool true) ∧ Below W.heap.size W W' := by
  have HT := Lib.hid (sc_tabs hL (by kernel_rfl) (by kernel_rfl) (by kernel_rfl) (by kernel_rfl))
  have A : Below W.heap.size W W := Below.refl _ _
  simp only [Lit.wf, IntKind.min, IntKind.max, IntKind.signed, IntKind.bits, Bool.and_eq_true] at wa wb
  simp at wa wb
  have a0 : 0 ≤ a := by omega
  have a1 : a ≤ 4294967295 := by omega
  have b0 : 0 ≤ b := by omega
  have b1 : b ≤ 4294967295 := by omega
  clear wa wb hL
  obtain ⟨v, hv⟩ : ∃ v : Nat, a % 100000000 = (v : Int) := ⟨(a % 100000000).toNat, by omega⟩
  obtain ⟨x, hx⟩ : ∃ x : Nat, b % 100000000 = (x : Int) := ⟨(b % 100000000).toNat, by omega⟩
  have v1 : v < 100000000 := by omega
  have x1 : x < 100000000 := by omega
  have HV := fun w h => sc_volume (v : Int) w h
  have HX := fun w h => sc_volume (x : Int) w h
  rw [show cntV9 (v : Int) = v by unfold cntV9; omega] at HV
  rw [show cntV9 (x : Int) = x by unfold cntV9; omega] at HX
  have HV := Lib.hid HV
  have HX := Lib.hid HX
  have hsz := vl_size v
  have htz := vl_size x
  obtain ⟨sl0, sl1⟩ := tx_len v v1
  obtain ⟨tl0, tl1⟩ := tx_len x x1
  have hless := vl_less v x v1 x1
  have heq := vl_eq v x v1 x1
  have hval := tx_val v v1
  have hnum : numsOf (vlS v) = txL v := by rw [vl_tx]; exact nums_str (fun z hz => by have := tx_bd v z hz; omega)
  generalize txL x = X at *
  generalize vlS x = t at *
  generalize vlS v = s at *
  generalize txL v = S at *
  have HL := Lib.hid hless
  have HE := Lib.hid heq
  have HVAL := Lib.hid hval
  have HN := Lib.hid hnum
  clear hless heq hval hnum
  go_enter Tryd.func4, Tryd.ntmps4
  go_wp2_with (fail)
  refine (HV.out _ HT.out.tab).mono ?_
  rintro e w1 ⟨rfl, hb⟩
  have A1 := below_call A hb
  have T1 := Lib.hid (HT.out.stays hb)
  clear hb A
  go_wp2_with (fail)
  refine (HX.out _ T1.out.tab).mono ?_
  rintro e w2 ⟨rfl, hb⟩
  have A2 := Lib.hid (below_call A1 hb)
  have T2 := Lib.hid (T1.out.stays hb)
  clear hb A1 HV HX
  go_wp2
  go_loopg [9, 23] (s.size + 1) (fun gk n i wr => ∃ k : Nat, k ≤ s.size ∧ gk = s.size + 1 - k ∧ i = .int .i64 k ∧ n = .int .i64 (vwL (S.take k)) ∧ wr = w2)
  case atStart => exact ⟨0, Nat.zero_le _, rfl, rfl, rfl, rfl⟩
  case round =>
    obtain ⟨k, hk, hgk, rfl, rfl, rfl⟩ := hrel
    have HGK := Lib.hid hgk
    clear hgk
    obtain ⟨n0, n1⟩ := val_in S k (by omega) (by omega)
    by_cases hp : k < s.size
    · have hst := Lib.hid (val_step S k (by omega))
      have hat := nums_at hp
      rw [HN.out] at hat
      have hd256 := UInt8.toNat_lt (s[k]'hp)
      have hst2 : Hid (vwL (S.take (k + 1)) = rdV (vwL (S.take k)) ((s[k]'hp).toNat : Int)) := Lib.hid (by rw [hst.out, hat])
      clear hat hst
      have hp' : (k : Int) < (s.size : Int) := by omega
      generalize vwL (S.take k) = n at *
      obtain ⟨d, hd⟩ : ∃ d, (s[k]'hp).toNat = d := ⟨_, rfl⟩
      rw [hd] at hst2 hd256
      by_cases h1 : 48 ≤ d
      · by_cases h2 : d ≤ 57
        · have e2 := Lib.hid (hst2.out.trans (show rdV n (d : Int) = n * 10 + ((d : Int) - 48) by unfold rdV; rw [if_pos (by omega)]))
          have q1 : (48 : Int) ≤ (d : Int) := by omega
          have q2 : (d : Int) ≤ 57 := by omega
          have q3 : ((d : Int) - 48) % 256 = (d : Int) - 48 := by omega
          go_wp2
          go_roundg (s.size + 1 - (k + 1))
          case measure => have := HGK.out; omega
          case rel => exact ⟨k + 1, by omega, rfl, by go_num, by rw [e2.out], rfl⟩
        · have e2 := Lib.hid (hst2.out.trans (show rdV n (d : Int) = n by unfold rdV; rw [if_neg (by omega)]))
          have q1 : (48 : Int) ≤ (d : Int) := by omega
          have q2 : ¬ (d : Int) ≤ 57 := by omega
          go_wp2
          go_roundg (s.size + 1 - (k + 1))
          case measure => have := HGK.out; omega
          case rel => exact ⟨k + 1, by omega, rfl, by go_num, by rw [e2.out], rfl⟩
      · have e2 := Lib.hid (hst2.out.trans (show rdV n (d : Int) = n by unfold rdV; rw [if_neg (by omega)]))
        have q1 : ¬ (48 : Int) ≤ (d : Int) := by omega
        go_wp2
        go_roundg (s.size + 1 - (k + 1))
        case measure => have := HGK.out; omega
        case rel => exact ⟨k + 1, by omega, rfl, by go_num, by rw [e2.out], rfl⟩
    · obtain rfl : k = s.size := by omega
      have hfull : S.take s.size = S := List.take_of_length_le (by omega)
      rw [hfull, HVAL.out]
      obtain ⟨q, hq⟩ : ∃ q : Bool, decide (v = x) = q := ⟨_, rfl⟩
      have heq : (s.toList == t.toList) = q := by rw [HE.out, hq]
      have hvx : ((v : Int) == (x : Int)) = q := by
        rw [← hq, Bool.eq_iff_iff, beq_iff_eq, decide_eq_true_eq]; omega
      have hnv : ((v : Int) != (v : Int)) = false := by simp
      have h8 : ¬ (s.size : Int) < 8 := by omega
      have hqq : (q != q) = false := by simp
      have HAW := Lib.hid (fun w h => law43_awake w h)
      by_cases hge : x ≤ v
      · have g1 : (x : Int) ≤ (v : Int) := by omega
        clear hfull n0 n1 hq
        go_wp2_with (fail)
        refine (HAW.out _ T2.out).mono ?_
        rintro e w3 ⟨rfl, hb⟩
        have A3 := below_call A2.out hb
        clear hb
        go_wp2
        go_ret
        exact ⟨rfl, A3⟩
      · have g1 : ¬ (x : Int) ≤ (v : Int) := by omega
        by_cases hlt : s.size < t.size
        · have g2 : (s.size : Int) < (t.size : Int) := by omega
          clear hfull n0 n1 hq
          go_wp2_with (fail)
          refine (HAW.out _ T2.out).mono ?_
          rintro e w3 ⟨rfl, hb⟩
          have A3 := below_call A2.out hb
          clear hb
          go_wp2
          go_ret
          exact ⟨rfl, A3⟩
        · have hl := HL.out (by omega)
          have hl2 : s.size = t.size ∧ Op.bytesLess s.toList t.toList = true := by
            rcases hl with hl | ⟨h1, h2⟩
            · exfalso; omega
            · exact ⟨by omega, h2⟩
          obtain ⟨l1, l2⟩ := hl2
          have g2 : ¬ (s.size : Int) < (t.size : Int) := by omega
          have g3 : ((s.size : Int) == (t.size : Int)) = true := by simp; omega
          clear hl hfull n0 n1 hq
          go_wp2_with (fail)
          refine (HAW.out _ T2.out).mono ?_
          rintro e w3 ⟨rfl, hb⟩
          have A3 := below_call A2.out hb
          clear hb
          go_wp2
          go_ret
          exact ⟨rfl, A3⟩

theorem door_met (os : Os) (args : Array Value) : laidMetH Tryd.prog Rows.screenVolumesRow.laid ((World.doorLaid Tryd.prog 34 os).forCall (fun _ _ => 0) ⟨#[], args, []⟩).memory :=
  laidMetH_of_parts3 (fuel := 8) (laidMet_of_run' 8 (by kernel_rfl) (by kernel_rfl)) (by kernel_rfl) (by kernel_rfl)
set_option maxRecDepth 100000 in
theorem lifted (os : Os) (started : os.Started) (H : Type) (enc : TypeId × Value → H) :
    ReturnsInHanded {} Tryd.checked os 4 .any (fun w args => (Rows.screenVolumesSpec.pre enc Tryd.prog Tryd.f4 [] false w args ∧ laidMetH Tryd.prog Rows.screenVolumesRow.laid w) ∧ sizedMet enc Tryd.prog Tryd.f4 (OpenSpec.ofChange Rows.screenVolumesSpec) false w args) (Rows.screenVolumesSpec.post enc Tryd.prog Tryd.f4 false true false false) := by
  refine law_lift_laid (laid := Rows.screenVolumesRow.laid) started (by kernel_rfl) Tryd.func4 rfl rfl ?_ (by kernel_rfl)
    (ChangeSpec.witness_shaped (enc := enc) (C := Tryd.checked) (os := os) (X := fun w _ => laidMetH Tryd.prog Rows.screenVolumesRow.laid w) false (World.doorLaid Tryd.prog 34 os) #[.int .u32 0, .int .u32 0] 8 rfl (World.shaped_of_RefB (by kernel_rfl) (by kernel_rfl)) (by kernel_rfl) (by kernel_rfl) (by kernel_rfl) (door_met os _)) ?_
  · intro ds hl
    match ds, hl with
    | [_, _], _ => exact ⟨rfl, rfl, rfl⟩
  · intro W base args ds p hval hA hlt hwt hL
    rw [Tryd.params4] at hA hval hwt
    obtain ⟨v0, vs0, d0, ds0, p0, q0, hargs, rfl, rfl, h0, r0⟩ := trodAll_cons hA
    obtain ⟨v1, vs1, d1, ds1, p1, q1, rfl, rfl, rfl, h1, r1⟩ := trodAll_cons r0
    obtain ⟨rfl, rfl, rfl⟩ := trodAll_nil r1
    obtain rfl : args = #[v0, v1] := by cases args; simp_all
    obtain ⟨a0, rfl, rfl, rfl, w0⟩ := open_int Tryd.underlying32 (hval 0 32 v0 rfl rfl) h0
    obtain ⟨a1, rfl, rfl, rfl, w1⟩ := open_int Tryd.underlying32 (hval 1 32 v1 rfl rfl) h1
    exact walk a0 w0 a1 w1 W hL

theorem over : Rows.screenVolumesRow.holds Tryd.pinned (OpenSpec.ofChange Rows.screenVolumesSpec) :=
  OpenClaim.holds_of_wide 4 Tryd.f4 rfl rfl rfl rfl rfl rfl rfl ⟨rfl, rfl, rfl, rfl, rfl⟩ rfl rfl rfl rfl rfl (by kernel_rfl) Tryd.func4 (by kernel_rfl)
    (of_decide_eq_true (by kernel_rfl)) (by unfold Func.isWrapper; first | (rw [if_pos (by decide +kernel)]; kernel_rfl) | (rw [if_neg (by decide +kernel)]; exact ⟨rfl, rfl⟩))
    (fun os started H enc _ => lifted os started H enc)

theorem plain (f : FuncId) (fn : Func) (hf : Tryd.pinned.checked.prog.funcNamed "pinchcock/pinchcocklaw43.ScreenVolumes" = some f) (hfn : Tryd.pinned.checked.prog.funcs[f]? = some fn) :
    false = Tryd.pinned.checked.prog.looks [] ∧ ∀ (j : Nat) t, fn.params[j]? = some t → Tryd.pinned.checked.prog.wantsStandIn t = false := by
  obtain rfl : f = 4 := Option.some.inj ((show Tryd.prog.funcNamed "pinchcock/pinchcocklaw43.ScreenVolumes" = some 4 by kernel_rfl).symm.trans hf) |>.symm
  obtain rfl : fn = Tryd.f4 := (Option.some.inj (Tryd.func4.symm.trans hfn)).symm
  refine ⟨by kernel_rfl, fun j t ht => ?_⟩
  rw [Tryd.params4] at ht
  have hm : t ∈ [32, 32] := by simpa using Array.mem_of_getElem? ht
  have hall : ([32, 32].all fun u => !Tryd.prog.wantsStandIn u) = true := by kernel_rfl
  exact (show Tryd.prog.wantsStandIn t = false by simpa using List.all_eq_true.1 hall t hm)
theorem proved : Rows.ScreenVolumesCardSaid :=
  Claim7.holds_tied_plain_at .later [] _ _ _ _ over (fun _ h => by cases h) (by kernel_rfl) (fun _ h => by cases h) screenVolumes_row_tie rfl ⟨rfl, rfl⟩ (by kernel_rfl) rfl plain (by kernel_rfl)
#print axioms proved
end Go.Proofs.YtjdahghnfgblgaaDoor.screenVolumes
