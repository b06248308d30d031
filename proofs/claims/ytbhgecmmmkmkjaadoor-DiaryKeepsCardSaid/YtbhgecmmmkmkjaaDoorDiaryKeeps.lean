/- DiaryKeeps holds of every list of notes and every tick: the last thirty-two are there, in order; what was since a tick, and was not, are all. No condition. -/
import Derived.Test.YtbhgecmmmkmkjaaDoorLaid
import Derived.Test.YtbhgecmmmkmkjaaDoorCards
import Derived.Test.YtbhgecmmmkmkjaaDoorTie
import Derived.Test.YtbhgecmmmkmkjaaDoorKeepN
namespace Go.Proofs.YtbhgecmmmkmkjaaDoor.diaryKeeps
open Go.ChangeShapes Go.WideShapes Go.ChangeAt Go.RowKit
set_option linter.unusedVariables false
set_option linter.unusedSimpArgs false
set_option maxRecDepth 100000
attribute [local go_sem] cell_set_ite Near.cell Near.frozen

set_option maxHeartbeats 4000000 in
theorem core (w : World) (A : Option Addr) (n c : Nat) (l : List Nt) (hl : Notes w A n l) (hc : n ≤ c) (hn : n ≤ 100) (tick : Int)
    (H7 : Hid (∀ W, Below w.heap.size w W → Calls Tryd.prog 12 #[] W fun e w' => e = .returned (.bool true) ∧ Below W.heap.size W w')) :
    Calls Tryd.prog 6 #[.slice A n c, .int .i64 tick] w fun e w' => e = .returned (.bool true) ∧ Below w.heap.size w w' := by
  have t0 : decide (100 < (n : Int)) = false := decide_eq_false (by omega)
  have HN := Lib.hid hl
  have HL := Lib.hid hl.1
  clear hl
  go_enter Tryd.func6, Tryd.ntmps6
  go_wp2
  go_loopg [5, 16] n (fun gk x i wr => ∃ (k m : Nat) (B : Option Addr) (d : Nat), k ≤ n ∧ gk = n - k ∧ i = .int .i64 k ∧ x = .slice B m d ∧ m = min k 32 ∧ m ≤ d ∧ Notes wr B m (kp l k) ∧ Below w.heap.size w wr)
  case atStart => exact ⟨0, 0, none, 0, by omega, rfl, rfl, rfl, rfl, Nat.le_refl _, Notes.none_ _ _, Below.refl _ _⟩
  case round =>
    obtain ⟨k, m, B, d, hk, rfl, rfl, rfl, hm, hmd, NK, A1⟩ := hrel
    by_cases hlt : k < n
    · obtain ⟨b, off, rfl, hbs, c0, c1, c2⟩ := (HN.out.below A1).at_ hlt
      obtain ⟨m1, hm1⟩ : ∃ m1, min (k + 1) 32 = m1 := ⟨_, rfl⟩
      obtain ⟨lo, hlo⟩ : ∃ lo, k + 1 - 32 = lo := ⟨_, rfl⟩
      have P := Lib.hid (push_as B m d (kp l k) (kp l (k + 1)) m1 (l.getD k nt0).t (l.getD k nt0).w (l.getD k nt0).a wr NK hmd (by omega) (kp_push l k (by have := HL.out; omega)) ((kp_len l (k + 1) (by have := HL.out; omega)).trans hm1))
      have NL := (HN.out.below A1).last (k := k + 1) (by omega)
      rw [hlo, hm1] at NL
      have HNL := Lib.hid NL
      clear NK NL
      clear hm
      generalize l.getD k nt0 = x at *
      obtain ⟨xt, xw, xa⟩ := x
      dsimp only at c0 c1 c2 P
      generalize hL : kp l (k + 1) = L at *
      have HLL := Lib.hid hL
      clear hL
      go_wp2_with (fail)
      refine P.out.mono ?_
      rintro e w1 ⟨B1, d1, rfl, hd1, N1, hb1⟩
      have A2 := below_call A1 hb1
      have K := Lib.hid (di_same B1 (some ⟨b, off + lo * 3, none⟩) m1 d1 (c - lo) L w1 N1 (HNL.out.below hb1) (by omega))
      have HN1 := Lib.hid N1
      have wk : IntKind.i64.wrap ((k : Int) + 1) = (k : Int) + 1 := by rw [IntKind.wrap_i64]; omega
      have hmn : min ((k : Int) + 1) 32 = (m1 : Int) := by omega
      have wl : IntKind.i64.wrap ((k : Int) + 1 - (m1 : Int)) = (lo : Int) := by rw [IntKind.wrap_i64]; omega
      have hkm : k + 1 - lo = m1 := by omega
      have hlk : (lo : Int) ≤ (k : Int) + 1 := by omega
      have hkc : (k : Int) + 1 ≤ (c : Int) := by omega
      have hkc2 : k + 1 ≤ c := by omega
      have hclo : ¬ c = lo := by omega
      have hloc : lo < c := by omega
      have htn : ((k : Int) + 1).toNat = k + 1 := by omega
      clear P N1 hb1 c0 c1 c2 HNL A1
      have HM1 := Lib.hid hm1
      clear hm1 hlo
      go_wp2_with (fail)
      refine K.out.mono ?_
      rintro e w2 ⟨rfl, hb2⟩
      have A3 := Lib.hid (below_call A2 hb2)
      have HN2 := Lib.hid (HN1.out.below hb2)
      clear K hb2 A2 HN1
      go_wp2
      go_roundg (n - (k + 1))
      case measure => omega
      case rel => exact ⟨k + 1, m1, B1, d1, by omega, by omega, by go_num, rfl, HM1.out.symm, hd1, by rw [HLL.out]; exact HN2.out, A3.out⟩
    · obtain rfl : k = n := by omega
      generalize hX : kp l k = X at *
      have hXm : X.length = m := NK.1
      have hm32 : m ≤ 32 := by omega
      clear hX hm
      obtain ⟨L2, hL2⟩ : ∃ L2, sinceL X tick m = L2 := ⟨_, rfl⟩
      obtain ⟨m2, hm2⟩ : ∃ m2, L2.length = m2 := ⟨_, rfl⟩
      have hm2b : m2 ≤ m := by rw [← hm2, ← hL2]; have := sinceL_len X tick m; omega
      have S := Lib.hid (since_as B m d X L2 m2 tick wr NK (by omega) hL2 hm2)
      have HK := Lib.hid NK
      have HX := Lib.hid hXm
      clear NK hXm
      go_wp2_with (fail)
      refine S.out.mono ?_
      rintro e w1 ⟨B2, d2, rfl, hd2, N2, hb1⟩
      have A2 := below_call A1 hb1
      have HK1 := Lib.hid (HK.out.below hb1)
      have HN2 := Lib.hid N2
      clear S hb1 N2 HK A1
      go_wp2
      go_loopg [8, 51] m (fun gk y i wr2 => ∃ j : Nat, j ≤ m ∧ gk = m - j ∧ i = .int .i64 j ∧ y = .int .i64 ((sinceL X tick j).length : Int) ∧ Below w1.heap.size w1 wr2)
      case atStart => exact ⟨0, by omega, rfl, rfl, rfl, Below.refl _ _⟩
      case round =>
        obtain ⟨j, hj, rfl, rfl, rfl, A3⟩ := hrel
        have HA := Lib.hid A3
        have A4 := below_call A2 A3
        by_cases hjm : j < m
        · obtain ⟨bo, oo, rfl, hbo, o0, o1, o2⟩ := (HK1.out.below A3).at_ hjm
          have hup := since_up X tick j
          have d0 : decide ((j : Int) < (m : Int)) = true := decide_eq_true (by omega)
          by_cases ht : tick ≤ (X.getD j nt0).t
          · obtain ⟨hq, he⟩ := since_at X tick m j hjm ht
            rw [hL2] at hq he
            rw [hm2] at hq
            obtain ⟨bs, os, rfl, hbs2, s0, s1, s2⟩ := (HN2.out.below A3).at_ hq
            rw [he] at s0 s1 s2
            rw [if_pos ht] at hup
            have HUP := Lib.hid hup
            clear he hup A3 hL2 hm2
            generalize (sinceL X tick j).length = q at *
            generalize X.getD j nt0 = x at *
            obtain ⟨xt, xw, xa⟩ := x
            dsimp only at o0 o1 o2 s0 s1 s2 ht
            have t1 := decide_eq_true ht
            have tq : decide ((m2 : Int) ≤ (q : Int)) = false := decide_eq_false (by omega)
            have wq : IntKind.i64.wrap ((q : Int) + 1) = (q : Int) + 1 := by rw [IntKind.wrap_i64]; omega
            have tqn : decide (m2 ≤ q) = false := decide_eq_false (by omega)
            have tq2 : decide ((q : Int) < (m2 : Int)) = true := decide_eq_true (by omega)
            have tq3 : decide (q < m2) = true := decide_eq_true hq
            clear ht
            go_upto_region 17 with (fail)
            refine wp_region_calm (by kernel_rfl) (by kernel_rfl) ?_
            repeat (go_big_quiet_step ((fail)))
            refine wpQuiet_nil ?_
            intro _ hw'
            obtain ⟨u, rfl⟩ := hw'
            have A5 := Lib.hid (below_call HA.out u.below)
            go_wp2
            go_roundg (m - (j + 1))
            case measure => omega
            case rel => exact ⟨j + 1, by omega, by omega, by go_num, by rw [HUP.out]; go_num, A5.out⟩
          · rw [if_neg ht] at hup
            have HUP := Lib.hid hup
            clear hup A3 hL2 hm2
            generalize (sinceL X tick j).length = q at *
            generalize X.getD j nt0 = x at *
            obtain ⟨xt, xw, xa⟩ := x
            dsimp only at o0 o1 o2 ht
            have t1 := decide_eq_false ht
            clear ht
            go_wp2
            go_roundg (m - (j + 1))
            case measure => omega
            case rel => exact ⟨j + 1, by omega, by omega, by go_num, by rw [HUP.out]; rfl, HA.out⟩
        · obtain rfl : j = m := by omega
          rw [hL2, hm2]
          have K := Lib.hid (H7.out _ A4)
          have HA4 := Lib.hid A4
          clear A3 A4 hL2 hm2
          go_wp2_with (fail)
          refine K.out.mono ?_
          rintro e w9 ⟨rfl, hb9⟩
          have A9 := Lib.hid (below_call HA4.out hb9)
          go_wp2
          all_goals go_ret
          all_goals exact ⟨rfl, A9.out⟩
theorem walk (w : World) (A : Option Addr) (n c : Nat) (rs : List (List Value)) (hi : Rows [.int .i64, .int .i64, .int .i64] w A n rs) (hc : n ≤ c) (hr : n * 24 ≤ 140737488351232) (tick : Int) (wk : (Lit.int .i64 tick).wf = true) (hL : laidMetH Tryd.prog Rows.diaryKeepsRow.laid w) :
    Calls Tryd.prog 6 #[.slice A n c, .int .i64 tick] w fun e w' => e = .returned (.bool true) ∧ Below w.heap.size w w' := by
  obtain ⟨l, hl⟩ := Notes.of_rows hi
  obtain ⟨ht, hw⟩ := dia_tabs hL (by kernel_rfl) (by kernel_rfl)
  have H7 := Lib.hid (fun W (h : Below w.heap.size w W) => law44_awake W (ht.stays h) (hw.stays h))
  clear hi hL wk hr ht hw
  by_cases hn : 100 < n
  · have t0 : decide (100 < (n : Int)) = true := decide_eq_true (by omega)
    have H := Lib.hid (H7.out _ (Below.refl _ _))
    clear hl hn H7
    go_enter Tryd.func6, Tryd.ntmps6
    go_wp2_with (fail)
    refine H.out.mono ?_
    rintro e w' ⟨rfl, hb⟩
    have HB := Lib.hid hb
    go_wp2
    all_goals go_ret
    all_goals exact ⟨rfl, HB.out⟩
  · exact core w A n c l hl hc (by omega) tick H7

theorem door_met (os : Os) (args : Array Value) : laidMetH Tryd.prog Rows.diaryKeepsRow.laid ((World.doorLaid Tryd.prog 67 os).forCall (fun _ _ => 0) ⟨#[], args, []⟩).memory :=
  laidMetH_of_parts3 (fuel := 8) (laidMet_of_run' 8 (by kernel_rfl) (by kernel_rfl)) (by kernel_rfl) (by kernel_rfl)
set_option maxRecDepth 100000 in
theorem lifted (os : Os) (started : os.Started) (H : Type) (enc : TypeId × Value → H) :
    ReturnsInHanded {} Tryd.checked os 6 .any (fun w args => (Rows.diaryKeepsSpec.pre enc Tryd.prog Tryd.f6 [] false w args ∧ laidMetH Tryd.prog Rows.diaryKeepsRow.laid w) ∧ sizedMet enc Tryd.prog Tryd.f6 (OpenSpec.ofChange Rows.diaryKeepsSpec) false w args) (Rows.diaryKeepsSpec.post enc Tryd.prog Tryd.f6 false true false false) := by
  refine law_lift_laid (laid := Rows.diaryKeepsRow.laid) started (by kernel_rfl) Tryd.func6 rfl rfl ?_ (by kernel_rfl)
    (ChangeSpec.witness_shaped (enc := enc) (C := Tryd.checked) (os := os) (X := fun w _ => laidMetH Tryd.prog Rows.diaryKeepsRow.laid w) false (World.doorLaid Tryd.prog 67 os) #[.slice none 0 0, .int .i64 0] 8 rfl (World.shaped_of_RefB (by kernel_rfl) (by kernel_rfl)) (by kernel_rfl) (by kernel_rfl) (by kernel_rfl) (door_met os _)) ?_
  · intro ds hl
    match ds, hl with
    | [_, _], _ => exact ⟨rfl, rfl, rfl⟩
  · intro W base args ds p hval hA hlt hwt hL
    rw [Tryd.params6] at hA hval hwt
    obtain ⟨v0, vs0, d0, ds0, p0, q0, hargs, rfl, rfl, h0, r0⟩ := trodAll_cons hA
    obtain ⟨v1, vs1, d1, ds1, p1, q1, rfl, rfl, rfl, h1, r1⟩ := trodAll_cons r0
    obtain ⟨rfl, rfl, rfl⟩ := trodAll_nil r1
    obtain rfl : args = #[v0, v1] := by cases args; simp_all
    have wt0 : ∀ n ∈ d0.weights Tryd.prog 29, n ≤ reachBytes := fun n hn => by
      have := List.all_eq_true.1 hwt n (DataW.weights_mem_each (j := 0) (t := 29) (d := d0) rfl rfl n hn)
      simpa using this
    have lt0 : ∀ x ∈ p0, x.block < W.heap.size := fun x hx => hlt x (by simp [hx])
    obtain ⟨A0, n0, c0, xs0, rfl, hi0, hc0, hr0⟩ := open_rows_arg (nb := 24) 5 [.int .i64, .int .i64, .int .i64] Tryd.underlying29 (by kernel_rfl) (by kernel_rfl) (by decide) (by kernel_rfl) (hval 0 29 v0 rfl rfl) h0 lt0 wt0
    obtain ⟨a1, rfl, rfl, rfl, w1⟩ := open_int Tryd.underlying3 (hval 1 3 v1 rfl rfl) h1
    exact walk W A0 n0 c0 xs0 hi0 hc0 hr0 a1 w1 hL

theorem over : Rows.diaryKeepsRow.holds Tryd.pinned (OpenSpec.ofChange Rows.diaryKeepsSpec) :=
  OpenClaim.holds_of_wide 6 Tryd.f6 rfl rfl rfl rfl rfl rfl rfl ⟨rfl, rfl, rfl, rfl, rfl⟩ rfl rfl rfl rfl rfl (by kernel_rfl) Tryd.func6 (by kernel_rfl)
    (of_decide_eq_true (by kernel_rfl)) (by unfold Func.isWrapper; first | (rw [if_pos (by decide +kernel)]; kernel_rfl) | (rw [if_neg (by decide +kernel)]; exact ⟨rfl, rfl⟩))
    (fun os started H enc _ => lifted os started H enc)

theorem plain (f : FuncId) (fn : Func) (hf : Tryd.pinned.checked.prog.funcNamed "pinchcock/pinchcocklaw44.DiaryKeeps" = some f) (hfn : Tryd.pinned.checked.prog.funcs[f]? = some fn) :
    true = Tryd.pinned.checked.prog.looks [] ∧ ∀ (j : Nat) t, fn.params[j]? = some t → Tryd.pinned.checked.prog.wantsStandIn t = false := by
  obtain rfl : f = 6 := Option.some.inj ((show Tryd.prog.funcNamed "pinchcock/pinchcocklaw44.DiaryKeeps" = some 6 by kernel_rfl).symm.trans hf) |>.symm
  obtain rfl : fn = Tryd.f6 := (Option.some.inj (Tryd.func6.symm.trans hfn)).symm
  refine ⟨by kernel_rfl, fun j t ht => ?_⟩
  rw [Tryd.params6] at ht
  have hm : t ∈ [29, 3] := by simpa using Array.mem_of_getElem? ht
  have hall : ([29, 3].all fun u => !Tryd.prog.wantsStandIn u) = true := by kernel_rfl
  exact (show Tryd.prog.wantsStandIn t = false by simpa using List.all_eq_true.1 hall t hm)
theorem proved : Rows.DiaryKeepsCardSaid :=
  Claim7.holds_tied_plain_at .later [] _ _ _ _ over (fun _ h => by cases h) (by kernel_rfl) (fun _ h => by cases h) diaryKeeps_row_tie rfl ⟨rfl, rfl⟩ (by kernel_rfl) rfl plain (by kernel_rfl)
#print axioms proved
end Go.Proofs.YtbhgecmmmkmkjaaDoor.diaryKeeps
