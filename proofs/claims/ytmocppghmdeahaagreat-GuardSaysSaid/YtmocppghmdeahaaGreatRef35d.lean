/- The document's answer for the guard's step. -/
import Derived.Test.YtmocppghmdeahaaGreatRef35c
import Derived.Test.YtmocppghmdeahaaGreatGuardR
import Derived.Deep.LoopGhost
import Derived.Deep.DeepCutAuto
namespace Go.Proofs.YtmocppghmdeahaaGreat
open Go.RowKit
set_option linter.unusedVariables false
set_option linter.unusedSimpArgs false
set_option maxRecDepth 100000
attribute [local go_sem] cell_set_ite Near.cell Near.frozen
attribute [local go_sem ↓] Go.wp_at_zero Go.wp_at_succ

theorem he_or : ∀ (b0 b1 b2 b3 b4 b5 b6 b7 b8 b9 ba bb : Bool), heR b0 b1 b2 b3 b4 b5 b6 b7 b8 b9 ba bb = smV [(1, b0), (2, b1), (4, b2), (8, b3), (16, b4), (32, b5), (64, b6), (128, b7), (256, b8), (512, b9), (1024, ba), (2048, bb)] := by decide +kernel
theorem la_ref (la HE : Int) (k : Lk) : raV (if k.ak = true then acV (bits .and .i64 la 4095) HE else bits .and .i64 la 4095) (bits .and .i64 HE (arV k.m)) = laV la HE k := by
  unfold laV
  split
  · rw [ra_bv, ra_bv, ac_bv, ac_bv, and_bv, bv_int, bv_int, bv_int]
    congr 1
    generalize bv la = x at *
    generalize bv HE = y at *
    generalize bv 4095 = m at *
    generalize bv (bits .and .i64 HE (arV k.m)) = z at *
    apply BitVec.eq_of_getLsbD_eq
    intro i hi
    simp only [BitVec.getLsbD_and, BitVec.getLsbD_or]
    cases x.getLsbD i <;> cases y.getLsbD i <;> cases m.getLsbD i <;> cases z.getLsbD i <;> rfl
  · rw [ra_bv, ra_bv, and_bv, bv_int]
    congr 1
    generalize bv la = x at *
    generalize bv 4095 = m at *
    generalize bv (bits .and .i64 HE (arV k.m)) = z at *
    apply BitVec.eq_of_getLsbD_eq
    intro i hi
    simp only [BitVec.getLsbD_and, BitVec.getLsbD_or]
    cases x.getLsbD i <;> cases m.getLsbD i <;> cases z.getLsbD i <;> rfl

set_option maxHeartbeats 16000000 in
theorem r35_step (A : Option Addr) (n c : Nat) (xs : List Int) (d0 d1 l0 l1 p0 p1 la : Int) (k : Lk) (w : World) (h : Ints w A n xs) (hc : n ≤ c) (hn : n ≤ 1000)
    (ys : List Int) (hys : pnL xs k.t k.dr (liV k.r k.s) = ys) (m : Nat) (hm : ys.length = m) (hm2 : m ≤ 1000) (HE : Int) (hHE : heV k ys (drA d0 d1 k) (drB d0 d1 k) (loS l0 (inB k.m) k.dr) (loW l1 (inB k.m) (svB k)) (poT p0 k.ti) (poB p1 k.ba) = HE) :
    Calls Tryz.prog 6 #[.agg #[.int .i64 d0, .int .i64 d1, .int .i64 l0, .int .i64 l1, .int .i64 p0, .int .i64 p1, .slice A n c, .int .i64 la], .agg (lkC k)] w fun e w' => ∃ B d, e = .returned (.tuple #[.agg #[.int .i64 (drA d0 d1 k), .int .i64 (drB d0 d1 k), .int .i64 (loS l0 (inB k.m) k.dr), .int .i64 (loW l1 (inB k.m) (svB k)), .int .i64 (poT p0 k.ti), .int .i64 (poB p1 k.ba), .slice B m d, .int .i64 (laV la HE k)], .int .i64 HE]) ∧ m ≤ d ∧ Ints w' B m ys ∧ Below w.heap.size w w' := by
  have hys2 : pnL26 xs k.t k.dr (liV k.r k.s) = ys := hys
  have HX := Lib.hid (fun w => r9_limit k.r k.s w)
  have HD := Lib.hid (fun w => r35_drifts d0 d1 k w)
  have HI := Lib.hid (fun w => r35_infuses k.m w)
  have HG := Lib.hid (fun w => r35_goal k.m k.r k.v k.s w)
  have hmul := fun w => ref_mul 2 k.ra w
  rw [mulV_comm 2 k.ra] at hmul
  have HMU := Lib.hid hmul
  have HL := Lib.hid (fun w => rl_step l0 l1 (inB k.m) k.dr (svB k) w)
  have HP := Lib.hid (fun w => rp_step p0 p1 k.ti k.ba w)
  have HN := Lib.hid (fun W (hb : Below w.heap.size w W) => r26_step A n c xs k.t (liV k.r k.s) k.dr W (h.below hb) hc hn)
  rw [hys2] at HN
  obtain ⟨LX, hLX⟩ : ∃ LX, bits .and .i64 la 4095 = LX := ⟨_, rfl⟩
  have hLR := la_ref la HE k
  rw [hLX] at hLR
  have HH := fun B d W hi => r35_held B m d ys (drA d0 d1 k) (drB d0 d1 k) (loS l0 (inB k.m) k.dr) (loW l1 (inB k.m) (svB k)) (poT p0 k.ti) (poB p1 k.ba) LX k W hi (by omega)
  have hEQ : heR k.st (hoB k.r k.s && overB ys k.t 6000 (pcV (liV k.r k.s))) (fiB (drA d0 d1 k)) (fiB (drB d0 d1 k)) (hoB (paV k.m k.r) k.s && ltB (loS l0 (inB k.m) k.dr) (toV (paV k.m k.r) k.s)) (dyB (loW l1 (inB k.m) (svB k))) (whB (poT p0 k.ti)) k.od (whB (poB p1 k.ba)) k.sl k.fa k.ov = HE := (he_or _ _ _ _ _ _ _ _ _ _ _ _).trans hHE
  simp only [hEQ] at HH
  have HH := Lib.hid HH
  have HAR := Lib.hid (fun w => below_of (r35_arm k.m w))
  have HAK := Lib.hid (fun w => rl_ack LX HE w)
  have HRA := Lib.hid (fun a b w => below_of (rl_raise a b w))
  clear hEQ hHE hys hys2 h
  have hsv : svB k = (decide (300 ≤ k.ou) && decide (mulV k.ra 2 < gaV k.m k.r)) := rfl
  generalize laV la HE k = LA at *
  unfold lkC at *
  generalize drA d0 d1 k = D0 at *
  generalize drB d0 d1 k = D1 at *
  generalize loS l0 (inB k.m) k.dr = L0 at *
  generalize loW l1 (inB k.m) (svB k) = L1 at *
  generalize poT p0 k.ti = P0 at *
  generalize poB p1 k.ba = P1 at *
  generalize liV k.r k.s = li at *
  generalize svB k = sv at *
  generalize inB k.m = im at *
  generalize hoB k.r k.s = ho at *
  generalize mulV k.ra 2 = M2 at *
  generalize mulB 2 k.ra = M3 at *
  generalize gaV k.m k.r = G at *
  generalize arV k.m = AR at *
  have HSV := Lib.hid hsv
  have HLR := Lib.hid hLR
  have HM := Lib.hid hm
  clear hsv hLR hm hmul
  go_enter Tryz.func6, Tryz.ntmps6
  go_upto_region 3 with (first
    | (go_at_call 30; refine (HX.out _).mono ?_; rintro e w' ⟨rfl, rfl⟩)
    | (go_at_call 31; refine (HMU.out _).mono ?_; rintro e w' ⟨rfl, rfl⟩))
  obtain ⟨g0, hg0⟩ : ∃ g0, w.heap.size = g0 := ⟨_, rfl⟩
  obtain ⟨k0, hk0⟩ : ∃ k0, w.heap.size + 1 = k0 := ⟨_, rfl⟩
  obtain ⟨r0, hr0⟩ : ∃ r0, w.heap.size + 1 + 1 = r0 := ⟨_, rfl⟩
  refine at_world (fun W => Bx w w.heap.size #[.int .i64 d0, .int .i64 d1, .int .i64 l0, .int .i64 l1, .int .i64 p0, .int .i64 p1, .slice A n c, .int .i64 la] W ∧ Bx w (w.heap.size + 1) #[.int .i64 k.t, .int .i64 k.m, .int .i64 k.r, .int .i64 k.v, .int .i64 k.s, .bool k.dr, .bool k.sh, .bool k.st, .bool k.fa, .int .i64 k.ad, .int .i64 k.ti, .int .i64 k.ba, .int .i64 k.en, .bool k.od, .int .i64 k.ke, .bool k.wr, .int .i64 k.bd, .int .i64 k.ra, .bool k.kn, .int .i64 k.ou, .bool k.sl, .bool k.ov, .bool k.ak] W ∧ Bx w (w.heap.size + 1 + 1) #[.int .i64 0, .int .i64 0, .int .i64 0, .int .i64 0, .int .i64 0, .int .i64 0, .slice none 0 0, .int .i64 0] W) ?_ ?_
  · have A0 := Below.refl w.heap.size w
    exact ⟨⟨by (repeat (first | (with_reducible assumption) | (with_reducible exact box_new _ _ _) | ((with_reducible apply box_at); (first | (with_reducible rfl) | (simp <;> omega))) | (with_reducible apply Box.drew) | (with_reducible apply Box.drewN) | (with_reducible apply Box.near) | (with_reducible apply Box.alloc) | ((with_reducible apply box_far); (first | assumption | omega | (simp <;> omega))) | ((with_reducible apply Box.one_set); (with_reducible assumption)) | ((with_reducible apply Box.two_set); (with_reducible assumption)) | ((with_reducible apply Box.three_set); (with_reducible assumption)) | (with_reducible apply Box.set) | (simp only [List.size_toArray, List.length_cons, List.length_nil, Array.size_setIfInBounds] <;> omega))), by (repeat (first | (with_reducible exact Below.refl _ _) | (with_reducible assumption) | (with_reducible refine Near.up _ ?_) | (with_reducible refine Below.drew ?_) | (with_reducible refine below_alloc_on ?_ _) | (with_reducible refine below_set_on ?_ (by first | (simp; done) | (simp; omega) | omega) _))), by omega⟩, ⟨by (repeat (first | (with_reducible assumption) | (with_reducible exact box_new _ _ _) | ((with_reducible apply box_at); (first | (with_reducible rfl) | (simp <;> omega))) | (with_reducible apply Box.drew) | (with_reducible apply Box.drewN) | (with_reducible apply Box.near) | (with_reducible apply Box.alloc) | ((with_reducible apply box_far); (first | assumption | omega | (simp <;> omega))) | ((with_reducible apply Box.one_set); (with_reducible assumption)) | ((with_reducible apply Box.two_set); (with_reducible assumption)) | ((with_reducible apply Box.three_set); (with_reducible assumption)) | (with_reducible apply Box.set) | (simp only [List.size_toArray, List.length_cons, List.length_nil, Array.size_setIfInBounds] <;> omega))), by (repeat (first | (with_reducible exact Below.refl _ _) | (with_reducible assumption) | (with_reducible refine Near.up _ ?_) | (with_reducible refine Below.drew ?_) | (with_reducible refine below_alloc_on ?_ _) | (with_reducible refine below_set_on ?_ (by first | (simp; done) | (simp; omega) | omega) _))), by omega⟩, ⟨by (repeat (first | (with_reducible assumption) | (with_reducible exact box_new _ _ _) | ((with_reducible apply box_at); (first | (with_reducible rfl) | (simp <;> omega))) | (with_reducible apply Box.drew) | (with_reducible apply Box.drewN) | (with_reducible apply Box.near) | (with_reducible apply Box.alloc) | ((with_reducible apply box_far); (first | assumption | omega | (simp <;> omega))) | ((with_reducible apply Box.one_set); (with_reducible assumption)) | ((with_reducible apply Box.two_set); (with_reducible assumption)) | ((with_reducible apply Box.three_set); (with_reducible assumption)) | (with_reducible apply Box.set) | (simp only [List.size_toArray, List.length_cons, List.length_nil, Array.size_setIfInBounds] <;> omega))), by (repeat (first | (with_reducible exact Below.refl _ _) | (with_reducible assumption) | (with_reducible refine Near.up _ ?_) | (with_reducible refine Below.drew ?_) | (with_reducible refine below_alloc_on ?_ _) | (with_reducible refine below_set_on ?_ (by first | (simp; done) | (simp; omega) | omega) _))), by omega⟩⟩
  rintro w1 ⟨X0, X1, X2⟩
  rw [hr0] at X2
  rw [hk0] at X1
  rw [hg0] at X0
  simp only [hr0]
  simp only [hk0]
  simp only [hg0]
  have o0 : w.heap.size ≤ g0 := by omega
  have o1 : w.heap.size ≤ k0 := by omega
  have o2 : w.heap.size ≤ r0 := by omega
  have gk : ¬ g0 = k0 := by omega
  have gr : ¬ g0 = r0 := by omega
  have kr : ¬ k0 = r0 := by omega
  have kr2 : k0 < r0 := by omega
  have gk2 : g0 < k0 := by omega
  clear hg0 hk0 hr0
  go_cut [10] (fun v wx => v = .bool sv ∧ Bx w g0 #[.int .i64 d0, .int .i64 d1, .int .i64 l0, .int .i64 l1, .int .i64 p0, .int .i64 p1, .slice A n c, .int .i64 la] wx ∧ Bx w k0 #[.int .i64 k.t, .int .i64 k.m, .int .i64 k.r, .int .i64 k.v, .int .i64 k.s, .bool k.dr, .bool k.sh, .bool k.st, .bool k.fa, .int .i64 k.ad, .int .i64 k.ti, .int .i64 k.ba, .int .i64 k.en, .bool k.od, .int .i64 k.ke, .bool k.wr, .int .i64 k.bd, .int .i64 k.ra, .bool k.kn, .int .i64 k.ou, .bool k.sl, .bool k.ov, .bool k.ak] wx ∧ Bx w r0 #[.int .i64 0, .int .i64 0, .int .i64 0, .int .i64 0, .int .i64 0, .int .i64 0, .slice none 0 0, .int .i64 0] wx)
  case first =>
    have ck := X1.box.2.1
    have lk := X1.box.1
    by_cases h300 : 300 ≤ k.ou
    · have e1 := HSV.out
      rw [decide_eq_true h300, Bool.true_and] at e1
      have HS2 := Lib.hid e1
      clear e1 HSV
      have HX0 := Lib.hid X0
      have HX1 := Lib.hid X1
      have HX2 := Lib.hid X2
      clear X0 X1 X2
      go_wp2_with (fail)
      refine (HG.out _).mono ?_
      rintro e w2 ⟨rfl, hb⟩
      have HY0 := Lib.hid (HX0.out.call hb)
      have HY1 := Lib.hid (HX1.out.call hb)
      have HY2 := Lib.hid (HX2.out.call hb)
      clear hb HX0 HX1 HX2 ck lk
      go_wp2
      all_goals go_meet
      all_goals exact ⟨by rw [HS2.out], HY0.out, HY1.out, HY2.out⟩
    · have e1 := HSV.out
      rw [decide_eq_false h300, Bool.false_and] at e1
      have HS2 := Lib.hid e1
      clear e1 HSV
      have t300 : decide (300 ≤ k.ou) = false := decide_eq_false h300
      have HX0 := Lib.hid X0
      have HX1 := Lib.hid X1
      have HX2 := Lib.hid X2
      clear X0 X1 X2
      go_wp2
      all_goals go_meet
      all_goals exact ⟨by rw [HS2.out], HX0.out, HX1.out, HX2.out⟩
  case rest =>
    obtain ⟨rfl, X0, X1, X2⟩ := hcut
    go_upto_region 4 with (fail)
    refine at_world (fun W => Bx w g0 #[.int .i64 d0, .int .i64 d1, .int .i64 l0, .int .i64 l1, .int .i64 p0, .int .i64 p1, .slice A n c, .int .i64 la] W ∧ Bx w k0 #[.int .i64 k.t, .int .i64 k.m, .int .i64 k.r, .int .i64 k.v, .int .i64 k.s, .bool k.dr, .bool k.sh, .bool k.st, .bool k.fa, .int .i64 k.ad, .int .i64 k.ti, .int .i64 k.ba, .int .i64 k.en, .bool k.od, .int .i64 k.ke, .bool k.wr, .int .i64 k.bd, .int .i64 k.ra, .bool k.kn, .int .i64 k.ou, .bool k.sl, .bool k.ov, .bool k.ak] W ∧ Bx w r0 #[.int .i64 0, .int .i64 0, .int .i64 0, .int .i64 0, .int .i64 0, .int .i64 0, .slice none 0 0, .int .i64 0] W) ⟨X0, X1, X2⟩ ?_
    clear X0 X1 X2
    rintro w2 ⟨X0, X1, X2⟩
    go_cut [11] (fun v wx => ∃ q B d, v = .pointer (some ⟨q, 0, none⟩) ∧ m ≤ d ∧ m ≤ 9223372036854775807 ∧ (∀ b o, B = some ⟨b, o, none⟩ → b ≠ q ∧ b ≠ r0) ∧ Ints wx B m ys ∧ Bx w g0 #[.int .i64 d0, .int .i64 d1, .int .i64 l0, .int .i64 l1, .int .i64 p0, .int .i64 p1, .slice A n c, .int .i64 la] wx ∧ Bx w k0 #[.int .i64 k.t, .int .i64 k.m, .int .i64 k.r, .int .i64 k.v, .int .i64 k.s, .bool k.dr, .bool k.sh, .bool k.st, .bool k.fa, .int .i64 k.ad, .int .i64 k.ti, .int .i64 k.ba, .int .i64 k.en, .bool k.od, .int .i64 k.ke, .bool k.wr, .int .i64 k.bd, .int .i64 k.ra, .bool k.kn, .int .i64 k.ou, .bool k.sl, .bool k.ov, .bool k.ak] wx ∧ Bx w r0 #[.int .i64 0, .int .i64 0, .int .i64 0, .int .i64 0, .int .i64 0, .int .i64 0, .slice none 0 0, .int .i64 0] wx ∧ r0 < q ∧ Bx w q #[.int .i64 D0, .int .i64 D1, .int .i64 L0, .int .i64 L1, .int .i64 P0, .int .i64 P1, .slice B m d, .int .i64 LX] wx)
    case first =>
      have HB_g0 : ∀ w', Below w2.drew.heap.size w2.drew w' → Box w' g0 #[.int .i64 d0, .int .i64 d1, .int .i64 l0, .int .i64 l1, .int .i64 p0, .int .i64 p1, .slice A n c, .int .i64 la] := fun w' h => (X0.drew.box).below h
      have HB_k0 : ∀ w', Below w2.drew.heap.size w2.drew w' → Box w' k0 #[.int .i64 k.t, .int .i64 k.m, .int .i64 k.r, .int .i64 k.v, .int .i64 k.s, .bool k.dr, .bool k.sh, .bool k.st, .bool k.fa, .int .i64 k.ad, .int .i64 k.ti, .int .i64 k.ba, .int .i64 k.en, .bool k.od, .int .i64 k.ke, .bool k.wr, .int .i64 k.bd, .int .i64 k.ra, .bool k.kn, .int .i64 k.ou, .bool k.sl, .bool k.ov, .bool k.ak] := fun w' h => (X1.drew.box).below h
      have HB_r0 : ∀ w', Below w2.drew.heap.size w2.drew w' → Box w' r0 #[.int .i64 0, .int .i64 0, .int .i64 0, .int .i64 0, .int .i64 0, .int .i64 0, .slice none 0 0, .int .i64 0] := fun w' h => (X2.drew.box).below h
      have HW : ∀ w', Below w2.drew.heap.size w2.drew w' → Below w.heap.size w w' := fun w' h => below_call X0.drew.bel h
      obtain ⟨cs, hcs⟩ : ∃ cs : Nat → Value, (fun i => match i with
        | 0 => .pointer (some ⟨g0, 0, none⟩)
        | 1 => .agg #[.int .i64 d0, .int .i64 d1]
        | 2 => .agg #[.int .i64 k.t, .int .i64 k.m, .int .i64 k.r, .int .i64 k.v, .int .i64 k.s, .bool k.dr, .bool k.sh, .bool k.st, .bool k.fa, .int .i64 k.ad, .int .i64 k.ti, .int .i64 k.ba, .int .i64 k.en, .bool k.od, .int .i64 k.ke, .bool k.wr, .int .i64 k.bd, .int .i64 k.ra, .bool k.kn, .int .i64 k.ou, .bool k.sl, .bool k.ov, .bool k.ak]
        | 3 => .agg #[.int .i64 D0, .int .i64 D1]
        | 4 => .pointer (some ⟨g0, 2, none⟩)
        | 5 => .agg #[.int .i64 l0, .int .i64 l1]
        | 6 => .pointer (some ⟨k0, 1, none⟩)
        | 7 => .int .i64 k.m
        | 8 => .bool im
        | 9 => .pointer (some ⟨k0, 5, none⟩)
        | 10 => .pointer (some ⟨k0, 5, none⟩)
        | 11 => .bool k.dr
        | 12 => .bool sv
        | 13 => .agg #[.int .i64 L0, .int .i64 L1]
        | 14 => .pointer (some ⟨g0, 4, none⟩)
        | 15 => .agg #[.int .i64 p0, .int .i64 p1]
        | 16 => .pointer (some ⟨k0, 9, none⟩)
        | 17 => .pointer (some ⟨k0, 10, none⟩)
        | 18 => .int .i64 k.ti
        | 19 => .pointer (some ⟨k0, 9, none⟩)
        | 20 => .pointer (some ⟨k0, 11, none⟩)
        | 21 => .int .i64 k.ba
        | 22 => .agg #[.int .i64 P0, .int .i64 P1]
        | 23 => .pointer (some ⟨g0, 6, none⟩)
        | 24 => .slice A n c
        | 25 => .pointer (some ⟨k0, 0, none⟩)
        | 26 => .int .i64 k.t
        | 27 => .pointer (some ⟨k0, 5, none⟩)
        | 28 => .pointer (some ⟨k0, 5, none⟩)
        | 29 => .bool k.dr
        | 30 => .int .i64 li
        | 32 => .pointer (some ⟨g0, 7, none⟩)
        | 33 => .int .i64 la
        | 34 => .int .i64 LX
        | _ => undef) = cs := ⟨_, rfl⟩
      have e0 : cs 0 = .pointer (some ⟨g0, 0, none⟩) := by rw [← hcs]; rfl
      have e1 : cs 1 = .agg #[.int .i64 d0, .int .i64 d1] := by rw [← hcs]; rfl
      have e2 : cs 2 = .agg #[.int .i64 k.t, .int .i64 k.m, .int .i64 k.r, .int .i64 k.v, .int .i64 k.s, .bool k.dr, .bool k.sh, .bool k.st, .bool k.fa, .int .i64 k.ad, .int .i64 k.ti, .int .i64 k.ba, .int .i64 k.en, .bool k.od, .int .i64 k.ke, .bool k.wr, .int .i64 k.bd, .int .i64 k.ra, .bool k.kn, .int .i64 k.ou, .bool k.sl, .bool k.ov, .bool k.ak] := by rw [← hcs]; rfl
      have e3 : cs 3 = .agg #[.int .i64 D0, .int .i64 D1] := by rw [← hcs]; rfl
      have e4 : cs 4 = .pointer (some ⟨g0, 2, none⟩) := by rw [← hcs]; rfl
      have e5 : cs 5 = .agg #[.int .i64 l0, .int .i64 l1] := by rw [← hcs]; rfl
      have e6 : cs 6 = .pointer (some ⟨k0, 1, none⟩) := by rw [← hcs]; rfl
      have e7 : cs 7 = .int .i64 k.m := by rw [← hcs]; rfl
      have e8 : cs 8 = .bool im := by rw [← hcs]; rfl
      have e9 : cs 9 = .pointer (some ⟨k0, 5, none⟩) := by rw [← hcs]; rfl
      have e10 : cs 10 = .pointer (some ⟨k0, 5, none⟩) := by rw [← hcs]; rfl
      have e11 : cs 11 = .bool k.dr := by rw [← hcs]; rfl
      have e12 : cs 12 = .bool sv := by rw [← hcs]; rfl
      have e13 : cs 13 = .agg #[.int .i64 L0, .int .i64 L1] := by rw [← hcs]; rfl
      have e14 : cs 14 = .pointer (some ⟨g0, 4, none⟩) := by rw [← hcs]; rfl
      have e15 : cs 15 = .agg #[.int .i64 p0, .int .i64 p1] := by rw [← hcs]; rfl
      have e16 : cs 16 = .pointer (some ⟨k0, 9, none⟩) := by rw [← hcs]; rfl
      have e17 : cs 17 = .pointer (some ⟨k0, 10, none⟩) := by rw [← hcs]; rfl
      have e18 : cs 18 = .int .i64 k.ti := by rw [← hcs]; rfl
      have e19 : cs 19 = .pointer (some ⟨k0, 9, none⟩) := by rw [← hcs]; rfl
      have e20 : cs 20 = .pointer (some ⟨k0, 11, none⟩) := by rw [← hcs]; rfl
      have e21 : cs 21 = .int .i64 k.ba := by rw [← hcs]; rfl
      have e22 : cs 22 = .agg #[.int .i64 P0, .int .i64 P1] := by rw [← hcs]; rfl
      have e23 : cs 23 = .pointer (some ⟨g0, 6, none⟩) := by rw [← hcs]; rfl
      have e24 : cs 24 = .slice A n c := by rw [← hcs]; rfl
      have e25 : cs 25 = .pointer (some ⟨k0, 0, none⟩) := by rw [← hcs]; rfl
      have e26 : cs 26 = .int .i64 k.t := by rw [← hcs]; rfl
      have e27 : cs 27 = .pointer (some ⟨k0, 5, none⟩) := by rw [← hcs]; rfl
      have e28 : cs 28 = .pointer (some ⟨k0, 5, none⟩) := by rw [← hcs]; rfl
      have e29 : cs 29 = .bool k.dr := by rw [← hcs]; rfl
      have e30 : cs 30 = .int .i64 li := by rw [← hcs]; rfl
      have e32 : cs 32 = .pointer (some ⟨g0, 7, none⟩) := by rw [← hcs]; rfl
      have e33 : cs 33 = .int .i64 la := by rw [← hcs]; rfl
      have e34 : cs 34 = .int .i64 LX := by rw [← hcs]; rfl
      clear hcs
      refine wp_region_loose 37 98 (by as_aux_lemma => kernel_rfl) (by as_aux_lemma => kernel_rfl) rfl (fun w w' => Below w.heap.size w w') (fun w => Below.refl _ _) (fun a b c h g => below_call h g)
        (looseD (fun i => if i = 31 then some fun v w' => w'.ownsRow w2.heap.size 3 1 v m (ys.map (Value.int .i64)) else if i = 35 then some fun v w' => ∃ x, v = .agg #[.int .i64 D0, .int .i64 D1, .int .i64 L0, .int .i64 L1, .int .i64 P0, .int .i64 P1, x, .int .i64 LX] ∧ w'.ownsRow w2.heap.size 3 1 x m (ys.map (Value.int .i64)) else if i = 36 then some fun v w' => ∃ q, v = .pointer (some ⟨q, 0, none⟩) ∧ r0 < q ∧ Box w' q #[.int .i64 0, .int .i64 0, .int .i64 0, .int .i64 0, .int .i64 0, .int .i64 0, .slice none 0 0, .int .i64 0] ∧ w'.heap[q]? = some (.cells #[.int .i64 0, .int .i64 0, .int .i64 0, .int .i64 0, .int .i64 0, .int .i64 0, .slice none 0 0, .int .i64 0] 30 (0, 0)) else none) cs)
        (fun _ _ _ => True) (looseD_stable ?_) (fun _ _ _ _ _ _ _ _ => trivial) trivial ?_ ?_
      · intro i p hp v u u' h hE
        split at hp
        · cases hp; exact own_below h hE
        · split at hp
          · cases hp; obtain ⟨x, h1, h2⟩ := h; exact ⟨x, h1, own_below h2 hE⟩
          · split at hp
            · cases hp; obtain ⟨q, h1, h2, h3, h4⟩ := h; exact ⟨q, h1, h2, h3.below hE, (hE.block q h3.1).trans h4⟩
            · cases hp
      · simp only [List.take_succ_cons, List.take_zero]
        refine looseAll_cons (k := 1) rfl (fun a u L hE hev hkn _ _ => ?_) ?_
        · have kc : ∀ c, a.eval (.const c) = c := fun _ => rfl
          have kf : ∀ f, a.eval (.func f) = .func (.func f) #[] #[] := fun _ => rfl
          have t2 : a.eval (.tmp 2) = .pointer (some ⟨g0, 0, none⟩) := hev 2 (by kernel_rfl)
          exact loose_val rfl (v := .pointer (some ⟨g0, 0, none⟩)) (by generalize a.eval = ev at *; simp [go_sem, kc, kf, t2]) ⟨Below.refl _ _, e0.symm, trivial⟩
        refine looseAll_cons (k := 2) rfl (fun a u L hE hev hkn _ _ => ?_) ?_
        · have kc : ∀ c, a.eval (.const c) = c := fun _ => rfl
          have kf : ∀ f, a.eval (.func f) = .func (.func f) #[] #[] := fun _ => rfl
          have C_g0 := (HB_g0 u hE).2.1
          have t41 : a.eval (.tmp 41) = .pointer (some ⟨g0, 0, none⟩) := (hkn 0 (by kernel_rfl) : a.eval (.tmp 41) = cs 0).trans e0
          exact loose_val rfl (v := .agg #[.int .i64 d0, .int .i64 d1]) (by generalize a.eval = ev at *; simp [go_sem, kc, kf, t41, C_g0]) ⟨Below.refl _ _, e1.symm, trivial⟩
        refine looseAll_cons (k := 3) rfl (fun a u L hE hev hkn _ _ => ?_) ?_
        · have HBX := HB_k0 u hE
          have kc : ∀ c, a.eval (.const c) = c := fun _ => rfl
          have kf : ∀ f, a.eval (.func f) = .func (.func f) #[] #[] := fun _ => rfl
          have t3 : a.eval (.tmp 3) = .pointer (some ⟨k0, 0, none⟩) := hev 3 (by kernel_rfl)
          exact loose_load rfl _ _ rfl k0 t3 #[.int .i64 k.t, .int .i64 k.m, .int .i64 k.r, .int .i64 k.v, .int .i64 k.s, .bool k.dr, .bool k.sh, .bool k.st, .bool k.fa, .int .i64 k.ad, .int .i64 k.ti, .int .i64 k.ba, .int .i64 k.en, .bool k.od, .int .i64 k.ke, .bool k.wr, .int .i64 k.bd, .int .i64 k.ra, .bool k.kn, .int .i64 k.ou, .bool k.sl, .bool k.ov, .bool k.ak] _ HBX Tryz.underlying38 rfl (by kernel_rfl) ⟨Below.refl _ _, e2.symm, trivial⟩
        refine looseAll_cons (k := 4) rfl (fun a u L hE hev hkn _ _ => ?_) ?_
        · have kc : ∀ c, a.eval (.const c) = c := fun _ => rfl
          have kf : ∀ f, a.eval (.func f) = .func (.func f) #[] #[] := fun _ => rfl
          have t42 : a.eval (.tmp 42) = .agg #[.int .i64 d0, .int .i64 d1] := (hkn 1 (by kernel_rfl) : a.eval (.tmp 42) = cs 1).trans e1
          have t43 : a.eval (.tmp 43) = .agg #[.int .i64 k.t, .int .i64 k.m, .int .i64 k.r, .int .i64 k.v, .int .i64 k.s, .bool k.dr, .bool k.sh, .bool k.st, .bool k.fa, .int .i64 k.ad, .int .i64 k.ti, .int .i64 k.ba, .int .i64 k.en, .bool k.od, .int .i64 k.ke, .bool k.wr, .int .i64 k.bd, .int .i64 k.ra, .bool k.kn, .int .i64 k.ou, .bool k.sl, .bool k.ov, .bool k.ak] := (hkn 2 (by kernel_rfl) : a.eval (.tmp 43) = cs 2).trans e2
          exact loose_call rfl (by generalize a.eval = ev at *; simp [go_sem, kc, kf, t42, t43]) ((HD.out u).mono fun e w' h => ⟨.agg #[.int .i64 D0, .int .i64 D1], h.1, h.2, e3.symm, trivial⟩)
        refine looseAll_cons (k := 5) rfl (fun a u L hE hev hkn _ _ => ?_) ?_
        · have kc : ∀ c, a.eval (.const c) = c := fun _ => rfl
          have kf : ∀ f, a.eval (.func f) = .func (.func f) #[] #[] := fun _ => rfl
          have t2 : a.eval (.tmp 2) = .pointer (some ⟨g0, 0, none⟩) := hev 2 (by kernel_rfl)
          exact loose_val rfl (v := .pointer (some ⟨g0, 2, none⟩)) (by generalize a.eval = ev at *; simp [go_sem, kc, kf, t2]) ⟨Below.refl _ _, e4.symm, trivial⟩
        refine looseAll_cons (k := 6) rfl (fun a u L hE hev hkn _ _ => ?_) ?_
        · have kc : ∀ c, a.eval (.const c) = c := fun _ => rfl
          have kf : ∀ f, a.eval (.func f) = .func (.func f) #[] #[] := fun _ => rfl
          have C_g0 := (HB_g0 u hE).2.1
          have t45 : a.eval (.tmp 45) = .pointer (some ⟨g0, 2, none⟩) := (hkn 4 (by kernel_rfl) : a.eval (.tmp 45) = cs 4).trans e4
          exact loose_val rfl (v := .agg #[.int .i64 l0, .int .i64 l1]) (by generalize a.eval = ev at *; simp [go_sem, kc, kf, t45, C_g0]) ⟨Below.refl _ _, e5.symm, trivial⟩
        refine looseAll_cons (k := 7) rfl (fun a u L hE hev hkn _ _ => ?_) ?_
        · have kc : ∀ c, a.eval (.const c) = c := fun _ => rfl
          have kf : ∀ f, a.eval (.func f) = .func (.func f) #[] #[] := fun _ => rfl
          have t3 : a.eval (.tmp 3) = .pointer (some ⟨k0, 0, none⟩) := hev 3 (by kernel_rfl)
          exact loose_val rfl (v := .pointer (some ⟨k0, 1, none⟩)) (by generalize a.eval = ev at *; simp [go_sem, kc, kf, t3]) ⟨Below.refl _ _, e6.symm, trivial⟩
        refine looseAll_cons (k := 8) rfl (fun a u L hE hev hkn _ _ => ?_) ?_
        · have kc : ∀ c, a.eval (.const c) = c := fun _ => rfl
          have kf : ∀ f, a.eval (.func f) = .func (.func f) #[] #[] := fun _ => rfl
          have C_k0 := (HB_k0 u hE).2.1
          have t47 : a.eval (.tmp 47) = .pointer (some ⟨k0, 1, none⟩) := (hkn 6 (by kernel_rfl) : a.eval (.tmp 47) = cs 6).trans e6
          exact loose_val rfl (v := .int .i64 k.m) (by generalize a.eval = ev at *; simp [go_sem, kc, kf, t47, C_k0]) ⟨Below.refl _ _, e7.symm, trivial⟩
        refine looseAll_cons (k := 9) rfl (fun a u L hE hev hkn _ _ => ?_) ?_
        · have kc : ∀ c, a.eval (.const c) = c := fun _ => rfl
          have kf : ∀ f, a.eval (.func f) = .func (.func f) #[] #[] := fun _ => rfl
          have t48 : a.eval (.tmp 48) = .int .i64 k.m := (hkn 7 (by kernel_rfl) : a.eval (.tmp 48) = cs 7).trans e7
          exact loose_call rfl (by generalize a.eval = ev at *; simp [go_sem, kc, kf, t48]) ((HI.out u).mono fun e w' h => ⟨.bool im, h.1, h.2 ▸ Below.refl _ _, e8.symm, trivial⟩)
        refine looseAll_cons (k := 10) rfl (fun a u L hE hev hkn _ _ => ?_) ?_
        · have kc : ∀ c, a.eval (.const c) = c := fun _ => rfl
          have kf : ∀ f, a.eval (.func f) = .func (.func f) #[] #[] := fun _ => rfl
          have t3 : a.eval (.tmp 3) = .pointer (some ⟨k0, 0, none⟩) := hev 3 (by kernel_rfl)
          exact loose_val rfl (v := .pointer (some ⟨k0, 5, none⟩)) (by generalize a.eval = ev at *; simp [go_sem, kc, kf, t3]) ⟨Below.refl _ _, e9.symm, trivial⟩
        refine looseAll_cons (k := 11) rfl (fun a u L hE hev hkn _ _ => ?_) ?_
        · have kc : ∀ c, a.eval (.const c) = c := fun _ => rfl
          have kf : ∀ f, a.eval (.func f) = .func (.func f) #[] #[] := fun _ => rfl
          have t50 : a.eval (.tmp 50) = .pointer (some ⟨k0, 5, none⟩) := (hkn 9 (by kernel_rfl) : a.eval (.tmp 50) = cs 9).trans e9
          exact loose_val rfl (v := .pointer (some ⟨k0, 5, none⟩)) (by generalize a.eval = ev at *; simp [go_sem, kc, kf, t50]) ⟨Below.refl _ _, e10.symm, trivial⟩
        refine looseAll_cons (k := 12) rfl (fun a u L hE hev hkn _ _ => ?_) ?_
        · have kc : ∀ c, a.eval (.const c) = c := fun _ => rfl
          have kf : ∀ f, a.eval (.func f) = .func (.func f) #[] #[] := fun _ => rfl
          have C_k0 := (HB_k0 u hE).2.1
          have t51 : a.eval (.tmp 51) = .pointer (some ⟨k0, 5, none⟩) := (hkn 10 (by kernel_rfl) : a.eval (.tmp 51) = cs 10).trans e10
          exact loose_val rfl (v := .bool k.dr) (by generalize a.eval = ev at *; simp [go_sem, kc, kf, t51, C_k0]) ⟨Below.refl _ _, e11.symm, trivial⟩
        refine looseAll_cons (k := 13) rfl (fun a u L hE hev hkn _ _ => ?_) ?_
        · have kc : ∀ c, a.eval (.const c) = c := fun _ => rfl
          have kf : ∀ f, a.eval (.func f) = .func (.func f) #[] #[] := fun _ => rfl
          have t10 : a.eval (.tmp 10) = .bool sv := hev 10 (by kernel_rfl)
          exact loose_val rfl (v := .bool sv) (by generalize a.eval = ev at *; simp [go_sem, kc, kf, t10]) ⟨Below.refl _ _, e12.symm, trivial⟩
        refine looseAll_cons (k := 14) rfl (fun a u L hE hev hkn _ _ => ?_) ?_
        · have kc : ∀ c, a.eval (.const c) = c := fun _ => rfl
          have kf : ∀ f, a.eval (.func f) = .func (.func f) #[] #[] := fun _ => rfl
          have t46 : a.eval (.tmp 46) = .agg #[.int .i64 l0, .int .i64 l1] := (hkn 5 (by kernel_rfl) : a.eval (.tmp 46) = cs 5).trans e5
          have t49 : a.eval (.tmp 49) = .bool im := (hkn 8 (by kernel_rfl) : a.eval (.tmp 49) = cs 8).trans e8
          have t52 : a.eval (.tmp 52) = .bool k.dr := (hkn 11 (by kernel_rfl) : a.eval (.tmp 52) = cs 11).trans e11
          have t53 : a.eval (.tmp 53) = .bool sv := (hkn 12 (by kernel_rfl) : a.eval (.tmp 53) = cs 12).trans e12
          exact loose_call rfl (by generalize a.eval = ev at *; simp [go_sem, kc, kf, t46, t49, t52, t53]) ((HL.out u).mono fun e w' h => ⟨.agg #[.int .i64 L0, .int .i64 L1], h.1, h.2, e13.symm, trivial⟩)
        refine looseAll_cons (k := 15) rfl (fun a u L hE hev hkn _ _ => ?_) ?_
        · have kc : ∀ c, a.eval (.const c) = c := fun _ => rfl
          have kf : ∀ f, a.eval (.func f) = .func (.func f) #[] #[] := fun _ => rfl
          have t2 : a.eval (.tmp 2) = .pointer (some ⟨g0, 0, none⟩) := hev 2 (by kernel_rfl)
          exact loose_val rfl (v := .pointer (some ⟨g0, 4, none⟩)) (by generalize a.eval = ev at *; simp [go_sem, kc, kf, t2]) ⟨Below.refl _ _, e14.symm, trivial⟩
        refine looseAll_cons (k := 16) rfl (fun a u L hE hev hkn _ _ => ?_) ?_
        · have kc : ∀ c, a.eval (.const c) = c := fun _ => rfl
          have kf : ∀ f, a.eval (.func f) = .func (.func f) #[] #[] := fun _ => rfl
          have C_g0 := (HB_g0 u hE).2.1
          have t55 : a.eval (.tmp 55) = .pointer (some ⟨g0, 4, none⟩) := (hkn 14 (by kernel_rfl) : a.eval (.tmp 55) = cs 14).trans e14
          exact loose_val rfl (v := .agg #[.int .i64 p0, .int .i64 p1]) (by generalize a.eval = ev at *; simp [go_sem, kc, kf, t55, C_g0]) ⟨Below.refl _ _, e15.symm, trivial⟩
        refine looseAll_cons (k := 17) rfl (fun a u L hE hev hkn _ _ => ?_) ?_
        · have kc : ∀ c, a.eval (.const c) = c := fun _ => rfl
          have kf : ∀ f, a.eval (.func f) = .func (.func f) #[] #[] := fun _ => rfl
          have t3 : a.eval (.tmp 3) = .pointer (some ⟨k0, 0, none⟩) := hev 3 (by kernel_rfl)
          exact loose_val rfl (v := .pointer (some ⟨k0, 9, none⟩)) (by generalize a.eval = ev at *; simp [go_sem, kc, kf, t3]) ⟨Below.refl _ _, e16.symm, trivial⟩
        refine looseAll_cons (k := 18) rfl (fun a u L hE hev hkn _ _ => ?_) ?_
        · have kc : ∀ c, a.eval (.const c) = c := fun _ => rfl
          have kf : ∀ f, a.eval (.func f) = .func (.func f) #[] #[] := fun _ => rfl
          have t57 : a.eval (.tmp 57) = .pointer (some ⟨k0, 9, none⟩) := (hkn 16 (by kernel_rfl) : a.eval (.tmp 57) = cs 16).trans e16
          exact loose_val rfl (v := .pointer (some ⟨k0, 10, none⟩)) (by generalize a.eval = ev at *; simp [go_sem, kc, kf, t57]) ⟨Below.refl _ _, e17.symm, trivial⟩
        refine looseAll_cons (k := 19) rfl (fun a u L hE hev hkn _ _ => ?_) ?_
        · have kc : ∀ c, a.eval (.const c) = c := fun _ => rfl
          have kf : ∀ f, a.eval (.func f) = .func (.func f) #[] #[] := fun _ => rfl
          have C_k0 := (HB_k0 u hE).2.1
          have t58 : a.eval (.tmp 58) = .pointer (some ⟨k0, 10, none⟩) := (hkn 17 (by kernel_rfl) : a.eval (.tmp 58) = cs 17).trans e17
          exact loose_val rfl (v := .int .i64 k.ti) (by generalize a.eval = ev at *; simp [go_sem, kc, kf, t58, C_k0]) ⟨Below.refl _ _, e18.symm, trivial⟩
        refine looseAll_cons (k := 20) rfl (fun a u L hE hev hkn _ _ => ?_) ?_
        · have kc : ∀ c, a.eval (.const c) = c := fun _ => rfl
          have kf : ∀ f, a.eval (.func f) = .func (.func f) #[] #[] := fun _ => rfl
          have t3 : a.eval (.tmp 3) = .pointer (some ⟨k0, 0, none⟩) := hev 3 (by kernel_rfl)
          exact loose_val rfl (v := .pointer (some ⟨k0, 9, none⟩)) (by generalize a.eval = ev at *; simp [go_sem, kc, kf, t3]) ⟨Below.refl _ _, e19.symm, trivial⟩
        refine looseAll_cons (k := 21) rfl (fun a u L hE hev hkn _ _ => ?_) ?_
        · have kc : ∀ c, a.eval (.const c) = c := fun _ => rfl
          have kf : ∀ f, a.eval (.func f) = .func (.func f) #[] #[] := fun _ => rfl
          have t60 : a.eval (.tmp 60) = .pointer (some ⟨k0, 9, none⟩) := (hkn 19 (by kernel_rfl) : a.eval (.tmp 60) = cs 19).trans e19
          exact loose_val rfl (v := .pointer (some ⟨k0, 11, none⟩)) (by generalize a.eval = ev at *; simp [go_sem, kc, kf, t60]) ⟨Below.refl _ _, e20.symm, trivial⟩
        refine looseAll_cons (k := 22) rfl (fun a u L hE hev hkn _ _ => ?_) ?_
        · have kc : ∀ c, a.eval (.const c) = c := fun _ => rfl
          have kf : ∀ f, a.eval (.func f) = .func (.func f) #[] #[] := fun _ => rfl
          have C_k0 := (HB_k0 u hE).2.1
          have t61 : a.eval (.tmp 61) = .pointer (some ⟨k0, 11, none⟩) := (hkn 20 (by kernel_rfl) : a.eval (.tmp 61) = cs 20).trans e20
          exact loose_val rfl (v := .int .i64 k.ba) (by generalize a.eval = ev at *; simp [go_sem, kc, kf, t61, C_k0]) ⟨Below.refl _ _, e21.symm, trivial⟩
        refine looseAll_cons (k := 23) rfl (fun a u L hE hev hkn _ _ => ?_) ?_
        · have kc : ∀ c, a.eval (.const c) = c := fun _ => rfl
          have kf : ∀ f, a.eval (.func f) = .func (.func f) #[] #[] := fun _ => rfl
          have t56 : a.eval (.tmp 56) = .agg #[.int .i64 p0, .int .i64 p1] := (hkn 15 (by kernel_rfl) : a.eval (.tmp 56) = cs 15).trans e15
          have t59 : a.eval (.tmp 59) = .int .i64 k.ti := (hkn 18 (by kernel_rfl) : a.eval (.tmp 59) = cs 18).trans e18
          have t62 : a.eval (.tmp 62) = .int .i64 k.ba := (hkn 21 (by kernel_rfl) : a.eval (.tmp 62) = cs 21).trans e21
          exact loose_call rfl (by generalize a.eval = ev at *; simp [go_sem, kc, kf, t56, t59, t62]) ((HP.out u).mono fun e w' h => ⟨.agg #[.int .i64 P0, .int .i64 P1], h.1, h.2, e22.symm, trivial⟩)
        refine looseAll_cons (k := 24) rfl (fun a u L hE hev hkn _ _ => ?_) ?_
        · have kc : ∀ c, a.eval (.const c) = c := fun _ => rfl
          have kf : ∀ f, a.eval (.func f) = .func (.func f) #[] #[] := fun _ => rfl
          have t2 : a.eval (.tmp 2) = .pointer (some ⟨g0, 0, none⟩) := hev 2 (by kernel_rfl)
          exact loose_val rfl (v := .pointer (some ⟨g0, 6, none⟩)) (by generalize a.eval = ev at *; simp [go_sem, kc, kf, t2]) ⟨Below.refl _ _, e23.symm, trivial⟩
        refine looseAll_cons (k := 25) rfl (fun a u L hE hev hkn _ _ => ?_) ?_
        · have kc : ∀ c, a.eval (.const c) = c := fun _ => rfl
          have kf : ∀ f, a.eval (.func f) = .func (.func f) #[] #[] := fun _ => rfl
          have C_g0 := (HB_g0 u hE).2.1
          have t64 : a.eval (.tmp 64) = .pointer (some ⟨g0, 6, none⟩) := (hkn 23 (by kernel_rfl) : a.eval (.tmp 64) = cs 23).trans e23
          exact loose_val rfl (v := .slice A n c) (by generalize a.eval = ev at *; simp [go_sem, kc, kf, t64, C_g0]) ⟨Below.refl _ _, e24.symm, trivial⟩
        refine looseAll_cons (k := 26) rfl (fun a u L hE hev hkn _ _ => ?_) ?_
        · have kc : ∀ c, a.eval (.const c) = c := fun _ => rfl
          have kf : ∀ f, a.eval (.func f) = .func (.func f) #[] #[] := fun _ => rfl
          have t3 : a.eval (.tmp 3) = .pointer (some ⟨k0, 0, none⟩) := hev 3 (by kernel_rfl)
          exact loose_val rfl (v := .pointer (some ⟨k0, 0, none⟩)) (by generalize a.eval = ev at *; simp [go_sem, kc, kf, t3]) ⟨Below.refl _ _, e25.symm, trivial⟩
        refine looseAll_cons (k := 27) rfl (fun a u L hE hev hkn _ _ => ?_) ?_
        · have kc : ∀ c, a.eval (.const c) = c := fun _ => rfl
          have kf : ∀ f, a.eval (.func f) = .func (.func f) #[] #[] := fun _ => rfl
          have C_k0 := (HB_k0 u hE).2.1
          have t66 : a.eval (.tmp 66) = .pointer (some ⟨k0, 0, none⟩) := (hkn 25 (by kernel_rfl) : a.eval (.tmp 66) = cs 25).trans e25
          exact loose_val rfl (v := .int .i64 k.t) (by generalize a.eval = ev at *; simp [go_sem, kc, kf, t66, C_k0]) ⟨Below.refl _ _, e26.symm, trivial⟩
        refine looseAll_cons (k := 28) rfl (fun a u L hE hev hkn _ _ => ?_) ?_
        · have kc : ∀ c, a.eval (.const c) = c := fun _ => rfl
          have kf : ∀ f, a.eval (.func f) = .func (.func f) #[] #[] := fun _ => rfl
          have t3 : a.eval (.tmp 3) = .pointer (some ⟨k0, 0, none⟩) := hev 3 (by kernel_rfl)
          exact loose_val rfl (v := .pointer (some ⟨k0, 5, none⟩)) (by generalize a.eval = ev at *; simp [go_sem, kc, kf, t3]) ⟨Below.refl _ _, e27.symm, trivial⟩
        refine looseAll_cons (k := 29) rfl (fun a u L hE hev hkn _ _ => ?_) ?_
        · have kc : ∀ c, a.eval (.const c) = c := fun _ => rfl
          have kf : ∀ f, a.eval (.func f) = .func (.func f) #[] #[] := fun _ => rfl
          have t68 : a.eval (.tmp 68) = .pointer (some ⟨k0, 5, none⟩) := (hkn 27 (by kernel_rfl) : a.eval (.tmp 68) = cs 27).trans e27
          exact loose_val rfl (v := .pointer (some ⟨k0, 5, none⟩)) (by generalize a.eval = ev at *; simp [go_sem, kc, kf, t68]) ⟨Below.refl _ _, e28.symm, trivial⟩
        refine looseAll_cons (k := 30) rfl (fun a u L hE hev hkn _ _ => ?_) ?_
        · have kc : ∀ c, a.eval (.const c) = c := fun _ => rfl
          have kf : ∀ f, a.eval (.func f) = .func (.func f) #[] #[] := fun _ => rfl
          have C_k0 := (HB_k0 u hE).2.1
          have t69 : a.eval (.tmp 69) = .pointer (some ⟨k0, 5, none⟩) := (hkn 28 (by kernel_rfl) : a.eval (.tmp 69) = cs 28).trans e28
          exact loose_val rfl (v := .bool k.dr) (by generalize a.eval = ev at *; simp [go_sem, kc, kf, t69, C_k0]) ⟨Below.refl _ _, e29.symm, trivial⟩
        refine looseAll_cons (k := 31) rfl (fun a u L hE hev hkn _ _ => ?_) ?_
        · have kc : ∀ c, a.eval (.const c) = c := fun _ => rfl
          have kf : ∀ f, a.eval (.func f) = .func (.func f) #[] #[] := fun _ => rfl
          have t6 : a.eval (.tmp 6) = .int .i64 li := hev 6 (by kernel_rfl)
          exact loose_val rfl (v := .int .i64 li) (by generalize a.eval = ev at *; simp [go_sem, kc, kf, t6]) ⟨Below.refl _ _, e30.symm, trivial⟩
        refine looseAll_cons (k := 32) rfl (fun a u L hE hev hkn _ _ => ?_) ?_
        · have kc : ∀ c, a.eval (.const c) = c := fun _ => rfl
          have kf : ∀ f, a.eval (.func f) = .func (.func f) #[] #[] := fun _ => rfl
          have t65 : a.eval (.tmp 65) = .slice A n c := (hkn 24 (by kernel_rfl) : a.eval (.tmp 65) = cs 24).trans e24
          have t67 : a.eval (.tmp 67) = .int .i64 k.t := (hkn 26 (by kernel_rfl) : a.eval (.tmp 67) = cs 26).trans e26
          have t70 : a.eval (.tmp 70) = .bool k.dr := (hkn 29 (by kernel_rfl) : a.eval (.tmp 70) = cs 29).trans e29
          have t71 : a.eval (.tmp 71) = .int .i64 li := (hkn 30 (by kernel_rfl) : a.eval (.tmp 71) = cs 30).trans e30
          exact loose_call rfl (by generalize a.eval = ev at *; simp [go_sem, kc, kf, t65, t67, t70, t71]) ((HN.out u (HW u hE)).mono fun e u' h => by obtain ⟨v, he, ho, hb⟩ := h; exact ⟨v, he, hb, (by have ho := own_base ho hE.size; rw [HM.out] at ho; exact ho), trivial⟩)
        refine looseAll_cons (k := 33) rfl (fun a u L hE hev hkn _ _ => ?_) ?_
        · have kc : ∀ c, a.eval (.const c) = c := fun _ => rfl
          have kf : ∀ f, a.eval (.func f) = .func (.func f) #[] #[] := fun _ => rfl
          have t2 : a.eval (.tmp 2) = .pointer (some ⟨g0, 0, none⟩) := hev 2 (by kernel_rfl)
          exact loose_val rfl (v := .pointer (some ⟨g0, 7, none⟩)) (by generalize a.eval = ev at *; simp [go_sem, kc, kf, t2]) ⟨Below.refl _ _, e32.symm, trivial⟩
        refine looseAll_cons (k := 34) rfl (fun a u L hE hev hkn _ _ => ?_) ?_
        · have kc : ∀ c, a.eval (.const c) = c := fun _ => rfl
          have kf : ∀ f, a.eval (.func f) = .func (.func f) #[] #[] := fun _ => rfl
          have C_g0 := (HB_g0 u hE).2.1
          have t73 : a.eval (.tmp 73) = .pointer (some ⟨g0, 7, none⟩) := (hkn 32 (by kernel_rfl) : a.eval (.tmp 73) = cs 32).trans e32
          exact loose_val rfl (v := .int .i64 la) (by generalize a.eval = ev at *; simp [go_sem, kc, kf, t73, C_g0]) ⟨Below.refl _ _, e33.symm, trivial⟩
        refine looseAll_cons (k := 35) rfl (fun a u L hE hev hkn _ _ => ?_) ?_
        · have kc : ∀ c, a.eval (.const c) = c := fun _ => rfl
          have kf : ∀ f, a.eval (.func f) = .func (.func f) #[] #[] := fun _ => rfl
          have t74 : a.eval (.tmp 74) = .int .i64 la := (hkn 33 (by kernel_rfl) : a.eval (.tmp 74) = cs 33).trans e33
          exact loose_val rfl (v := .int .i64 LX) (by generalize a.eval = ev at *; simp [go_sem, kc, kf, t74, hLX]) ⟨Below.refl _ _, e34.symm, trivial⟩
        refine looseAll_cons (k := 36) rfl (fun a u L hE hev hkn _ _ => ?_) ?_
        · have kc : ∀ c, a.eval (.const c) = c := fun _ => rfl
          have kf : ∀ f, a.eval (.func f) = .func (.func f) #[] #[] := fun _ => rfl
          have t44 : a.eval (.tmp 44) = .agg #[.int .i64 D0, .int .i64 D1] := (hkn 3 (by kernel_rfl) : a.eval (.tmp 44) = cs 3).trans e3
          have t54 : a.eval (.tmp 54) = .agg #[.int .i64 L0, .int .i64 L1] := (hkn 13 (by kernel_rfl) : a.eval (.tmp 54) = cs 13).trans e13
          have t63 : a.eval (.tmp 63) = .agg #[.int .i64 P0, .int .i64 P1] := (hkn 22 (by kernel_rfl) : a.eval (.tmp 63) = cs 22).trans e22
          obtain ⟨v72, t72, ho⟩ : ∃ v, a.eval (.tmp 72) = v ∧ u.ownsRow w2.heap.size 3 1 v m (ys.map (Value.int .i64)) := ⟨_, rfl, hkn 31 (by kernel_rfl)⟩
          obtain ⟨B, d, rfl, hd, hi, hm9, hbase, hne⟩ := own_ints ho HM.out
          have t75 : a.eval (.tmp 75) = .int .i64 LX := (hkn 34 (by kernel_rfl) : a.eval (.tmp 75) = cs 34).trans e34
          exact loose_val rfl (v := .agg #[.int .i64 D0, .int .i64 D1, .int .i64 L0, .int .i64 L1, .int .i64 P0, .int .i64 P1, .slice B m d, .int .i64 LX]) (by generalize a.eval = ev at *; simp [go_sem, kc, kf, t44, t54, t63, t72, t75]) ⟨Below.refl _ _, ⟨_, rfl, ho⟩, trivial⟩
        refine looseAll_cons (k := 37) rfl (fun a u L hE hev hkn _ _ => ?_) ?_
        · have kc : ∀ c, a.eval (.const c) = c := fun _ => rfl
          have kf : ∀ f, a.eval (.func f) = .func (.func f) #[] #[] := fun _ => rfl
          have hr := (HB_r0 u hE).1
          exact loose_val rfl (v := .pointer (some ⟨u.heap.size, 0, none⟩)) (w' := u.alloc (.cells #[.int .i64 0, .int .i64 0, .int .i64 0, .int .i64 0, .int .i64 0, .int .i64 0, .slice none 0 0, .int .i64 0] 30)) (by generalize a.eval = ev at *; simp [go_sem, kc, kf]) ⟨below_alloc_on (Below.refl _ _) _, ⟨u.heap.size, rfl, hr, box_new _ _ _, heap_alloc_new _ _⟩, trivial⟩
        exact looseAll_nil
      · intro a w3 hE hsz hdf hO hDD _
        obtain ⟨v72, f72, hoA⟩ : ∃ v, a.tmps.getD 72 undef = v ∧ w3.ownsRow w2.heap.size 3 1 v m (ys.map (Value.int .i64)) := ⟨_, rfl, hDD 31 (by omega)⟩
        obtain ⟨x, f76, hoB⟩ : ∃ x, a.tmps.getD 76 undef = .agg #[.int .i64 D0, .int .i64 D1, .int .i64 L0, .int .i64 L1, .int .i64 P0, .int .i64 P1, x, .int .i64 LX] ∧ w3.ownsRow w2.heap.size 3 1 x m (ys.map (Value.int .i64)) := hDD 35 (by omega)
        obtain ⟨q, f11, hq, BQ, hQ⟩ : ∃ q, a.tmps.getD 11 undef = .pointer (some ⟨q, 0, none⟩) ∧ r0 < q ∧ Box w3 q #[.int .i64 0, .int .i64 0, .int .i64 0, .int .i64 0, .int .i64 0, .int .i64 0, .slice none 0 0, .int .i64 0] ∧ w3.heap[q]? = some (.cells #[.int .i64 0, .int .i64 0, .int .i64 0, .int .i64 0, .int .i64 0, .int .i64 0, .slice none 0 0, .int .i64 0] 30 (0, 0)) := hDD 36 (by omega)
        obtain ⟨B, d, rfl, hd, hi, hm9, hbase, hne⟩ := own_ints hoB HM.out
        have hne := hne q _ _ hQ (by decide)
        have HNE := Lib.hid (show ∀ b o, B = some ⟨b, o, none⟩ → b ≠ q ∧ b ≠ r0 from fun b o hb => ⟨hne b o hb, by have := hbase b o hb; have := X2.lt; omega⟩)
        clear hbase
        have hOO : ∀ s, isDst _ s = false → a.tmps.getD s undef = (List.toArray (.agg #[.int .i64 d0, .int .i64 d1, .int .i64 l0, .int .i64 l1, .int .i64 p0, .int .i64 p1, .slice A n c, .int .i64 la] :: .agg #[.int .i64 k.t, .int .i64 k.m, .int .i64 k.r, .int .i64 k.v, .int .i64 k.s, .bool k.dr, .bool k.sh, .bool k.st, .bool k.fa, .int .i64 k.ad, .int .i64 k.ti, .int .i64 k.ba, .int .i64 k.en, .bool k.od, .int .i64 k.ke, .bool k.wr, .int .i64 k.bd, .int .i64 k.ra, .bool k.kn, .int .i64 k.ou, .bool k.sl, .bool k.ov, .bool k.ak] :: .pointer (some ⟨g0, 0, none⟩) :: .pointer (some ⟨k0, 0, none⟩) :: .pointer (some ⟨r0, 0, none⟩) :: .int .i64 0 :: .int .i64 li :: .bool ho :: .int .i64 M2 :: .bool M3 :: .bool sv :: undef :: undef :: u13 :: u14 :: u15 :: u16 :: u17 :: u18 :: u19 :: u20 :: u21 :: u22 :: u23 :: u24 :: u25 :: u26 :: u27 :: u28 :: u29 :: u30 :: u31 :: u32 :: u33 :: u34 :: u35 :: u36 :: u37 :: u38 :: u39 :: u40 :: u41 :: u42 :: u43 :: u44 :: u45 :: u46 :: u47 :: u48 :: u49 :: u50 :: u51 :: u52 :: u53 :: u54 :: u55 :: u56 :: u57 :: u58 :: u59 :: u60 :: u61 :: u62 :: u63 :: u64 :: u65 :: u66 :: u67 :: u68 :: u69 :: u70 :: u71 :: u72 :: u73 :: u74 :: u75 :: u76 :: u77 :: u78 :: u79 :: u80 :: u81 :: u82 :: u83 :: u84 :: u85 :: u86 :: u87 :: u88 :: u89 :: u90 :: u91 :: u92 :: u93 :: u94 :: u95 :: u96 :: u97 :: []) : Array Value).getD s undef := fun s h => by rw [Array.getD_eq_getD_getElem?, Array.getD_eq_getD_getElem?, hO s h]
        obtain rfl := act_lit (ys := (List.toArray (.agg #[.int .i64 d0, .int .i64 d1, .int .i64 l0, .int .i64 l1, .int .i64 p0, .int .i64 p1, .slice A n c, .int .i64 la] :: .agg #[.int .i64 k.t, .int .i64 k.m, .int .i64 k.r, .int .i64 k.v, .int .i64 k.s, .bool k.dr, .bool k.sh, .bool k.st, .bool k.fa, .int .i64 k.ad, .int .i64 k.ti, .int .i64 k.ba, .int .i64 k.en, .bool k.od, .int .i64 k.ke, .bool k.wr, .int .i64 k.bd, .int .i64 k.ra, .bool k.kn, .int .i64 k.ou, .bool k.sl, .bool k.ov, .bool k.ak] :: .pointer (some ⟨g0, 0, none⟩) :: .pointer (some ⟨k0, 0, none⟩) :: .pointer (some ⟨r0, 0, none⟩) :: .int .i64 0 :: .int .i64 li :: .bool ho :: .int .i64 M2 :: .bool M3 :: .bool sv :: .pointer (some ⟨q, 0, none⟩) :: undef :: u13 :: u14 :: u15 :: u16 :: u17 :: u18 :: u19 :: u20 :: u21 :: u22 :: u23 :: u24 :: u25 :: u26 :: u27 :: u28 :: u29 :: u30 :: u31 :: u32 :: u33 :: u34 :: u35 :: u36 :: u37 :: u38 :: u39 :: u40 :: .pointer (some ⟨g0, 0, none⟩) :: .agg #[.int .i64 d0, .int .i64 d1] :: .agg #[.int .i64 k.t, .int .i64 k.m, .int .i64 k.r, .int .i64 k.v, .int .i64 k.s, .bool k.dr, .bool k.sh, .bool k.st, .bool k.fa, .int .i64 k.ad, .int .i64 k.ti, .int .i64 k.ba, .int .i64 k.en, .bool k.od, .int .i64 k.ke, .bool k.wr, .int .i64 k.bd, .int .i64 k.ra, .bool k.kn, .int .i64 k.ou, .bool k.sl, .bool k.ov, .bool k.ak] :: .agg #[.int .i64 D0, .int .i64 D1] :: .pointer (some ⟨g0, 2, none⟩) :: .agg #[.int .i64 l0, .int .i64 l1] :: .pointer (some ⟨k0, 1, none⟩) :: .int .i64 k.m :: .bool im :: .pointer (some ⟨k0, 5, none⟩) :: .pointer (some ⟨k0, 5, none⟩) :: .bool k.dr :: .bool sv :: .agg #[.int .i64 L0, .int .i64 L1] :: .pointer (some ⟨g0, 4, none⟩) :: .agg #[.int .i64 p0, .int .i64 p1] :: .pointer (some ⟨k0, 9, none⟩) :: .pointer (some ⟨k0, 10, none⟩) :: .int .i64 k.ti :: .pointer (some ⟨k0, 9, none⟩) :: .pointer (some ⟨k0, 11, none⟩) :: .int .i64 k.ba :: .agg #[.int .i64 P0, .int .i64 P1] :: .pointer (some ⟨g0, 6, none⟩) :: .slice A n c :: .pointer (some ⟨k0, 0, none⟩) :: .int .i64 k.t :: .pointer (some ⟨k0, 5, none⟩) :: .pointer (some ⟨k0, 5, none⟩) :: .bool k.dr :: .int .i64 li :: v72 :: .pointer (some ⟨g0, 7, none⟩) :: .int .i64 la :: .int .i64 LX :: .agg #[.int .i64 D0, .int .i64 D1, .int .i64 L0, .int .i64 L1, .int .i64 P0, .int .i64 P1, .slice B m d, .int .i64 LX] :: u77 :: u78 :: u79 :: u80 :: u81 :: u82 :: u83 :: u84 :: u85 :: u86 :: u87 :: u88 :: u89 :: u90 :: u91 :: u92 :: u93 :: u94 :: u95 :: u96 :: u97 :: []))) hdf hsz (fun s hs => match s, hs with
          | 0, _ => hOO 0 (by kernel_rfl)
          | 1, _ => hOO 1 (by kernel_rfl)
          | 2, _ => hOO 2 (by kernel_rfl)
          | 3, _ => hOO 3 (by kernel_rfl)
          | 4, _ => hOO 4 (by kernel_rfl)
          | 5, _ => hOO 5 (by kernel_rfl)
          | 6, _ => hOO 6 (by kernel_rfl)
          | 7, _ => hOO 7 (by kernel_rfl)
          | 8, _ => hOO 8 (by kernel_rfl)
          | 9, _ => hOO 9 (by kernel_rfl)
          | 10, _ => hOO 10 (by kernel_rfl)
          | 11, _ => f11
          | 12, _ => hOO 12 (by kernel_rfl)
          | 13, _ => hOO 13 (by kernel_rfl)
          | 14, _ => hOO 14 (by kernel_rfl)
          | 15, _ => hOO 15 (by kernel_rfl)
          | 16, _ => hOO 16 (by kernel_rfl)
          | 17, _ => hOO 17 (by kernel_rfl)
          | 18, _ => hOO 18 (by kernel_rfl)
          | 19, _ => hOO 19 (by kernel_rfl)
          | 20, _ => hOO 20 (by kernel_rfl)
          | 21, _ => hOO 21 (by kernel_rfl)
          | 22, _ => hOO 22 (by kernel_rfl)
          | 23, _ => hOO 23 (by kernel_rfl)
          | 24, _ => hOO 24 (by kernel_rfl)
          | 25, _ => hOO 25 (by kernel_rfl)
          | 26, _ => hOO 26 (by kernel_rfl)
          | 27, _ => hOO 27 (by kernel_rfl)
          | 28, _ => hOO 28 (by kernel_rfl)
          | 29, _ => hOO 29 (by kernel_rfl)
          | 30, _ => hOO 30 (by kernel_rfl)
          | 31, _ => hOO 31 (by kernel_rfl)
          | 32, _ => hOO 32 (by kernel_rfl)
          | 33, _ => hOO 33 (by kernel_rfl)
          | 34, _ => hOO 34 (by kernel_rfl)
          | 35, _ => hOO 35 (by kernel_rfl)
          | 36, _ => hOO 36 (by kernel_rfl)
          | 37, _ => hOO 37 (by kernel_rfl)
          | 38, _ => hOO 38 (by kernel_rfl)
          | 39, _ => hOO 39 (by kernel_rfl)
          | 40, _ => hOO 40 (by kernel_rfl)
          | 41, _ => (hDD 0 (by omega)).trans e0
          | 42, _ => (hDD 1 (by omega)).trans e1
          | 43, _ => (hDD 2 (by omega)).trans e2
          | 44, _ => (hDD 3 (by omega)).trans e3
          | 45, _ => (hDD 4 (by omega)).trans e4
          | 46, _ => (hDD 5 (by omega)).trans e5
          | 47, _ => (hDD 6 (by omega)).trans e6
          | 48, _ => (hDD 7 (by omega)).trans e7
          | 49, _ => (hDD 8 (by omega)).trans e8
          | 50, _ => (hDD 9 (by omega)).trans e9
          | 51, _ => (hDD 10 (by omega)).trans e10
          | 52, _ => (hDD 11 (by omega)).trans e11
          | 53, _ => (hDD 12 (by omega)).trans e12
          | 54, _ => (hDD 13 (by omega)).trans e13
          | 55, _ => (hDD 14 (by omega)).trans e14
          | 56, _ => (hDD 15 (by omega)).trans e15
          | 57, _ => (hDD 16 (by omega)).trans e16
          | 58, _ => (hDD 17 (by omega)).trans e17
          | 59, _ => (hDD 18 (by omega)).trans e18
          | 60, _ => (hDD 19 (by omega)).trans e19
          | 61, _ => (hDD 20 (by omega)).trans e20
          | 62, _ => (hDD 21 (by omega)).trans e21
          | 63, _ => (hDD 22 (by omega)).trans e22
          | 64, _ => (hDD 23 (by omega)).trans e23
          | 65, _ => (hDD 24 (by omega)).trans e24
          | 66, _ => (hDD 25 (by omega)).trans e25
          | 67, _ => (hDD 26 (by omega)).trans e26
          | 68, _ => (hDD 27 (by omega)).trans e27
          | 69, _ => (hDD 28 (by omega)).trans e28
          | 70, _ => (hDD 29 (by omega)).trans e29
          | 71, _ => (hDD 30 (by omega)).trans e30
          | 72, _ => f72
          | 73, _ => (hDD 32 (by omega)).trans e32
          | 74, _ => (hDD 33 (by omega)).trans e33
          | 75, _ => (hDD 34 (by omega)).trans e34
          | 76, _ => f76
          | 77, _ => hOO 77 (by kernel_rfl)
          | 78, _ => hOO 78 (by kernel_rfl)
          | 79, _ => hOO 79 (by kernel_rfl)
          | 80, _ => hOO 80 (by kernel_rfl)
          | 81, _ => hOO 81 (by kernel_rfl)
          | 82, _ => hOO 82 (by kernel_rfl)
          | 83, _ => hOO 83 (by kernel_rfl)
          | 84, _ => hOO 84 (by kernel_rfl)
          | 85, _ => hOO 85 (by kernel_rfl)
          | 86, _ => hOO 86 (by kernel_rfl)
          | 87, _ => hOO 87 (by kernel_rfl)
          | 88, _ => hOO 88 (by kernel_rfl)
          | 89, _ => hOO 89 (by kernel_rfl)
          | 90, _ => hOO 90 (by kernel_rfl)
          | 91, _ => hOO 91 (by kernel_rfl)
          | 92, _ => hOO 92 (by kernel_rfl)
          | 93, _ => hOO 93 (by kernel_rfl)
          | 94, _ => hOO 94 (by kernel_rfl)
          | 95, _ => hOO 95 (by kernel_rfl)
          | 96, _ => hOO 96 (by kernel_rfl)
          | 97, _ => hOO 97 (by kernel_rfl)
          | (k + 98), h => absurd h (by simp))
        have Y0 : Bx w g0 #[.int .i64 d0, .int .i64 d1, .int .i64 l0, .int .i64 l1, .int .i64 p0, .int .i64 p1, .slice A n c, .int .i64 la] w3 := ⟨HB_g0 _ hE, HW _ hE, o0⟩
        have Y1 : Bx w k0 #[.int .i64 k.t, .int .i64 k.m, .int .i64 k.r, .int .i64 k.v, .int .i64 k.s, .bool k.dr, .bool k.sh, .bool k.st, .bool k.fa, .int .i64 k.ad, .int .i64 k.ti, .int .i64 k.ba, .int .i64 k.en, .bool k.od, .int .i64 k.ke, .bool k.wr, .int .i64 k.bd, .int .i64 k.ra, .bool k.kn, .int .i64 k.ou, .bool k.sl, .bool k.ov, .bool k.ak] w3 := ⟨HB_k0 _ hE, HW _ hE, o1⟩
        have Y2 : Bx w r0 #[.int .i64 0, .int .i64 0, .int .i64 0, .int .i64 0, .int .i64 0, .int .i64 0, .slice none 0 0, .int .i64 0] w3 := ⟨HB_r0 _ hE, HW _ hE, o2⟩
        have hi8 := Lib.hid (ints_set (ints_set (ints_set (ints_set (ints_set (ints_set (ints_set (ints_set hi hne 0 (.int .i64 D0)) hne 1 (.int .i64 D1)) hne 2 (.int .i64 L0)) hne 3 (.int .i64 L1)) hne 4 (.int .i64 P0)) hne 5 (.int .i64 P1)) hne 6 (.slice B m d)) hne 7 (.int .i64 LX))
        have B8 := Lib.hid (Box.eight_set BQ (.int .i64 D0) (.int .i64 D1) (.int .i64 L0) (.int .i64 L1) (.int .i64 P0) (.int .i64 P1) (.slice B m d) (.int .i64 LX))
        have A3 := Lib.hid (HW _ hE)
        have qg : ¬ q = g0 := by omega
        have qk : ¬ q = k0 := by omega
        have qr : ¬ q = r0 := by omega
        have qw : w.heap.size ≤ q := by omega
        have lq := BQ.1
        have cq := BQ.2.1
        have fq := BQ.2.2
        clear BQ hQ hne hi hDD hOO hO hE f72 f76 f11 hoA hoB e0 e1 e2 e3 e4 e5 e6 e7 e8 e9 e10 e11 e12 e13 e14 e15 e16 e17 e18 e19 e20 e21 e22 e23 e24 e25 e26 e27 e28 e29 e30 e32 e33 e34
        go_wp2
        go_meet
        exact ⟨q, B, d, rfl, hd, hm9, HNE.out, hi8.out, by (repeat (first | (with_reducible assumption) | (with_reducible refine Bx.drew ?_) | (with_reducible refine Bx.alloc ?_ _) | (with_reducible refine Bx.far2 ?_ (by first | (simp; done) | (simp; omega) | omega) (by first | (simp; done) | (simp; omega) | omega) _))), by (repeat (first | (with_reducible assumption) | (with_reducible refine Bx.drew ?_) | (with_reducible refine Bx.alloc ?_ _) | (with_reducible refine Bx.far2 ?_ (by first | (simp; done) | (simp; omega) | omega) (by first | (simp; done) | (simp; omega) | omega) _))), by (repeat (first | (with_reducible assumption) | (with_reducible refine Bx.drew ?_) | (with_reducible refine Bx.alloc ?_ _) | (with_reducible refine Bx.far2 ?_ (by first | (simp; done) | (simp; omega) | omega) (by first | (simp; done) | (simp; omega) | omega) _))), hq, ⟨B8.out, by (have A4 := A3.out); (repeat (first | (with_reducible exact Below.refl _ _) | (with_reducible assumption) | (with_reducible refine Near.up _ ?_) | (with_reducible refine Below.drew ?_) | (with_reducible refine below_alloc_on ?_ _) | (with_reducible refine below_set_on ?_ (by first | (simp; done) | (simp; omega) | omega) _))), qw⟩⟩
    case rest =>
      obtain ⟨q, B, d, rfl, hd, hm9, hne, hi, X0, X1, X2, hq, X3⟩ := hcut
      have HNE := Lib.hid hne
      have qk : ¬ q = k0 := by omega
      have qr : ¬ q = r0 := by omega
      have rq : ¬ r0 = q := by omega
      have qw : w.heap.size ≤ q := by omega
      clear HD HL HP HN HSV hne X0
      go_upto_region 5 with (fail)
      refine wp_region_lit ?_
      refine wpList_load_box rfl _ _ rfl q rfl #[.int .i64 D0, .int .i64 D1, .int .i64 L0, .int .i64 L1, .int .i64 P0, .int .i64 P1, .slice B m d, .int .i64 LX] _ X3.box Tryz.underlying30 rfl (by kernel_rfl) ?_
      simp only [Act.put, List.setIfInBounds_toArray, List.set_cons_zero, List.set_cons_succ]
      refine wpList_load_box rfl _ _ rfl k0 rfl #[.int .i64 k.t, .int .i64 k.m, .int .i64 k.r, .int .i64 k.v, .int .i64 k.s, .bool k.dr, .bool k.sh, .bool k.st, .bool k.fa, .int .i64 k.ad, .int .i64 k.ti, .int .i64 k.ba, .int .i64 k.en, .bool k.od, .int .i64 k.ke, .bool k.wr, .int .i64 k.bd, .int .i64 k.ra, .bool k.kn, .int .i64 k.ou, .bool k.sl, .bool k.ov, .bool k.ak] _ X1.box Tryz.underlying38 rfl (by kernel_rfl) ?_
      simp only [Act.put, List.setIfInBounds_toArray, List.set_cons_zero, List.set_cons_succ]
      go_wp2_with (fail)
      refine (HH.out B d _ hi).mono ?_
      rintro e w4 ⟨rfl, hb⟩
      have hi4 := Lib.hid (hi.below hb)
      have Y1 := X1.call hb
      have Y2 := Lib.hid (X2.call hb)
      have Y3 := X3.call hb
      clear hb hi X1 X2 X3 HH
      generalize k.ak = ak at *
      obtain ⟨L2, hL2⟩ : ∃ L2, (if ak = true then acV LX HE else LX) = L2 := ⟨_, rfl⟩
      have hLR := HLR.out
      rw [hL2] at hLR
      have HRA2 := Lib.hid (fun w => HRA.out L2 (bits .and .i64 HE AR) w)
      rw [hLR] at HRA2
      have HL2 := Lib.hid hL2
      clear hLR HLR hL2 HRA
      have cq := Y3.box.2.1
      have lq := Y3.box.1
      have fq := Y3.box.2.2
      have ck := Y1.box.2.1
      have lk := Y1.box.1
      have HY1 := Lib.hid Y1
      have HY3 := Lib.hid Y3
      clear Y1 Y3
      go_upto_if 81 with (fail)
      go_cut [] (fun wx => Ints wx B m ys ∧ Bx w k0 #[.int .i64 k.t, .int .i64 k.m, .int .i64 k.r, .int .i64 k.v, .int .i64 k.s, .bool k.dr, .bool k.sh, .bool k.st, .bool k.fa, .int .i64 k.ad, .int .i64 k.ti, .int .i64 k.ba, .int .i64 k.en, .bool k.od, .int .i64 k.ke, .bool k.wr, .int .i64 k.bd, .int .i64 k.ra, .bool k.kn, .int .i64 k.ou, .bool k.sl, .bool k.ov, .bool ak] wx ∧ Bx w r0 #[.int .i64 0, .int .i64 0, .int .i64 0, .int .i64 0, .int .i64 0, .int .i64 0, .slice none 0 0, .int .i64 0] wx ∧ Bx w q #[.int .i64 D0, .int .i64 D1, .int .i64 L0, .int .i64 L1, .int .i64 P0, .int .i64 P1, .slice B m d, .int .i64 L2] wx)
      case first =>
        have hL2 := HL2.out
        clear HL2
        cases ak
        · rw [if_neg (by simp)] at hL2
          subst hL2
          clear cq lq fq ck lk
          go_wp2
          go_meet
          exact ⟨hi4.out, HY1.out, Y2.out, HY3.out⟩
        · rw [if_pos rfl] at hL2
          have ha := HAK.out
          rw [hL2] at ha
          go_wp2_with (fail)
          refine (ha _).mono ?_
          rintro e w' ⟨rfl, rfl⟩
          have hiq := Lib.hid (ints_set hi4.out (fun b o e => (HNE.out b o e).1) 7 (.int .i64 L2))
          have B1 := Lib.hid (HY1.out.box.far (p := ⟨q, 7, none⟩) (by simpa using qk) (.int .i64 L2))
          have B2 := Lib.hid (Y2.out.box.far (p := ⟨q, 7, none⟩) (by simpa using qr) (.int .i64 L2))
          have B3 := Lib.hid (box_cast (cs' := #[.int .i64 D0, .int .i64 D1, .int .i64 L0, .int .i64 L1, .int .i64 P0, .int .i64 P1, .slice B m d, .int .i64 L2]) (HY3.out.box.set (i := 7) (by simp) (.int .i64 L2)) rfl)
          have A7 := Lib.hid (below_set_on HY3.out.bel (p := ⟨q, 7, none⟩) (by simp; omega) (.int .i64 L2))
          go_wp2
          go_meet
          exact ⟨hiq.out, ⟨B1.out, A7.out, o1⟩, ⟨B2.out, A7.out, o2⟩, ⟨B3.out, A7.out, qw⟩⟩
      case rest =>
        clear cq lq fq ck lk HY1 HY3 Y2 hi4 HAK HL2
        obtain ⟨hi6, X1, X2, X3⟩ := hcut
        have cq := X3.box.2.1
        have lq := X3.box.1
        have fq := X3.box.2.2
        have ck := X1.box.2.1
        have lk := X1.box.1
        go_upto_region 8 with (fail)
        refine wp_region_calm_tail 9 (by kernel_rfl) (by kernel_rfl) ?_
        simp only [List.take_succ_cons, List.take_zero, List.drop_succ_cons, List.drop_zero]
        repeat (go_big_quiet_step (((first | (go_at_call 9; exact calm_of _ (HAR.out _)) | (go_at_call 39; exact calm_of _ (HRA2.out _))))))
        refine wpQuiet_nil ?_
        intro _ hw'
        obtain ⟨u, rfl⟩ := hw'
        have hi7 := hi6.below u.below
        have Y2 := X2.call u.below
        have Y3 := X3.call u.below
        clear hi6 X1 X2 X3 cq lq fq ck lk HAR HRA2
        generalize u.at_ = w5 at *
        clear u
        have hiq := Lib.hid (ints_set hi7 (fun b o e => (HNE.out b o e).1) 7 (.int .i64 LA))
        have BQ7 := Lib.hid (box_cast (cs' := #[.int .i64 D0, .int .i64 D1, .int .i64 L0, .int .i64 L1, .int .i64 P0, .int .i64 P1, .slice B m d, .int .i64 LA]) (Y3.box.set (i := 7) (by simp) (.int .i64 LA)) rfl)
        have BR7 := Lib.hid (Y2.box.far (p := ⟨q, 7, none⟩) (by simpa using qr) (.int .i64 LA))
        have AQ7 := Lib.hid (below_set_on Y3.bel (p := ⟨q, 7, none⟩) (by simp; omega) (.int .i64 LA))
        have lq := Y3.box.1
        have cq := Y3.box.2.1
        have fq := Y3.box.2.2
        clear Y2 Y3 hi7
        go_upto_region 9 with (fail)
        refine at_world (fun W => Below w.heap.size w W ∧ Ints W B m ys ∧ Box W q #[.int .i64 D0, .int .i64 D1, .int .i64 L0, .int .i64 L1, .int .i64 P0, .int .i64 P1, .slice B m d, .int .i64 LA] ∧ Box W r0 #[.int .i64 0, .int .i64 0, .int .i64 0, .int .i64 0, .int .i64 0, .int .i64 0, .slice none 0 0, .int .i64 0]) ⟨AQ7.out, hiq.out, BQ7.out, BR7.out⟩ ?_
        clear AQ7 hiq BQ7 BR7 lq cq fq
        rintro w5 ⟨A5, hi5, BQ, BR⟩
        have hir := Lib.hid (ints_set (ints_set (ints_set (ints_set (ints_set (ints_set (ints_set (ints_set (hi5) (fun b o e => (HNE.out b o e).2) 0 (.int .i64 D0)) (fun b o e => (HNE.out b o e).2) 1 (.int .i64 D1)) (fun b o e => (HNE.out b o e).2) 2 (.int .i64 L0)) (fun b o e => (HNE.out b o e).2) 3 (.int .i64 L1)) (fun b o e => (HNE.out b o e).2) 4 (.int .i64 P0)) (fun b o e => (HNE.out b o e).2) 5 (.int .i64 P1)) (fun b o e => (HNE.out b o e).2) 6 (.slice B m d)) (fun b o e => (HNE.out b o e).2) 7 (.int .i64 LA))
        have B8 := Lib.hid (Box.eight_set BR (.int .i64 D0) (.int .i64 D1) (.int .i64 L0) (.int .i64 L1) (.int .i64 P0) (.int .i64 P1) (.slice B m d) (.int .i64 LA))
        have AR := Lib.hid A5
        have lq := BQ.1
        have cq := BQ.2.1
        have fq := BQ.2.2
        have lr := BR.1
        have cr := BR.2.1
        have fr := BR.2.2
        clear BQ BR hi5 A5
        go_cut [5] (fun v wx => v = .int .i64 HE ∧ Below w.heap.size w wx ∧ Ints wx B m ys ∧ Box wx r0 #[.int .i64 D0, .int .i64 D1, .int .i64 L0, .int .i64 L1, .int .i64 P0, .int .i64 P1, .slice B m d, .int .i64 LA])
        case first =>
          go_wp2
          go_meet
          exact ⟨rfl, by (have A4 := AR.out); (repeat (first | (with_reducible exact Below.refl _ _) | (with_reducible assumption) | (with_reducible refine Near.up _ ?_) | (with_reducible refine Below.drew ?_) | (with_reducible refine below_alloc_on ?_ _) | (with_reducible refine below_set_on ?_ (by first | (simp; done) | (simp; omega) | omega) _))), hir.out, B8.out⟩
        case rest =>
          clear hir B8 AR lq cq fq lr cr fr
          obtain ⟨rfl, A6, hi6, BR⟩ := hcut
          have cr := BR.2.1
          have HA6 := Lib.hid A6
          have HI6 := Lib.hid hi6
          clear A6 hi6
          go_wp2
          exact bodyPost_ret (v := .tuple #[.agg #[.int .i64 D0, .int .i64 D1, .int .i64 L0, .int .i64 L1, .int .i64 P0, .int .i64 P1, .slice B m d, .int .i64 LA], .int .i64 HE]) (by simp [results, Tryz.results6, go_sem, cr]) rfl ⟨B, d, rfl, hd, HI6.out, HA6.out⟩
end Go.Proofs.YtmocppghmdeahaaGreat
