/- GuardSays holds of every guard of at most 100 drops and of everything that it can be told: the next guard, and what is held, are the document's; so are what is armed, the goal and the fresh guard. No condition. -/
import Derived.Test.YtmocppghmdeahaaGreatRef35d
import Derived.Test.YtmocppghmdeahaaGreatGuardN
import Derived.Test.YtmocppghmdeahaaGreatCalm
namespace Go.Proofs.YtmocppghmdeahaaGreat.guardSays
open Go.ChangeShapes Go.WideShapes Go.ChangeAt Go.RowKit
set_option linter.unusedVariables false
set_option linter.unusedSimpArgs false
set_option maxRecDepth 100000
attribute [local go_sem] cell_set_ite Near.cell Near.frozen
attribute [local go_sem ↓] Go.wp_at_zero Go.wp_at_succ

set_option maxHeartbeats 4000000 in
theorem same_yes (D0 D1 L0 L1 P0 P1 LA : Int) (B1 B2 : Option Addr) (m e1 e2 : Nat) (ys : List Int) (w : World) (h1 : Ints w B1 m ys) (h2 : Ints w B2 m ys) (hm : m ≤ 9223372036854775807) :
    Calls Tryz.prog 7 #[.agg #[.int .i64 D0, .int .i64 D1, .int .i64 L0, .int .i64 L1, .int .i64 P0, .int .i64 P1, .slice B1 m e1, .int .i64 LA], .agg #[.int .i64 D0, .int .i64 D1, .int .i64 L0, .int .i64 L1, .int .i64 P0, .int .i64 P1, .slice B2 m e2, .int .i64 LA]] w fun e w' => e = .returned (.bool true) ∧ Below w.heap.size w w' := by
  have A0 : Below w.heap.size w w := Below.refl _ _
  have HI := Lib.hid (fun W (hb : Below w.heap.size w W) => law4_ints B1 B2 m e1 m e2 ys ys W (h1.below hb) (h2.below hb) hm hm)
  simp only [eqL_refl] at HI
  clear h1 h2
  go_enter Tryz.func7, Tryz.ntmps7
  go_upto_region 1 with (fail)
  go_wp2_with (fail)
  refine (HI.out _ (by (repeat (first | (with_reducible exact Below.refl _ _) | (with_reducible assumption) | (with_reducible refine Near.up _ ?_) | (with_reducible refine Below.drew ?_) | (with_reducible refine below_alloc_on ?_ _) | (with_reducible refine below_set_on ?_ (by first | (simp; done) | (simp; omega) | omega) _))))).mono ?_
  rintro e w' ⟨rfl, t, rfl⟩
  clear HI
  go_wp2
  all_goals go_ret
  all_goals exact ⟨by simp, below_drewN (by (repeat (first | (with_reducible exact Below.refl _ _) | (with_reducible assumption) | (with_reducible refine Near.up _ ?_) | (with_reducible refine Below.drew ?_) | (with_reducible refine below_alloc_on ?_ _) | (with_reducible refine below_set_on ?_ (by first | (simp; done) | (simp; omega) | omega) _)))) t⟩

set_option maxHeartbeats 8000000 in
theorem walk0 (W : World) (d0 d1 l0 l1 p0 p1 la : Int) (A : Option Addr) (n c : Nat) (xs : List Int) (hi : Ints W A n xs) (hc : n ≤ c) (hr : n * 8 ≤ 140737488351232) (k : Lk) :
    Calls Tryz.prog 3 #[.agg #[.int .i64 d0, .int .i64 d1, .int .i64 l0, .int .i64 l1, .int .i64 p0, .int .i64 p1, .slice A n c, .int .i64 la], .agg (lkC k)] W fun e W' => e = .returned (.bool true) ∧ Below W.heap.size W W' := by
  have A0 : Below W.heap.size W W := Below.refl _ _
  by_cases hn : 100 < n
  · have t1 : decide (100 < (n : Int)) = true := by simp; omega
    clear hi
    unfold lkC
    go_enter Tryz.func3, Tryz.ntmps3
    go_wp2_with (go_at_call 4; refine (law35_awake _).mono ?_; rintro e w' ⟨rfl, hb⟩)
    all_goals go_ret
    all_goals exact ⟨rfl, below_call (by (repeat (first | (with_reducible exact Below.refl _ _) | (with_reducible assumption) | (with_reducible refine Near.up _ ?_) | (with_reducible refine Below.drew ?_) | (with_reducible refine below_alloc_on ?_ _) | (with_reducible refine below_set_on ?_ (by first | (simp; done) | (simp; omega) | omega) _)))) hb⟩
  have t1 : decide (100 < (n : Int)) = false := by simp; omega
  obtain ⟨ys, hys⟩ : ∃ ys, pnL xs k.t k.dr (liV k.r k.s) = ys := ⟨_, rfl⟩
  obtain ⟨m, hm⟩ : ∃ m, ys.length = m := ⟨_, rfl⟩
  have hm2 : m ≤ 512 := by rw [← hm, ← hys]; exact pn_len _ _ _ _
  obtain ⟨HE, hHE⟩ : ∃ HE, heV k ys (drA d0 d1 k) (drB d0 d1 k) (loS l0 (inB k.m) k.dr) (loW l1 (inB k.m) (svB k)) (poT p0 k.ti) (poB p1 k.ba) = HE := ⟨_, rfl⟩
  have HG := Lib.hid (fun w h => g_step A n c xs d0 d1 l0 l1 p0 p1 la k w h hc hr ys hys m hm HE hHE)
  have HR := Lib.hid (fun w h => r35_step A n c xs d0 d1 l0 l1 p0 p1 la k w h hc (by omega) ys hys m hm (by omega) HE hHE)
  have HA1 := Lib.hid (fun w => below_of (g_arm k.m w))
  have HA2 := Lib.hid (fun w => below_of (r35_arm k.m w))
  have HO1 := Lib.hid (fun w => g_goal k.m k.r k.v k.s w)
  have HO2 := Lib.hid (fun w => r35_goal k.m k.r k.v k.s w)
  have HF1 := Lib.hid (fun w => g_fresh35 d0 d1 l0 l1 p0 p1 la A n c w)
  have HF2 := Lib.hid (fun w => r35_fresh d0 d1 l0 l1 p0 p1 la A n c w)
  have HS2 := Lib.hid (fun w => same_yes 0 0 0 0 p0 p1 la none none 0 0 0 [] w ⟨rfl, fun h => absurd h (by omega)⟩ ⟨rfl, fun h => absurd h (by omega)⟩ (by omega))
  have HAW := Lib.hid (fun w => law35_awake w)
  have HI := Lib.hid hi
  clear hys hm hHE hi hr
  generalize laV la HE k = LA at *
  generalize drA d0 d1 k = D0 at *
  generalize drB d0 d1 k = D1 at *
  generalize loS l0 (inB k.m) k.dr = L0 at *
  generalize loW l1 (inB k.m) (svB k) = L1 at *
  generalize poT p0 k.ti = P0 at *
  generalize poB p1 k.ba = P1 at *
  generalize arV k.m = AR at *
  generalize gaV k.m k.r = GO at *
  unfold lkC at *
  go_enter Tryz.func3, Tryz.ntmps3
  go_upto_region 3 with (fail)
  refine at_world (fun w => Below W.heap.size W w ∧ Box w W.heap.size #[.int .i64 d0, .int .i64 d1, .int .i64 l0, .int .i64 l1, .int .i64 p0, .int .i64 p1, .slice A n c, .int .i64 la] ∧ Box w (W.heap.size + 1) #[.int .i64 k.t, .int .i64 k.m, .int .i64 k.r, .int .i64 k.v, .int .i64 k.s, .bool k.dr, .bool k.sh, .bool k.st, .bool k.fa, .int .i64 k.ad, .int .i64 k.ti, .int .i64 k.ba, .int .i64 k.en, .bool k.od, .int .i64 k.ke, .bool k.wr, .int .i64 k.bd, .int .i64 k.ra, .bool k.kn, .int .i64 k.ou, .bool k.sl, .bool k.ov, .bool k.ak]) ⟨by (repeat (first | (with_reducible exact Below.refl _ _) | (with_reducible assumption) | (with_reducible refine Near.up _ ?_) | (with_reducible refine Below.drew ?_) | (with_reducible refine below_alloc_on ?_ _) | (with_reducible refine below_set_on ?_ (by first | (simp; done) | (simp; omega) | omega) _))), by (repeat (first | (with_reducible assumption) | (with_reducible exact box_new _ _ _) | ((with_reducible apply box_at); (first | (with_reducible rfl) | (simp <;> omega))) | (with_reducible apply Box.drew) | (with_reducible apply Box.drewN) | (with_reducible apply Box.near) | (with_reducible apply Box.alloc) | ((with_reducible apply box_far); (first | assumption | omega | (simp <;> omega))) | ((with_reducible apply Box.one_set); (with_reducible assumption)) | ((with_reducible apply Box.two_set); (with_reducible assumption)) | ((with_reducible apply Box.three_set); (with_reducible assumption)) | (with_reducible apply Box.set) | (simp only [List.size_toArray, List.length_cons, List.length_nil, Array.size_setIfInBounds] <;> omega))), by (repeat (first | (with_reducible assumption) | (with_reducible exact box_new _ _ _) | ((with_reducible apply box_at); (first | (with_reducible rfl) | (simp <;> omega))) | (with_reducible apply Box.drew) | (with_reducible apply Box.drewN) | (with_reducible apply Box.near) | (with_reducible apply Box.alloc) | ((with_reducible apply box_far); (first | assumption | omega | (simp <;> omega))) | ((with_reducible apply Box.one_set); (with_reducible assumption)) | ((with_reducible apply Box.two_set); (with_reducible assumption)) | ((with_reducible apply Box.three_set); (with_reducible assumption)) | (with_reducible apply Box.set) | (simp only [List.size_toArray, List.length_cons, List.length_nil, Array.size_setIfInBounds] <;> omega)))⟩ ?_
  clear A0
  rintro w1 ⟨B1, G1, K1⟩
  obtain ⟨g, hg⟩ : ∃ g, W.heap.size = g := ⟨_, rfl⟩
  obtain ⟨q, hq⟩ : ∃ q, W.heap.size + 1 = q := ⟨_, rfl⟩
  have og : W.heap.size ≤ g := by omega
  have oq : W.heap.size ≤ q := by omega
  rw [hq] at K1
  rw [hg] at G1
  simp only [hq]
  simp only [hg]
  clear hg hq
  refine wp_region_lit ?_
  refine wpList_load_box rfl _ _ rfl g rfl #[.int .i64 d0, .int .i64 d1, .int .i64 l0, .int .i64 l1, .int .i64 p0, .int .i64 p1, .slice A n c, .int .i64 la] _ G1 Tryz.underlying30 rfl (by kernel_rfl) ?_
  simp only [Act.put, List.setIfInBounds_toArray, List.set_cons_zero, List.set_cons_succ]
  refine wpList_load_box rfl _ _ rfl q rfl #[.int .i64 k.t, .int .i64 k.m, .int .i64 k.r, .int .i64 k.v, .int .i64 k.s, .bool k.dr, .bool k.sh, .bool k.st, .bool k.fa, .int .i64 k.ad, .int .i64 k.ti, .int .i64 k.ba, .int .i64 k.en, .bool k.od, .int .i64 k.ke, .bool k.wr, .int .i64 k.bd, .int .i64 k.ra, .bool k.kn, .int .i64 k.ou, .bool k.sl, .bool k.ov, .bool k.ak] _ K1 Tryz.underlying38 rfl (by kernel_rfl) ?_
  simp only [Act.put, List.setIfInBounds_toArray, List.set_cons_zero, List.set_cons_succ]
  go_wp2_with (fail)
  refine (HG.out _ (HI.out.below B1)).mono ?_
  rintro e w2 ⟨X1, e1, rfl, he1, hi1, hX1, hb⟩
  have B2 := below_call B1 hb
  have G2 := G1.below hb
  have K2 := K1.below hb
  clear hb B1 G1 K1 HG
  go_upto_region 4 with (fail)
  refine at_world (fun w => Below W.heap.size W w ∧ Below w2.heap.size w2 w ∧ Box w g #[.int .i64 d0, .int .i64 d1, .int .i64 l0, .int .i64 l1, .int .i64 p0, .int .i64 p1, .slice A n c, .int .i64 la] ∧ Box w q #[.int .i64 k.t, .int .i64 k.m, .int .i64 k.r, .int .i64 k.v, .int .i64 k.s, .bool k.dr, .bool k.sh, .bool k.st, .bool k.fa, .int .i64 k.ad, .int .i64 k.ti, .int .i64 k.ba, .int .i64 k.en, .bool k.od, .int .i64 k.ke, .bool k.wr, .int .i64 k.bd, .int .i64 k.ra, .bool k.kn, .int .i64 k.ou, .bool k.sl, .bool k.ov, .bool k.ak] ∧ Box w w2.heap.size #[.int .i64 D0, .int .i64 D1, .int .i64 L0, .int .i64 L1, .int .i64 P0, .int .i64 P1, .slice X1 m e1, .int .i64 LA]) ⟨by (repeat (first | (with_reducible exact Below.refl _ _) | (with_reducible assumption) | (with_reducible refine Near.up _ ?_) | (with_reducible refine Below.drew ?_) | (with_reducible refine below_alloc_on ?_ _) | (with_reducible refine below_set_on ?_ (by first | (simp; done) | (simp; omega) | omega) _))), by (repeat (first | (with_reducible exact Below.refl _ _) | (with_reducible assumption) | (with_reducible refine Near.up _ ?_) | (with_reducible refine Below.drew ?_) | (with_reducible refine below_alloc_on ?_ _) | (with_reducible refine below_set_on ?_ (by first | (simp; done) | (simp; omega) | omega) _))), by (repeat (first | (with_reducible assumption) | (with_reducible exact box_new _ _ _) | ((with_reducible apply box_at); (first | (with_reducible rfl) | (simp <;> omega))) | (with_reducible apply Box.drew) | (with_reducible apply Box.drewN) | (with_reducible apply Box.near) | (with_reducible apply Box.alloc) | ((with_reducible apply box_far); (first | assumption | omega | (simp <;> omega))) | ((with_reducible apply Box.one_set); (with_reducible assumption)) | ((with_reducible apply Box.two_set); (with_reducible assumption)) | ((with_reducible apply Box.three_set); (with_reducible assumption)) | (with_reducible apply Box.set) | (simp only [List.size_toArray, List.length_cons, List.length_nil, Array.size_setIfInBounds] <;> omega))), by (repeat (first | (with_reducible assumption) | (with_reducible exact box_new _ _ _) | ((with_reducible apply box_at); (first | (with_reducible rfl) | (simp <;> omega))) | (with_reducible apply Box.drew) | (with_reducible apply Box.drewN) | (with_reducible apply Box.near) | (with_reducible apply Box.alloc) | ((with_reducible apply box_far); (first | assumption | omega | (simp <;> omega))) | ((with_reducible apply Box.one_set); (with_reducible assumption)) | ((with_reducible apply Box.two_set); (with_reducible assumption)) | ((with_reducible apply Box.three_set); (with_reducible assumption)) | (with_reducible apply Box.set) | (simp only [List.size_toArray, List.length_cons, List.length_nil, Array.size_setIfInBounds] <;> omega))), by (repeat (first | (with_reducible assumption) | (with_reducible exact box_new _ _ _) | ((with_reducible apply box_at); (first | (with_reducible rfl) | (simp <;> omega))) | (with_reducible apply Box.drew) | (with_reducible apply Box.drewN) | (with_reducible apply Box.near) | (with_reducible apply Box.alloc) | ((with_reducible apply box_far); (first | assumption | omega | (simp <;> omega))) | ((with_reducible apply Box.one_set); (with_reducible assumption)) | ((with_reducible apply Box.two_set); (with_reducible assumption)) | ((with_reducible apply Box.three_set); (with_reducible assumption)) | (with_reducible apply Box.set) | (simp only [List.size_toArray, List.length_cons, List.length_nil, Array.size_setIfInBounds] <;> omega)))⟩ ?_
  rintro w3 ⟨B3, hb, G3, K3, R3⟩
  have hi1 := hi1.below hb
  obtain ⟨r, hr⟩ : ∃ r, w2.heap.size = r := ⟨_, rfl⟩
  rw [hr] at R3
  simp only [hr]
  clear hr hb B2 G2 K2
  refine wp_region_lit ?_
  refine wpList_load_box rfl _ _ rfl g rfl #[.int .i64 d0, .int .i64 d1, .int .i64 l0, .int .i64 l1, .int .i64 p0, .int .i64 p1, .slice A n c, .int .i64 la] _ G3 Tryz.underlying30 rfl (by kernel_rfl) ?_
  simp only [Act.put, List.setIfInBounds_toArray, List.set_cons_zero, List.set_cons_succ]
  refine wpList_load_box rfl _ _ rfl q rfl #[.int .i64 k.t, .int .i64 k.m, .int .i64 k.r, .int .i64 k.v, .int .i64 k.s, .bool k.dr, .bool k.sh, .bool k.st, .bool k.fa, .int .i64 k.ad, .int .i64 k.ti, .int .i64 k.ba, .int .i64 k.en, .bool k.od, .int .i64 k.ke, .bool k.wr, .int .i64 k.bd, .int .i64 k.ra, .bool k.kn, .int .i64 k.ou, .bool k.sl, .bool k.ov, .bool k.ak] _ K3 Tryz.underlying38 rfl (by kernel_rfl) ?_
  simp only [Act.put, List.setIfInBounds_toArray, List.set_cons_zero, List.set_cons_succ]
  go_wp2_with (fail)
  refine (HR.out _ (HI.out.below B3)).mono ?_
  rintro e w4 ⟨X2, e2, rfl, he2, hi2, hb⟩
  have B4 := below_call B3 hb
  have G4 := G3.below hb
  have K4 := K3.below hb
  have R4 := R3.below hb
  have hi1 := hi1.below hb
  clear hb B3 G3 K3 R3 HR
  go_upto_region 5 with (fail)
  refine at_world (fun w => Below W.heap.size W w ∧ Below w4.heap.size w4 w ∧ Box w g #[.int .i64 d0, .int .i64 d1, .int .i64 l0, .int .i64 l1, .int .i64 p0, .int .i64 p1, .slice A n c, .int .i64 la] ∧ Box w q #[.int .i64 k.t, .int .i64 k.m, .int .i64 k.r, .int .i64 k.v, .int .i64 k.s, .bool k.dr, .bool k.sh, .bool k.st, .bool k.fa, .int .i64 k.ad, .int .i64 k.ti, .int .i64 k.ba, .int .i64 k.en, .bool k.od, .int .i64 k.ke, .bool k.wr, .int .i64 k.bd, .int .i64 k.ra, .bool k.kn, .int .i64 k.ou, .bool k.sl, .bool k.ov, .bool k.ak] ∧ Box w r #[.int .i64 D0, .int .i64 D1, .int .i64 L0, .int .i64 L1, .int .i64 P0, .int .i64 P1, .slice X1 m e1, .int .i64 LA] ∧ Box w w4.heap.size #[.int .i64 D0, .int .i64 D1, .int .i64 L0, .int .i64 L1, .int .i64 P0, .int .i64 P1, .slice X2 m e2, .int .i64 LA]) ⟨by (repeat (first | (with_reducible exact Below.refl _ _) | (with_reducible assumption) | (with_reducible refine Near.up _ ?_) | (with_reducible refine Below.drew ?_) | (with_reducible refine below_alloc_on ?_ _) | (with_reducible refine below_set_on ?_ (by first | (simp; done) | (simp; omega) | omega) _))), by (repeat (first | (with_reducible exact Below.refl _ _) | (with_reducible assumption) | (with_reducible refine Near.up _ ?_) | (with_reducible refine Below.drew ?_) | (with_reducible refine below_alloc_on ?_ _) | (with_reducible refine below_set_on ?_ (by first | (simp; done) | (simp; omega) | omega) _))), by (repeat (first | (with_reducible assumption) | (with_reducible exact box_new _ _ _) | ((with_reducible apply box_at); (first | (with_reducible rfl) | (simp <;> omega))) | (with_reducible apply Box.drew) | (with_reducible apply Box.drewN) | (with_reducible apply Box.near) | (with_reducible apply Box.alloc) | ((with_reducible apply box_far); (first | assumption | omega | (simp <;> omega))) | ((with_reducible apply Box.one_set); (with_reducible assumption)) | ((with_reducible apply Box.two_set); (with_reducible assumption)) | ((with_reducible apply Box.three_set); (with_reducible assumption)) | (with_reducible apply Box.set) | (simp only [List.size_toArray, List.length_cons, List.length_nil, Array.size_setIfInBounds] <;> omega))), by (repeat (first | (with_reducible assumption) | (with_reducible exact box_new _ _ _) | ((with_reducible apply box_at); (first | (with_reducible rfl) | (simp <;> omega))) | (with_reducible apply Box.drew) | (with_reducible apply Box.drewN) | (with_reducible apply Box.near) | (with_reducible apply Box.alloc) | ((with_reducible apply box_far); (first | assumption | omega | (simp <;> omega))) | ((with_reducible apply Box.one_set); (with_reducible assumption)) | ((with_reducible apply Box.two_set); (with_reducible assumption)) | ((with_reducible apply Box.three_set); (with_reducible assumption)) | (with_reducible apply Box.set) | (simp only [List.size_toArray, List.length_cons, List.length_nil, Array.size_setIfInBounds] <;> omega))), by (repeat (first | (with_reducible assumption) | (with_reducible exact box_new _ _ _) | ((with_reducible apply box_at); (first | (with_reducible rfl) | (simp <;> omega))) | (with_reducible apply Box.drew) | (with_reducible apply Box.drewN) | (with_reducible apply Box.near) | (with_reducible apply Box.alloc) | ((with_reducible apply box_far); (first | assumption | omega | (simp <;> omega))) | ((with_reducible apply Box.one_set); (with_reducible assumption)) | ((with_reducible apply Box.two_set); (with_reducible assumption)) | ((with_reducible apply Box.three_set); (with_reducible assumption)) | (with_reducible apply Box.set) | (simp only [List.size_toArray, List.length_cons, List.length_nil, Array.size_setIfInBounds] <;> omega))), by (repeat (first | (with_reducible assumption) | (with_reducible exact box_new _ _ _) | ((with_reducible apply box_at); (first | (with_reducible rfl) | (simp <;> omega))) | (with_reducible apply Box.drew) | (with_reducible apply Box.drewN) | (with_reducible apply Box.near) | (with_reducible apply Box.alloc) | ((with_reducible apply box_far); (first | assumption | omega | (simp <;> omega))) | ((with_reducible apply Box.one_set); (with_reducible assumption)) | ((with_reducible apply Box.two_set); (with_reducible assumption)) | ((with_reducible apply Box.three_set); (with_reducible assumption)) | (with_reducible apply Box.set) | (simp only [List.size_toArray, List.length_cons, List.length_nil, Array.size_setIfInBounds] <;> omega)))⟩ ?_
  rintro w5 ⟨B5, hb, G5, K5, R5, S5⟩
  have hi1 := hi1.below hb
  have hi2 := hi2.below hb
  obtain ⟨s, hs⟩ : ∃ s, w4.heap.size = s := ⟨_, rfl⟩
  rw [hs] at S5
  simp only [hs]
  clear hs hb B4 G4 K4 R4
  have HS1 := Lib.hid (fun (u : Near w5) => same_yes D0 D1 L0 L1 P0 P1 LA X1 X2 m e1 e2 ys u.at_ (hi1.below u.below) (hi2.below u.below) (by omega))
  have g50 : w5.cell? ⟨g, 0, none⟩ = some (.int .i64 d0) := G5.2.1 0
  have g51 : w5.cell? ⟨g, 1, none⟩ = some (.int .i64 d1) := G5.2.1 1
  have g52 : w5.cell? ⟨g, 2, none⟩ = some (.int .i64 l0) := G5.2.1 2
  have g53 : w5.cell? ⟨g, 3, none⟩ = some (.int .i64 l1) := G5.2.1 3
  have g54 : w5.cell? ⟨g, 4, none⟩ = some (.int .i64 p0) := G5.2.1 4
  have g55 : w5.cell? ⟨g, 5, none⟩ = some (.int .i64 p1) := G5.2.1 5
  have g56 : w5.cell? ⟨g, 6, none⟩ = some (.slice A n c) := G5.2.1 6
  have g57 : w5.cell? ⟨g, 7, none⟩ = some (.int .i64 la) := G5.2.1 7
  have k51 : w5.cell? ⟨q, 1, none⟩ = some (.int .i64 k.m) := K5.2.1 1
  have k52 : w5.cell? ⟨q, 2, none⟩ = some (.int .i64 k.r) := K5.2.1 2
  have k53 : w5.cell? ⟨q, 3, none⟩ = some (.int .i64 k.v) := K5.2.1 3
  have k54 : w5.cell? ⟨q, 4, none⟩ = some (.int .i64 k.s) := K5.2.1 4
  have r50 : w5.cell? ⟨r, 0, none⟩ = some (.int .i64 D0) := R5.2.1 0
  have r51 : w5.cell? ⟨r, 1, none⟩ = some (.int .i64 D1) := R5.2.1 1
  have r52 : w5.cell? ⟨r, 2, none⟩ = some (.int .i64 L0) := R5.2.1 2
  have r53 : w5.cell? ⟨r, 3, none⟩ = some (.int .i64 L1) := R5.2.1 3
  have r54 : w5.cell? ⟨r, 4, none⟩ = some (.int .i64 P0) := R5.2.1 4
  have r55 : w5.cell? ⟨r, 5, none⟩ = some (.int .i64 P1) := R5.2.1 5
  have r56 : w5.cell? ⟨r, 6, none⟩ = some (.slice X1 m e1) := R5.2.1 6
  have r57 : w5.cell? ⟨r, 7, none⟩ = some (.int .i64 LA) := R5.2.1 7
  have s50 : w5.cell? ⟨s, 0, none⟩ = some (.int .i64 D0) := S5.2.1 0
  have s51 : w5.cell? ⟨s, 1, none⟩ = some (.int .i64 D1) := S5.2.1 1
  have s52 : w5.cell? ⟨s, 2, none⟩ = some (.int .i64 L0) := S5.2.1 2
  have s53 : w5.cell? ⟨s, 3, none⟩ = some (.int .i64 L1) := S5.2.1 3
  have s54 : w5.cell? ⟨s, 4, none⟩ = some (.int .i64 P0) := S5.2.1 4
  have s55 : w5.cell? ⟨s, 5, none⟩ = some (.int .i64 P1) := S5.2.1 5
  have s56 : w5.cell? ⟨s, 6, none⟩ = some (.slice X2 m e2) := S5.2.1 6
  have s57 : w5.cell? ⟨s, 7, none⟩ = some (.int .i64 LA) := S5.2.1 7
  have lg := G5.1
  have lq := K5.1
  have lr := R5.1
  have ls := S5.1
  clear G5 K5 R5 S5 hi1 hi2 HI hX1
  refine wp_region_calm (by kernel_rfl) (by kernel_rfl) ?_
  repeat (go_big_quiet_step ((first | ((go_at_call 7; first | (with_reducible exact calm_of _ (HS1.out _)) | (with_reducible exact calm_of _ (HS2.out _)))) | ((go_at_call 8; exact calm_of _ (HA1.out _))) | ((go_at_call 9; exact calm_of _ (HA2.out _))) | ((go_at_call 10; exact calm_of _ (HO1.out _))) | ((go_at_call 11; exact calm_of _ (HO2.out _))) | ((go_at_call 12; exact calm_of _ (HF1.out _))) | ((go_at_call 13; exact calm_of _ (HF2.out _))) | ((go_at_call 4; exact calm_of _ (HAW.out _))))))
  refine wpQuiet_nil ?_
  intro _ hw'
  obtain ⟨u, rfl⟩ := hw'
  have A9 := below_call B5 u.below
  go_wp2
  all_goals go_ret
  all_goals exact ⟨rfl, A9⟩
theorem walk (W : World) (d0 d1 l0 l1 p0 p1 la : Int) (A : Option Addr) (n c : Nat) (xs : List Int) (hi : Ints W A n xs) (hc : n ≤ c) (hr : n * 8 ≤ 140737488351232) (x0 : Int) (w0 : (Lit.int .i64 x0).wf = true) (x1 : Int) (w1 : (Lit.int .i64 x1).wf = true) (x2 : Int) (w2 : (Lit.int .i64 x2).wf = true) (x3 : Int) (w3 : (Lit.int .i64 x3).wf = true) (x4 : Int) (w4 : (Lit.int .i64 x4).wf = true) (x5 : Bool) (x6 : Bool) (x7 : Bool) (x8 : Bool) (x9 : Int) (w9 : (Lit.int .i64 x9).wf = true) (x10 : Int) (w10 : (Lit.int .i64 x10).wf = true) (x11 : Int) (w11 : (Lit.int .i64 x11).wf = true) (x12 : Int) (w12 : (Lit.int .i64 x12).wf = true) (x13 : Bool) (x14 : Int) (w14 : (Lit.int .i64 x14).wf = true) (x15 : Bool) (x16 : Int) (w16 : (Lit.int .i64 x16).wf = true) (x17 : Int) (w17 : (Lit.int .i64 x17).wf = true) (x18 : Bool) (x19 : Int) (w19 : (Lit.int .i64 x19).wf = true) (x20 : Bool) (x21 : Bool) (x22 : Bool) :
    Calls Tryz.prog 3 #[.agg #[.int .i64 d0, .int .i64 d1, .int .i64 l0, .int .i64 l1, .int .i64 p0, .int .i64 p1, .slice A n c, .int .i64 la], .agg #[.int .i64 x0, .int .i64 x1, .int .i64 x2, .int .i64 x3, .int .i64 x4, .bool x5, .bool x6, .bool x7, .bool x8, .int .i64 x9, .int .i64 x10, .int .i64 x11, .int .i64 x12, .bool x13, .int .i64 x14, .bool x15, .int .i64 x16, .int .i64 x17, .bool x18, .int .i64 x19, .bool x20, .bool x21, .bool x22]] W fun e W' => e = .returned (.bool true) ∧ Below W.heap.size W W' :=
  walk0 W d0 d1 l0 l1 p0 p1 la A n c xs hi hc hr ⟨x0, x1, x2, x3, x4, x5, x6, x7, x8, x9, x10, x11, x12, x13, x14, x15, x16, x17, x18, x19, x20, x21, x22⟩

set_option maxRecDepth 100000 in
theorem lifted (os : Os) (started : os.Started) (H : Type) (enc : TypeId × Value → H) :
    ReturnsInHanded {} Tryz.checked os 3 .any (Rows.guardSaysSpec.pre6 enc Tryz.prog Tryz.f3 Rows.guardSaysRow.domain false) (Rows.guardSaysSpec.post enc Tryz.prog Tryz.f3 false true false false) := by
  refine law_lift started (by kernel_rfl) Tryz.func3 rfl rfl ?_ (by kernel_rfl)
    (ChangeSpec.witness6 (enc := enc) (C := Tryz.checked) false ⟨#[], #[.agg #[.int .i64 0, .int .i64 0, .int .i64 0, .int .i64 0, .int .i64 0, .int .i64 0, .slice none 0 0, .int .i64 0], .agg #[.int .i64 0, .int .i64 0, .int .i64 0, .int .i64 0, .int .i64 0, .bool false, .bool false, .bool false, .bool false, .int .i64 0, .int .i64 0, .int .i64 0, .int .i64 0, .bool false, .int .i64 0, .bool false, .int .i64 0, .int .i64 0, .bool false, .int .i64 0, .bool false, .bool false, .bool false]], []⟩ 8 (by kernel_rfl) (by kernel_rfl) (by kernel_rfl) (by kernel_rfl)) ?_
  · intro ds hl
    match ds, hl with
    | [_, _], _ => exact ⟨rfl, rfl, rfl⟩
  · intro W base args ds p hval hA hlt hwt
    rw [Tryz.params3] at hA hval hwt
    obtain ⟨v0, vs0, d0, ds0, p0, q0, hargs, rfl, rfl, h0, r0⟩ := trodAll_cons hA
    obtain ⟨v1, vs1, d1, ds1, p1, q1, rfl, rfl, rfl, h1, r1⟩ := trodAll_cons r0
    obtain ⟨rfl, rfl, rfl⟩ := trodAll_nil r1
    obtain rfl : args = #[v0, v1] := by cases args; simp_all
    have wt0 : ∀ n ∈ d0.weights Tryz.prog 30, n ≤ reachBytes := fun n hn => by
      have := List.all_eq_true.1 hwt n (DataW.weights_mem_each (j := 0) (t := 30) (d := d0) rfl rfl n hn)
      simpa using this
    have lt0 : ∀ x ∈ p0, x.block < W.heap.size := fun x hx => hlt x (by simp [hx])
    obtain ⟨g0_0, g0_1, g0_2, g0_3, g0_4, g0_5, g0_6, A0, n0, c0, xs0, rfl, hi0, hc0, hr0⟩ := open_guard (hval 0 30 v0 rfl rfl) h0 lt0 wt0
    obtain ⟨cs1, rfl, l1, k1⟩ := open_leaves 5 [.int .i64, .int .i64, .int .i64, .int .i64, .int .i64, .bool, .bool, .bool, .bool, .int .i64, .int .i64, .int .i64, .int .i64, .bool, .int .i64, .bool, .int .i64, .int .i64, .bool, .int .i64, .bool, .bool, .bool] (by kernel_rfl) (by kernel_rfl) (hval 1 38 v1 rfl rfl) h1
    match cs1, l1, k1 with
    | [y1_0, y1_1, y1_2, y1_3, y1_4, y1_5, y1_6, y1_7, y1_8, y1_9, y1_10, y1_11, y1_12, y1_13, y1_14, y1_15, y1_16, y1_17, y1_18, y1_19, y1_20, y1_21, y1_22], _, k1 =>
    obtain ⟨x1_0, e1_0, w1_0⟩ : leafIs (.int .i64) y1_0 := k1 0 _ rfl
    subst e1_0
    obtain ⟨x1_1, e1_1, w1_1⟩ : leafIs (.int .i64) y1_1 := k1 1 _ rfl
    subst e1_1
    obtain ⟨x1_2, e1_2, w1_2⟩ : leafIs (.int .i64) y1_2 := k1 2 _ rfl
    subst e1_2
    obtain ⟨x1_3, e1_3, w1_3⟩ : leafIs (.int .i64) y1_3 := k1 3 _ rfl
    subst e1_3
    obtain ⟨x1_4, e1_4, w1_4⟩ : leafIs (.int .i64) y1_4 := k1 4 _ rfl
    subst e1_4
    obtain ⟨x1_5, e1_5⟩ : leafIs (.bool) y1_5 := k1 5 _ rfl
    subst e1_5
    obtain ⟨x1_6, e1_6⟩ : leafIs (.bool) y1_6 := k1 6 _ rfl
    subst e1_6
    obtain ⟨x1_7, e1_7⟩ : leafIs (.bool) y1_7 := k1 7 _ rfl
    subst e1_7
    obtain ⟨x1_8, e1_8⟩ : leafIs (.bool) y1_8 := k1 8 _ rfl
    subst e1_8
    obtain ⟨x1_9, e1_9, w1_9⟩ : leafIs (.int .i64) y1_9 := k1 9 _ rfl
    subst e1_9
    obtain ⟨x1_10, e1_10, w1_10⟩ : leafIs (.int .i64) y1_10 := k1 10 _ rfl
    subst e1_10
    obtain ⟨x1_11, e1_11, w1_11⟩ : leafIs (.int .i64) y1_11 := k1 11 _ rfl
    subst e1_11
    obtain ⟨x1_12, e1_12, w1_12⟩ : leafIs (.int .i64) y1_12 := k1 12 _ rfl
    subst e1_12
    obtain ⟨x1_13, e1_13⟩ : leafIs (.bool) y1_13 := k1 13 _ rfl
    subst e1_13
    obtain ⟨x1_14, e1_14, w1_14⟩ : leafIs (.int .i64) y1_14 := k1 14 _ rfl
    subst e1_14
    obtain ⟨x1_15, e1_15⟩ : leafIs (.bool) y1_15 := k1 15 _ rfl
    subst e1_15
    obtain ⟨x1_16, e1_16, w1_16⟩ : leafIs (.int .i64) y1_16 := k1 16 _ rfl
    subst e1_16
    obtain ⟨x1_17, e1_17, w1_17⟩ : leafIs (.int .i64) y1_17 := k1 17 _ rfl
    subst e1_17
    obtain ⟨x1_18, e1_18⟩ : leafIs (.bool) y1_18 := k1 18 _ rfl
    subst e1_18
    obtain ⟨x1_19, e1_19, w1_19⟩ : leafIs (.int .i64) y1_19 := k1 19 _ rfl
    subst e1_19
    obtain ⟨x1_20, e1_20⟩ : leafIs (.bool) y1_20 := k1 20 _ rfl
    subst e1_20
    obtain ⟨x1_21, e1_21⟩ : leafIs (.bool) y1_21 := k1 21 _ rfl
    subst e1_21
    obtain ⟨x1_22, e1_22⟩ : leafIs (.bool) y1_22 := k1 22 _ rfl
    subst e1_22
    exact walk W g0_0 g0_1 g0_2 g0_3 g0_4 g0_5 g0_6 A0 n0 c0 xs0 hi0 hc0 hr0 x1_0 w1_0 x1_1 w1_1 x1_2 w1_2 x1_3 w1_3 x1_4 w1_4 x1_5 x1_6 x1_7 x1_8 x1_9 w1_9 x1_10 w1_10 x1_11 w1_11 x1_12 w1_12 x1_13 x1_14 w1_14 x1_15 x1_16 w1_16 x1_17 w1_17 x1_18 x1_19 w1_19 x1_20 x1_21 x1_22

theorem over : Rows.guardSaysRow.holds Tryz.pinned (OpenSpec.ofChange Rows.guardSaysSpec) :=
  OpenClaim.holds_of_wide 3 Tryz.f3 rfl rfl rfl rfl rfl rfl rfl ⟨rfl, rfl, rfl, rfl, rfl⟩ rfl rfl rfl rfl rfl (by kernel_rfl) Tryz.func3 (by kernel_rfl)
    (of_decide_eq_true (by kernel_rfl)) (by unfold Func.isWrapper; first | (rw [if_pos (by decide +kernel)]; kernel_rfl) | (rw [if_neg (by decide +kernel)]; exact ⟨rfl, rfl⟩))
    (fun os started H enc _ => lifted os started H enc)

theorem proved : Rows.GuardSaysSaid := over
#print axioms proved
end Go.Proofs.YtmocppghmdeahaaGreat.guardSays
