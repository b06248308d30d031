/- SpecSays holds of every list of lights, every list of truths, and any two numbers: the levels, the shades, the firm ticks, the drops and how many lie between are the document's. No condition. -/
import Derived.Test.YtmgbegmhanbcnaaRef23C
import Derived.Test.YtmgbegmhanbcnaaArr
import Derived.Test.YtmgbegmhanbcnaaBx
namespace Go.Proofs.Ytmgbegmhanbcnaa.specSays
open Go.ChangeShapes Go.WideShapes Go.ChangeAt Go.RowKit
set_option linter.unusedVariables false
set_option linter.unusedSimpArgs false
set_option maxRecDepth 100000
attribute [local go_sem] cell_set_ite Near.cell Near.frozen
attribute [local go_sem ↓] Go.wp_at_zero Go.wp_at_succ

theorem same_ints {A B : Option Addr} {n m c d : Nat} {xs : List Int} {w : World} (h : Ints w A n xs) (g : Ints w B m xs) (hn : n ≤ 100000) (hm : m ≤ 100000) :
    Calls Try.prog 7 #[.slice A n c, .slice B m d] w fun e w' => e = .returned (.bool true) ∧ ∃ t, w' = w.drewN t := by
  have hq := law4_ints A B n c m d xs xs w h g (by omega) (by omega)
  rw [eqL_refl] at hq
  exact hq
theorem same_intsB {A B : Option Addr} {n m c d : Nat} {xs : List Int} {w : World} (h : Ints w A n xs) (g : Ints w B m xs) (hn : n ≤ 100000) (hm : m ≤ 100000) :
    Calls Try.prog 7 #[.slice A n c, .slice B m d] w fun e w' => e = .returned (.bool true) ∧ Below w.heap.size w w' :=
  (same_ints h g hn hm).mono fun _ _ ⟨he, t, hw⟩ => ⟨he, hw ▸ below_drewN (Below.refl _ _) t⟩

set_option maxHeartbeats 8000000 in
theorem walk (w : World) (A : Option Addr) (n c : Nat) (xs : List Int) (hi : Ints w A n xs) (hc : n ≤ c) (hr : n * 8 ≤ 140737488351232) (wx : ∀ x ∈ xs, (Lit.int .i64 x).wf = true)
    (S : Option Addr) (m d : Nat) (rs : List (List Value)) (hs : Rows [.bool] w S m rs) (hd : m ≤ d) (hq : m * 1 ≤ 140737488351232) (x0 : Int) (w0 : (Lit.int .i64 x0).wf = true) (x1 : Int) (w1 : (Lit.int .i64 x1).wf = true) :
    Calls Try.prog 3 #[.slice A n c, .slice S m d, .agg #[.int .i64 x0, .int .i64 x1]] w fun e w' => e = .returned (.bool true) ∧ Below w.heap.size w w' := by
  obtain ⟨ps, hp⟩ := Truths.of_rows hs
  clear hs wx w0 w1 hq hr
  have BX := box_new w #[.int .i64 x0, .int .i64 x1] 24
  have BA := below_alloc_on (Below.refl w.heap.size w) (.cells #[.int .i64 x0, .int .i64 x1] 24)
  have HI := Lib.hid (hi.below BA)
  have HW := Lib.hid hi
  have HP := Lib.hid hp
  have HS := Lib.hid (hp.below BA)
  clear hi hp
  by_cases hn : 200 < n
  · have t0 : decide (200 < (n : Int)) = true := decide_eq_true (by omega)
    clear HI HS BX hn HW HP
    go_enter Try.func3, Try.ntmps3
    go_wp2_with (go_at_call 5; refine (law23_awake _).mono ?_; rintro e w' ⟨rfl, hb⟩)
    all_goals go_ret
    all_goals exact ⟨rfl, below_call BA hb⟩
  · have t0 : decide (200 < (n : Int)) = false := decide_eq_false (by omega)
    by_cases hm : 200 < m
    · have t1 : decide (200 < (m : Int)) = true := decide_eq_true (by omega)
      clear HI HS BX hn hm HW HP
      go_enter Try.func3, Try.ntmps3
      go_wp2_with (go_at_call 5; refine (law23_awake _).mono ?_; rintro e w' ⟨rfl, hb⟩)
      all_goals go_ret
      all_goals exact ⟨rfl, below_call BA hb⟩
    · have t1 : decide (200 < (m : Int)) = false := decide_eq_false (by omega)
      have hn2 : n ≤ 100000 := by omega
      have hm2 : m ≤ 100000 := by omega
      have hn3 : n ≤ 17592186044416 := by omega
      have hm3 : m ≤ 17592186044416 := by omega
      clear hn hm
      obtain ⟨g0, hg0⟩ : ∃ g0, w.heap.size = g0 := ⟨_, rfl⟩
      have lg : g0 < (w.alloc (.cells #[.int .i64 x0, .int .i64 x1] 24)).heap.size := hg0 ▸ BX.1
      have og : w.heap.size ≤ g0 := by omega
      rw [hg0] at BX
      go_enter Try.func3, Try.ntmps3
      go_wp2_with (fail)
      clear hg0
      generalize w.alloc (.cells #[.int .i64 x0, .int .i64 x1] 24) = wa at *
      refine (sp_drops A n c xs wa HI.out hn2).mono ?_
      rintro e wr ⟨B, dd, rfl, hdd, C0, hb0⟩
      have AW := below_call BA hb0
      have X0 : Bx w g0 #[.int .i64 x0, .int .i64 x1] wr := ⟨BX.below hb0, AW, og⟩
      have K0 := Lib.hid C0
      have hdl : (dropsL xs n).length ≤ 100000 := by have := dropsL_len xs n; omega
      clear hb0 C0 HI HS BX BA lg
      have H1 := Lib.hid (fun W (h : Below w.heap.size w W) => sp_levels A n c xs W (HW.out.below h) hn2)
      have H2 := Lib.hid (fun W (h : Below w.heap.size w W) => rs_levels A n c xs W (HW.out.below h) hn2)
      have H3 := Lib.hid (fun W (h : Below w.heap.size w W) => sp_shades A n c xs W (HW.out.below h) hn2)
      have H4 := Lib.hid (fun W (h : Below w.heap.size w W) => rs_shades A n c xs W (HW.out.below h) hn2)
      have H5 := Lib.hid (fun W (h : Below w.heap.size w W) => sp_firms S m d ps W (HP.out.below h) hm2)
      have H6 := Lib.hid (fun W (h : Below w.heap.size w W) => rs_firms S m d ps W (HP.out.below h) hm2)
      have H7 := Lib.hid (fun W (h : Below w.heap.size w W) => rs_drops A n c xs W (HW.out.below h) hn2)
      clear HW HP
      go_upto_region 4 with (fail)
      generalize dropsL xs n = ds at *
      go_region_held3 (fun w' => w'.cell? ⟨g0, 0, none⟩ = some (.int .i64 x0) ∧ w'.cell? ⟨g0, 1, none⟩ = some (.int .i64 x1) ∧ g0 < w'.heap.size ∧ Bx w g0 #[.int .i64 x0, .int .i64 x1] w')
        ((exact ⟨Bx.cell (W := w) (g := g0) (cs := #[.int .i64 x0, .int .i64 x1]) (by (repeat (first | (with_reducible assumption) | (exact (by with_reducible assumption : (_ : World).cell? ⟨g0, 0, none⟩ = some (.int .i64 x0) ∧ (_ : World).cell? ⟨g0, 1, none⟩ = some (.int .i64 x1) ∧ g0 < (_ : World).heap.size ∧ Bx w g0 #[.int .i64 x0, .int .i64 x1] (_ : World)).2.2.2) | (with_reducible refine Bx.call ?_ hb) | (with_reducible refine Bx.drew ?_) | (with_reducible refine Bx.alloc ?_ _) | (with_reducible refine Bx.far2 ?_ (by first | (dsimp only; omega) | omega | (simp; done) | (simp; omega) | omega) (by first | (dsimp only; omega) | omega | (simp; done) | (simp; omega) | omega) _)))) 0 _ rfl, Bx.cell (W := w) (g := g0) (cs := #[.int .i64 x0, .int .i64 x1]) (by (repeat (first | (with_reducible assumption) | (exact (by with_reducible assumption : (_ : World).cell? ⟨g0, 0, none⟩ = some (.int .i64 x0) ∧ (_ : World).cell? ⟨g0, 1, none⟩ = some (.int .i64 x1) ∧ g0 < (_ : World).heap.size ∧ Bx w g0 #[.int .i64 x0, .int .i64 x1] (_ : World)).2.2.2) | (with_reducible refine Bx.call ?_ hb) | (with_reducible refine Bx.drew ?_) | (with_reducible refine Bx.alloc ?_ _) | (with_reducible refine Bx.far2 ?_ (by first | (dsimp only; omega) | omega | (simp; done) | (simp; omega) | omega) (by first | (dsimp only; omega) | omega | (simp; done) | (simp; omega) | omega) _)))) 1 _ rfl, Bx.lt (W := w) (g := g0) (cs := #[.int .i64 x0, .int .i64 x1]) (by (repeat (first | (with_reducible assumption) | (exact (by with_reducible assumption : (_ : World).cell? ⟨g0, 0, none⟩ = some (.int .i64 x0) ∧ (_ : World).cell? ⟨g0, 1, none⟩ = some (.int .i64 x1) ∧ g0 < (_ : World).heap.size ∧ Bx w g0 #[.int .i64 x0, .int .i64 x1] (_ : World)).2.2.2) | (with_reducible refine Bx.call ?_ hb) | (with_reducible refine Bx.drew ?_) | (with_reducible refine Bx.alloc ?_ _) | (with_reducible refine Bx.far2 ?_ (by first | (dsimp only; omega) | omega | (simp; done) | (simp; omega) | omega) (by first | (dsimp only; omega) | omega | (simp; done) | (simp; omega) | omega) _)))), (by (repeat (first | (with_reducible assumption) | (exact (by with_reducible assumption : (_ : World).cell? ⟨g0, 0, none⟩ = some (.int .i64 x0) ∧ (_ : World).cell? ⟨g0, 1, none⟩ = some (.int .i64 x1) ∧ g0 < (_ : World).heap.size ∧ Bx w g0 #[.int .i64 x0, .int .i64 x1] (_ : World)).2.2.2) | (with_reducible refine Bx.call ?_ hb) | (with_reducible refine Bx.drew ?_) | (with_reducible refine Bx.alloc ?_ _) | (with_reducible refine Bx.far2 ?_ (by first | (dsimp only; omega) | omega | (simp; done) | (simp; omega) | omega) (by first | (dsimp only; omega) | omega | (simp; done) | (simp; omega) | omega) _))))⟩))
        (first | (go_at_call 8; with_reducible refine (H1.out _ (by (repeat (first | (with_reducible exact Below.refl _ _) | (with_reducible assumption) | (with_reducible refine Near.up _ ?_) | (with_reducible refine Below.drew ?_) | (with_reducible refine below_alloc_on ?_ _) | (with_reducible refine below_set_on ?_ (by first | (simp; done) | (simp; omega) | omega) _))))).mono ?_; rintro e w1 ⟨g1, rfl, C1, hb⟩; have Y0 : Bx w g0 #[.int .i64 x0, .int .i64 x1] w1 := (by (repeat (first | (with_reducible assumption) | (exact (by with_reducible assumption : (_ : World).cell? ⟨g0, 0, none⟩ = some (.int .i64 x0) ∧ (_ : World).cell? ⟨g0, 1, none⟩ = some (.int .i64 x1) ∧ g0 < (_ : World).heap.size ∧ Bx w g0 #[.int .i64 x0, .int .i64 x1] (_ : World)).2.2.2) | (with_reducible refine Bx.call ?_ hb) | (with_reducible refine Bx.drew ?_) | (with_reducible refine Bx.alloc ?_ _) | (with_reducible refine Bx.far2 ?_ (by first | (dsimp only; omega) | omega | (simp; done) | (simp; omega) | omega) (by first | (dsimp only; omega) | omega | (simp; done) | (simp; omega) | omega) _)))); have y0 := Y0.lt; (have K1 := Lib.hid C1.ints); (have K0 := Lib.hid (K0.out.below (below_call (by (repeat (first | (with_reducible exact Below.refl _ _) | (with_reducible assumption) | (with_reducible refine Near.up _ ?_) | (with_reducible refine Below.drew ?_) | (with_reducible refine below_alloc_on ?_ _) | (with_reducible refine below_set_on ?_ (by first | (simp; done) | (simp; omega) | omega) _)))) hb))); clear C1 hb) | (go_at_call 9; with_reducible refine (H2.out _ Y0.bel).mono ?_; rintro e w2 ⟨B2, d2, rfl, hd2, C2, hb⟩; have Y0 : Bx w g0 #[.int .i64 x0, .int .i64 x1] w2 := (by (repeat (first | (with_reducible assumption) | (exact (by with_reducible assumption : (_ : World).cell? ⟨g0, 0, none⟩ = some (.int .i64 x0) ∧ (_ : World).cell? ⟨g0, 1, none⟩ = some (.int .i64 x1) ∧ g0 < (_ : World).heap.size ∧ Bx w g0 #[.int .i64 x0, .int .i64 x1] (_ : World)).2.2.2) | (with_reducible refine Bx.call ?_ hb) | (with_reducible refine Bx.drew ?_) | (with_reducible refine Bx.alloc ?_ _) | (with_reducible refine Bx.far2 ?_ (by first | (dsimp only; omega) | omega | (simp; done) | (simp; omega) | omega) (by first | (dsimp only; omega) | omega | (simp; done) | (simp; omega) | omega) _)))); have y0 := Y0.lt; (have L1 := Lib.hid (K1.out.below hb)); (have K2 := Lib.hid C2); (have K0 := Lib.hid (K0.out.below hb)); clear C2 hb) | (go_at_call 7; with_reducible refine (same_intsB L1.out K2.out hn2 hn2).mono ?_; rintro e w3 ⟨rfl, hb⟩; have Y0 : Bx w g0 #[.int .i64 x0, .int .i64 x1] w3 := (by (repeat (first | (with_reducible assumption) | (exact (by with_reducible assumption : (_ : World).cell? ⟨g0, 0, none⟩ = some (.int .i64 x0) ∧ (_ : World).cell? ⟨g0, 1, none⟩ = some (.int .i64 x1) ∧ g0 < (_ : World).heap.size ∧ Bx w g0 #[.int .i64 x0, .int .i64 x1] (_ : World)).2.2.2) | (with_reducible refine Bx.call ?_ hb) | (with_reducible refine Bx.drew ?_) | (with_reducible refine Bx.alloc ?_ _) | (with_reducible refine Bx.far2 ?_ (by first | (dsimp only; omega) | omega | (simp; done) | (simp; omega) | omega) (by first | (dsimp only; omega) | omega | (simp; done) | (simp; omega) | omega) _)))); have y0 := Y0.lt; (have K0 := Lib.hid (K0.out.below hb)); clear hb) | (go_at_call 11; with_reducible refine (H3.out _ Y0.bel).mono ?_; rintro e w4 ⟨g4, rfl, C4, hb⟩; have Y0 : Bx w g0 #[.int .i64 x0, .int .i64 x1] w4 := (by (repeat (first | (with_reducible assumption) | (exact (by with_reducible assumption : (_ : World).cell? ⟨g0, 0, none⟩ = some (.int .i64 x0) ∧ (_ : World).cell? ⟨g0, 1, none⟩ = some (.int .i64 x1) ∧ g0 < (_ : World).heap.size ∧ Bx w g0 #[.int .i64 x0, .int .i64 x1] (_ : World)).2.2.2) | (with_reducible refine Bx.call ?_ hb) | (with_reducible refine Bx.drew ?_) | (with_reducible refine Bx.alloc ?_ _) | (with_reducible refine Bx.far2 ?_ (by first | (dsimp only; omega) | omega | (simp; done) | (simp; omega) | omega) (by first | (dsimp only; omega) | omega | (simp; done) | (simp; omega) | omega) _)))); have y0 := Y0.lt; (have K4 := Lib.hid C4.truths); (have K0 := Lib.hid (K0.out.below hb)); clear C4 hb) | (go_at_call 12; with_reducible refine (H4.out _ Y0.bel).mono ?_; rintro e w5 ⟨B5, d5, rfl, hd5, C5, hb⟩; have Y0 : Bx w g0 #[.int .i64 x0, .int .i64 x1] w5 := (by (repeat (first | (with_reducible assumption) | (exact (by with_reducible assumption : (_ : World).cell? ⟨g0, 0, none⟩ = some (.int .i64 x0) ∧ (_ : World).cell? ⟨g0, 1, none⟩ = some (.int .i64 x1) ∧ g0 < (_ : World).heap.size ∧ Bx w g0 #[.int .i64 x0, .int .i64 x1] (_ : World)).2.2.2) | (with_reducible refine Bx.call ?_ hb) | (with_reducible refine Bx.drew ?_) | (with_reducible refine Bx.alloc ?_ _) | (with_reducible refine Bx.far2 ?_ (by first | (dsimp only; omega) | omega | (simp; done) | (simp; omega) | omega) (by first | (dsimp only; omega) | omega | (simp; done) | (simp; omega) | omega) _)))); have y0 := Y0.lt; (have L4 := Lib.hid (K4.out.below hb)); (have K5 := Lib.hid C5); (have K0 := Lib.hid (K0.out.below hb)); clear C5 hb) | (go_at_call 10; with_reducible refine (bools_same hn3 L4.out K5.out).mono ?_; rintro e w6 ⟨rfl, hb⟩; have Y0 : Bx w g0 #[.int .i64 x0, .int .i64 x1] w6 := (by (repeat (first | (with_reducible assumption) | (exact (by with_reducible assumption : (_ : World).cell? ⟨g0, 0, none⟩ = some (.int .i64 x0) ∧ (_ : World).cell? ⟨g0, 1, none⟩ = some (.int .i64 x1) ∧ g0 < (_ : World).heap.size ∧ Bx w g0 #[.int .i64 x0, .int .i64 x1] (_ : World)).2.2.2) | (with_reducible refine Bx.call ?_ hb) | (with_reducible refine Bx.drew ?_) | (with_reducible refine Bx.alloc ?_ _) | (with_reducible refine Bx.far2 ?_ (by first | (dsimp only; omega) | omega | (simp; done) | (simp; omega) | omega) (by first | (dsimp only; omega) | omega | (simp; done) | (simp; omega) | omega) _)))); have y0 := Y0.lt; (have K0 := Lib.hid (K0.out.below hb)); clear hb) | (go_at_call 13; with_reducible refine (H5.out _ Y0.bel).mono ?_; rintro e w7 ⟨g7, rfl, wg7, C7, hb⟩; have Y0 : Bx w g0 #[.int .i64 x0, .int .i64 x1] w7 := (by (repeat (first | (with_reducible assumption) | (exact (by with_reducible assumption : (_ : World).cell? ⟨g0, 0, none⟩ = some (.int .i64 x0) ∧ (_ : World).cell? ⟨g0, 1, none⟩ = some (.int .i64 x1) ∧ g0 < (_ : World).heap.size ∧ Bx w g0 #[.int .i64 x0, .int .i64 x1] (_ : World)).2.2.2) | (with_reducible refine Bx.call ?_ hb) | (with_reducible refine Bx.drew ?_) | (with_reducible refine Bx.alloc ?_ _) | (with_reducible refine Bx.far2 ?_ (by first | (dsimp only; omega) | omega | (simp; done) | (simp; omega) | omega) (by first | (dsimp only; omega) | omega | (simp; done) | (simp; omega) | omega) _)))); have y0 := Y0.lt; (have K7 := Lib.hid C7.truths); (have K0 := Lib.hid (K0.out.below hb)); clear C7 hb wg7) | (go_at_call 14; with_reducible refine (H6.out _ Y0.bel).mono ?_; rintro e w8 ⟨B8, d8, rfl, hd8, C8, hb⟩; have Y0 : Bx w g0 #[.int .i64 x0, .int .i64 x1] w8 := (by (repeat (first | (with_reducible assumption) | (exact (by with_reducible assumption : (_ : World).cell? ⟨g0, 0, none⟩ = some (.int .i64 x0) ∧ (_ : World).cell? ⟨g0, 1, none⟩ = some (.int .i64 x1) ∧ g0 < (_ : World).heap.size ∧ Bx w g0 #[.int .i64 x0, .int .i64 x1] (_ : World)).2.2.2) | (with_reducible refine Bx.call ?_ hb) | (with_reducible refine Bx.drew ?_) | (with_reducible refine Bx.alloc ?_ _) | (with_reducible refine Bx.far2 ?_ (by first | (dsimp only; omega) | omega | (simp; done) | (simp; omega) | omega) (by first | (dsimp only; omega) | omega | (simp; done) | (simp; omega) | omega) _)))); have y0 := Y0.lt; (have L7 := Lib.hid (K7.out.below hb)); (have K8 := Lib.hid C8); (have K0 := Lib.hid (K0.out.below hb)); clear C8 hb) | (go_at_call 10; with_reducible refine (bools_same hm3 L7.out K8.out).mono ?_; rintro e w9 ⟨rfl, hb⟩; have Y0 : Bx w g0 #[.int .i64 x0, .int .i64 x1] w9 := (by (repeat (first | (with_reducible assumption) | (exact (by with_reducible assumption : (_ : World).cell? ⟨g0, 0, none⟩ = some (.int .i64 x0) ∧ (_ : World).cell? ⟨g0, 1, none⟩ = some (.int .i64 x1) ∧ g0 < (_ : World).heap.size ∧ Bx w g0 #[.int .i64 x0, .int .i64 x1] (_ : World)).2.2.2) | (with_reducible refine Bx.call ?_ hb) | (with_reducible refine Bx.drew ?_) | (with_reducible refine Bx.alloc ?_ _) | (with_reducible refine Bx.far2 ?_ (by first | (dsimp only; omega) | omega | (simp; done) | (simp; omega) | omega) (by first | (dsimp only; omega) | omega | (simp; done) | (simp; omega) | omega) _)))); have y0 := Y0.lt; (have K0 := Lib.hid (K0.out.below hb)); clear hb) | (go_at_call 15; with_reducible refine (H7.out _ Y0.bel).mono ?_; rintro e wX ⟨BX, dX, rfl, hdX, CX, hb⟩; have Y0 : Bx w g0 #[.int .i64 x0, .int .i64 x1] wX := (by (repeat (first | (with_reducible assumption) | (exact (by with_reducible assumption : (_ : World).cell? ⟨g0, 0, none⟩ = some (.int .i64 x0) ∧ (_ : World).cell? ⟨g0, 1, none⟩ = some (.int .i64 x1) ∧ g0 < (_ : World).heap.size ∧ Bx w g0 #[.int .i64 x0, .int .i64 x1] (_ : World)).2.2.2) | (with_reducible refine Bx.call ?_ hb) | (with_reducible refine Bx.drew ?_) | (with_reducible refine Bx.alloc ?_ _) | (with_reducible refine Bx.far2 ?_ (by first | (dsimp only; omega) | omega | (simp; done) | (simp; omega) | omega) (by first | (dsimp only; omega) | omega | (simp; done) | (simp; omega) | omega) _)))); have y0 := Y0.lt; (have KX := Lib.hid CX); (have K0 := Lib.hid (K0.out.below hb)); clear CX hb) | (go_at_call 7; with_reducible refine (same_intsB K0.out KX.out hdl hdl).mono ?_; rintro e wY ⟨rfl, hb⟩; have Y0 : Bx w g0 #[.int .i64 x0, .int .i64 x1] wY := (by (repeat (first | (with_reducible assumption) | (exact (by with_reducible assumption : (_ : World).cell? ⟨g0, 0, none⟩ = some (.int .i64 x0) ∧ (_ : World).cell? ⟨g0, 1, none⟩ = some (.int .i64 x1) ∧ g0 < (_ : World).heap.size ∧ Bx w g0 #[.int .i64 x0, .int .i64 x1] (_ : World)).2.2.2) | (with_reducible refine Bx.call ?_ hb) | (with_reducible refine Bx.drew ?_) | (with_reducible refine Bx.alloc ?_ _) | (with_reducible refine Bx.far2 ?_ (by first | (dsimp only; omega) | omega | (simp; done) | (simp; omega) | omega) (by first | (dsimp only; omega) | omega | (simp; done) | (simp; omega) | omega) _)))); have y0 := Y0.lt; (have K0 := Lib.hid (K0.out.below hb)); clear hb) | (go_at_call 16; with_reducible refine (sp_between B _ dd ds x0 x1 _ K0.out hdl).mono ?_; rintro e wZ ⟨rfl, rfl⟩) | (go_at_call 17; with_reducible refine (rs_between B _ dd ds x0 x1 _ K0.out hdl).mono ?_; rintro e wZ ⟨rfl, rfl⟩) | (go_at_call 5; refine (law23_awake _).mono ?_; rintro e wq ⟨rfl, hb⟩; have Y0 : Bx w g0 #[.int .i64 x0, .int .i64 x1] wq := (by (repeat (first | (with_reducible assumption) | (exact (by with_reducible assumption : (_ : World).cell? ⟨g0, 0, none⟩ = some (.int .i64 x0) ∧ (_ : World).cell? ⟨g0, 1, none⟩ = some (.int .i64 x1) ∧ g0 < (_ : World).heap.size ∧ Bx w g0 #[.int .i64 x0, .int .i64 x1] (_ : World)).2.2.2) | (with_reducible refine Bx.call ?_ hb) | (with_reducible refine Bx.drew ?_) | (with_reducible refine Bx.alloc ?_ _) | (with_reducible refine Bx.far2 ?_ (by first | (dsimp only; omega) | omega | (simp; done) | (simp; omega) | omega) (by first | (dsimp only; omega) | omega | (simp; done) | (simp; omega) | omega) _)))); have y0 := Y0.lt; clear hb))
      all_goals go_wp2_with (fail)
      all_goals go_ret
      all_goals exact ⟨rfl, Y0.bel⟩

set_option maxRecDepth 100000 in
theorem lifted (os : Os) (started : os.Started) (H : Type) (enc : TypeId × Value → H) :
    ReturnsInHanded {} Try.checked os 3 .any (Rows.specSaysSpec.pre6 enc Try.prog Try.f3 Rows.specSaysRow.domain false) (Rows.specSaysSpec.post enc Try.prog Try.f3 false true false false) := by
  refine law_lift started (by kernel_rfl) Try.func3 rfl rfl ?_ (by kernel_rfl)
    (ChangeSpec.witness6 (enc := enc) (C := Try.checked) false ⟨#[], #[.slice none 0 0, .slice none 0 0, .agg #[.int .i64 0, .int .i64 0]], []⟩ 8 (by kernel_rfl) (by kernel_rfl) (by kernel_rfl) (by kernel_rfl)) ?_
  · intro ds hl
    match ds, hl with
    | [_, _, _], _ => exact ⟨rfl, rfl, rfl⟩
  · intro W base args ds p hval hA hlt hwt
    rw [Try.params3] at hA hval hwt
    obtain ⟨v0, vs0, d0, ds0, p0, q0, hargs, rfl, rfl, h0, r0⟩ := trodAll_cons hA
    obtain ⟨v1, vs1, d1, ds1, p1, q1, rfl, rfl, rfl, h1, r1⟩ := trodAll_cons r0
    obtain ⟨v2, vs2, d2, ds2, p2, q2, rfl, rfl, rfl, h2, r2⟩ := trodAll_cons r1
    obtain ⟨rfl, rfl, rfl⟩ := trodAll_nil r2
    obtain rfl : args = #[v0, v1, v2] := by cases args; simp_all
    have wt0 : ∀ n ∈ d0.weights Try.prog 22, n ≤ reachBytes := fun n hn => by
      have := List.all_eq_true.1 hwt n (DataW.weights_mem_each (j := 0) (t := 22) (d := d0) rfl rfl n hn)
      simpa using this
    have lt0 : ∀ x ∈ p0, x.block < W.heap.size := fun x hx => hlt x (by simp [hx])
    obtain ⟨A0, n0, c0, xs0, rfl, hi0, hc0, hr0, w0⟩ := open_ints_arg Try.underlying22 Try.underlying3 (by kernel_rfl) (by kernel_rfl) (hval 0 22 v0 rfl rfl) h0 lt0 wt0
    have wt1 : ∀ n ∈ d1.weights Try.prog 23, n ≤ reachBytes := fun n hn => by
      have := List.all_eq_true.1 hwt n (DataW.weights_mem_each (j := 1) (t := 23) (d := d1) rfl rfl n hn)
      simpa using this
    have lt1 : ∀ x ∈ p1, x.block < W.heap.size := fun x hx => hlt x (by simp [hx])
    obtain ⟨A1, n1, c1, xs1, rfl, hi1, hc1, hr1⟩ := open_rows_arg (nb := 1) 5 [.bool] Try.underlying23 (by kernel_rfl) (by kernel_rfl) (by decide) (by kernel_rfl) (hval 1 23 v1 rfl rfl) h1 lt1 wt1
    obtain ⟨xs2, rfl, l2, w2⟩ := open_int_cells Try.underlying24 Try.underlying3 (by kernel_rfl) (by kernel_rfl) (hval 2 24 v2 rfl rfl) h2
    match xs2, l2, w2 with
    | [x2_0, x2_1], _, w2 =>
    exact walk W A0 n0 c0 xs0 hi0 hc0 hr0 w0 A1 n1 c1 xs1 hi1 hc1 hr1 x2_0 (w2 _ (by simp)) x2_1 (w2 _ (by simp))

theorem over : Rows.specSaysRow.holds Try.pinned (OpenSpec.ofChange Rows.specSaysSpec) :=
  OpenClaim.holds_of_wide 3 Try.f3 rfl rfl rfl rfl rfl rfl rfl ⟨rfl, rfl, rfl, rfl, rfl⟩ rfl rfl rfl rfl rfl (by kernel_rfl) Try.func3 (by kernel_rfl)
    (of_decide_eq_true (by kernel_rfl)) (by unfold Func.isWrapper; first | (rw [if_pos (by decide +kernel)]; kernel_rfl) | (rw [if_neg (by decide +kernel)]; exact ⟨rfl, rfl⟩))
    (fun os started H enc _ => lifted os started H enc)

theorem proved : Rows.SpecSaysSaid := over
#print axioms proved
end Go.Proofs.Ytmgbegmhanbcnaa.specSays
