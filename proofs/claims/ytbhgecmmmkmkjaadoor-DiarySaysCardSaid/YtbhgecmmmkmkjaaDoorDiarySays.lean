/- DiarySays holds of every list of notes, every note and every tick: what is kept, the text and what was since are the document's. No condition. -/
import Derived.Test.YtbhgecmmmkmkjaaDoorLaid
import Derived.Test.YtbhgecmmmkmkjaaDoorCards
import Derived.Test.YtbhgecmmmkmkjaaDoorTie
import Derived.Test.YtbhgecmmmkmkjaaDoorLaw44
import Derived.Test.YtbhgecmmmkmkjaaDoorBx
import Derived.Deep.RegionHeld3
import Derived.Deep.DrawnRows
namespace Go.Proofs.YtbhgecmmmkmkjaaDoor.diarySays
open Go.ChangeShapes Go.WideShapes Go.ChangeAt Go.RowKit
set_option linter.unusedVariables false
set_option linter.unusedSimpArgs false
set_option maxRecDepth 100000
attribute [local go_sem] cell_set_ite Near.cell Near.frozen
attribute [local go_sem ↓] Go.wp_at_zero Go.wp_at_succ

set_option maxHeartbeats 8000000 in
theorem walk (w : World) (A : Option Addr) (n c : Nat) (rs : List (List Value)) (hi : Rows [.int .i64, .int .i64, .int .i64] w A n rs) (hc : n ≤ c) (hr : n * 24 ≤ 140737488351232)
    (xt : Int) (wt : (Lit.int .i64 xt).wf = true) (xw : Int) (ww : (Lit.int .i64 xw).wf = true) (xa : Int) (wa : (Lit.int .i64 xa).wf = true) (tick : Int) (wk : (Lit.int .i64 tick).wf = true) (hL : laidMetH Tryd.prog Rows.diarySaysRow.laid w) :
    Calls Tryd.prog 5 #[.slice A n c, .agg #[.int .i64 xt, .int .i64 xw, .int .i64 xa], .int .i64 tick] w fun e w' => e = .returned (.bool true) ∧ Below w.heap.size w w' := by
  obtain ⟨l, hl⟩ := Notes.of_rows hi
  obtain ⟨ht, hw⟩ := dia_tabs hL (by kernel_rfl) (by kernel_rfl)
  have it := i64_wf wt
  have ia := i64_wf wa
  clear hi hL wt ww wa wk hr
  have H7 := Lib.hid (fun W (h : Below w.heap.size w W) => law44_awake W (ht.stays h) (hw.stays h))
  have BX := box_new w #[.int .i64 xt, .int .i64 xw, .int .i64 xa] 31
  have BA := below_alloc_on (Below.refl w.heap.size w) (.cells #[.int .i64 xt, .int .i64 xw, .int .i64 xa] 31)
  by_cases hn : 100 < n
  · have t0 : decide (100 < (n : Int)) = true := decide_eq_true (by omega)
    have H := Lib.hid (H7.out _ BA)
    clear hl ht hw BX hn it ia H7
    go_enter Tryd.func5, Tryd.ntmps5
    go_wp2_with (fail)
    refine H.out.mono ?_
    rintro e w' ⟨rfl, hb⟩
    go_wp2
    all_goals go_ret
    all_goals exact ⟨rfl, below_call BA hb⟩
  · have t0 : decide (100 < (n : Int)) = false := decide_eq_false (by omega)
    obtain ⟨L, hL⟩ : ∃ L, pushN l ⟨xt, xw, xa⟩ = L := ⟨_, rfl⟩
    obtain ⟨m, hLm⟩ : ∃ m, L.length = m := ⟨_, rfl⟩
    have hm : m ≤ 100000 := by
      rw [← hLm, ← hL]; unfold pushN; simp; have := hl.1; omega
    obtain ⟨L2, hL2⟩ : ∃ L2, sinceL l tick n = L2 := ⟨_, rfl⟩
    obtain ⟨m2, hLm2⟩ : ∃ m2, L2.length = m2 := ⟨_, rfl⟩
    have hm2 : m2 ≤ 100000 := by
      rw [← hLm2, ← hL2]; have := sinceL_len l tick n; omega
    have H1 := Lib.hid (fun W (h : Below w.heap.size w W) => push_as A n c l L m xt xw xa W (hl.below h) hc (by omega) hL hLm)
    have H2 := Lib.hid (fun W (h : Below w.heap.size w W) => rpush_as A n c l L m xt xw xa W (hl.below h) (by omega) hL hLm)
    have H3 := Lib.hid (fun W (h : Below w.heap.size w W) => di_text xt xw xa W it ia (ht.stays h) (hw.stays h))
    have H4 := Lib.hid (fun W (h : Below w.heap.size w W) => rd_text xt xw xa W it ia (ht.stays h))
    have H5 := Lib.hid (fun W (h : Below w.heap.size w W) => since_as A n c l L2 m2 tick W (hl.below h) (by omega) hL2 hLm2)
    have H6 := Lib.hid (fun W (h : Below w.heap.size w W) => rsince_as A n c l L2 m2 tick W (hl.below h) (by omega) hL2 hLm2)
    obtain ⟨g0, hg0⟩ : ∃ g0, w.heap.size = g0 := ⟨_, rfl⟩
    have og : w.heap.size ≤ g0 := by omega
    rw [hg0] at BX
    clear hl ht hw hn it ia hL hLm hL2 hLm2
    generalize txV ⟨xt, xw, xa⟩ = T at *
    go_enter Tryd.func5, Tryd.ntmps5
    go_upto_region 3 with (fail)
    (try simp only [hg0])
    clear hg0
    generalize w.alloc (.cells #[.int .i64 xt, .int .i64 xw, .int .i64 xa] 31) = wr at *
    have X0 : Bx w g0 #[.int .i64 xt, .int .i64 xw, .int .i64 xa] wr := ⟨BX, BA, og⟩
    clear BX
    go_region_held3 (fun w' => w'.cell? ⟨g0, 0, none⟩ = some (.int .i64 xt) ∧ w'.cell? ⟨g0, 1, none⟩ = some (.int .i64 xw) ∧ w'.cell? ⟨g0, 2, none⟩ = some (.int .i64 xa) ∧ g0 < w'.heap.size ∧ Bx w g0 #[.int .i64 xt, .int .i64 xw, .int .i64 xa] w')
      ((exact ⟨Bx.cell (W := w) (g := g0) (cs := #[.int .i64 xt, .int .i64 xw, .int .i64 xa]) (by (repeat (first | (with_reducible assumption) | (exact (by with_reducible assumption : (_ : World).cell? ⟨g0, 0, none⟩ = some (.int .i64 xt) ∧ (_ : World).cell? ⟨g0, 1, none⟩ = some (.int .i64 xw) ∧ (_ : World).cell? ⟨g0, 2, none⟩ = some (.int .i64 xa) ∧ g0 < (_ : World).heap.size ∧ Bx w g0 #[.int .i64 xt, .int .i64 xw, .int .i64 xa] (_ : World)).2.2.2.2) | (with_reducible refine Bx.call ?_ hb) | (with_reducible refine Bx.drew ?_) | (with_reducible refine Bx.alloc ?_ _) | (with_reducible refine Bx.far2 ?_ (by first | (dsimp only; omega) | omega | (simp; done) | (simp; omega) | omega) (by first | (dsimp only; omega) | omega | (simp; done) | (simp; omega) | omega) _)))) 0 _ rfl, Bx.cell (W := w) (g := g0) (cs := #[.int .i64 xt, .int .i64 xw, .int .i64 xa]) (by (repeat (first | (with_reducible assumption) | (exact (by with_reducible assumption : (_ : World).cell? ⟨g0, 0, none⟩ = some (.int .i64 xt) ∧ (_ : World).cell? ⟨g0, 1, none⟩ = some (.int .i64 xw) ∧ (_ : World).cell? ⟨g0, 2, none⟩ = some (.int .i64 xa) ∧ g0 < (_ : World).heap.size ∧ Bx w g0 #[.int .i64 xt, .int .i64 xw, .int .i64 xa] (_ : World)).2.2.2.2) | (with_reducible refine Bx.call ?_ hb) | (with_reducible refine Bx.drew ?_) | (with_reducible refine Bx.alloc ?_ _) | (with_reducible refine Bx.far2 ?_ (by first | (dsimp only; omega) | omega | (simp; done) | (simp; omega) | omega) (by first | (dsimp only; omega) | omega | (simp; done) | (simp; omega) | omega) _)))) 1 _ rfl, Bx.cell (W := w) (g := g0) (cs := #[.int .i64 xt, .int .i64 xw, .int .i64 xa]) (by (repeat (first | (with_reducible assumption) | (exact (by with_reducible assumption : (_ : World).cell? ⟨g0, 0, none⟩ = some (.int .i64 xt) ∧ (_ : World).cell? ⟨g0, 1, none⟩ = some (.int .i64 xw) ∧ (_ : World).cell? ⟨g0, 2, none⟩ = some (.int .i64 xa) ∧ g0 < (_ : World).heap.size ∧ Bx w g0 #[.int .i64 xt, .int .i64 xw, .int .i64 xa] (_ : World)).2.2.2.2) | (with_reducible refine Bx.call ?_ hb) | (with_reducible refine Bx.drew ?_) | (with_reducible refine Bx.alloc ?_ _) | (with_reducible refine Bx.far2 ?_ (by first | (dsimp only; omega) | omega | (simp; done) | (simp; omega) | omega) (by first | (dsimp only; omega) | omega | (simp; done) | (simp; omega) | omega) _)))) 2 _ rfl, Bx.lt (W := w) (g := g0) (cs := #[.int .i64 xt, .int .i64 xw, .int .i64 xa]) (by (repeat (first | (with_reducible assumption) | (exact (by with_reducible assumption : (_ : World).cell? ⟨g0, 0, none⟩ = some (.int .i64 xt) ∧ (_ : World).cell? ⟨g0, 1, none⟩ = some (.int .i64 xw) ∧ (_ : World).cell? ⟨g0, 2, none⟩ = some (.int .i64 xa) ∧ g0 < (_ : World).heap.size ∧ Bx w g0 #[.int .i64 xt, .int .i64 xw, .int .i64 xa] (_ : World)).2.2.2.2) | (with_reducible refine Bx.call ?_ hb) | (with_reducible refine Bx.drew ?_) | (with_reducible refine Bx.alloc ?_ _) | (with_reducible refine Bx.far2 ?_ (by first | (dsimp only; omega) | omega | (simp; done) | (simp; omega) | omega) (by first | (dsimp only; omega) | omega | (simp; done) | (simp; omega) | omega) _)))), (by (repeat (first | (with_reducible assumption) | (exact (by with_reducible assumption : (_ : World).cell? ⟨g0, 0, none⟩ = some (.int .i64 xt) ∧ (_ : World).cell? ⟨g0, 1, none⟩ = some (.int .i64 xw) ∧ (_ : World).cell? ⟨g0, 2, none⟩ = some (.int .i64 xa) ∧ g0 < (_ : World).heap.size ∧ Bx w g0 #[.int .i64 xt, .int .i64 xw, .int .i64 xa] (_ : World)).2.2.2.2) | (with_reducible refine Bx.call ?_ hb) | (with_reducible refine Bx.drew ?_) | (with_reducible refine Bx.alloc ?_ _) | (with_reducible refine Bx.far2 ?_ (by first | (dsimp only; omega) | omega | (simp; done) | (simp; omega) | omega) (by first | (dsimp only; omega) | omega | (simp; done) | (simp; omega) | omega) _))))⟩))
      (first | (go_at_call 14; with_reducible refine (H1.out _ (by (repeat (first | (with_reducible exact Below.refl _ _) | (with_reducible assumption) | (with_reducible refine Near.up _ ?_) | (with_reducible refine Below.drew ?_) | (with_reducible refine below_alloc_on ?_ _) | (with_reducible refine below_set_on ?_ (by first | (simp; done) | (simp; omega) | omega) _))))).mono ?_; rintro e w1 ⟨B1, d1, rfl, hd1, C1, hb⟩; have Y0 : Bx w g0 #[.int .i64 xt, .int .i64 xw, .int .i64 xa] w1 := (by (repeat (first | (with_reducible assumption) | (exact (by with_reducible assumption : (_ : World).cell? ⟨g0, 0, none⟩ = some (.int .i64 xt) ∧ (_ : World).cell? ⟨g0, 1, none⟩ = some (.int .i64 xw) ∧ (_ : World).cell? ⟨g0, 2, none⟩ = some (.int .i64 xa) ∧ g0 < (_ : World).heap.size ∧ Bx w g0 #[.int .i64 xt, .int .i64 xw, .int .i64 xa] (_ : World)).2.2.2.2) | (with_reducible refine Bx.call ?_ hb) | (with_reducible refine Bx.drew ?_) | (with_reducible refine Bx.alloc ?_ _) | (with_reducible refine Bx.far2 ?_ (by first | (dsimp only; omega) | omega | (simp; done) | (simp; omega) | omega) (by first | (dsimp only; omega) | omega | (simp; done) | (simp; omega) | omega) _)))); have y0 := Y0.lt; (have K1 := Lib.hid C1); clear C1 hb) | (go_at_call 15; with_reducible refine (H2.out _ Y0.bel).mono ?_; rintro e w2 ⟨B2, d2, rfl, hd2, C2, hb⟩; have Y0 : Bx w g0 #[.int .i64 xt, .int .i64 xw, .int .i64 xa] w2 := (by (repeat (first | (with_reducible assumption) | (exact (by with_reducible assumption : (_ : World).cell? ⟨g0, 0, none⟩ = some (.int .i64 xt) ∧ (_ : World).cell? ⟨g0, 1, none⟩ = some (.int .i64 xw) ∧ (_ : World).cell? ⟨g0, 2, none⟩ = some (.int .i64 xa) ∧ g0 < (_ : World).heap.size ∧ Bx w g0 #[.int .i64 xt, .int .i64 xw, .int .i64 xa] (_ : World)).2.2.2.2) | (with_reducible refine Bx.call ?_ hb) | (with_reducible refine Bx.drew ?_) | (with_reducible refine Bx.alloc ?_ _) | (with_reducible refine Bx.far2 ?_ (by first | (dsimp only; omega) | omega | (simp; done) | (simp; omega) | omega) (by first | (dsimp only; omega) | omega | (simp; done) | (simp; omega) | omega) _)))); have y0 := Y0.lt; (have L1 := Lib.hid (K1.out.below hb)); (have K2 := Lib.hid C2); clear C2 hb) | (go_at_call 13; with_reducible refine (di_same B1 B2 m d1 d2 L _ L1.out K2.out hm).mono ?_; rintro e w3 ⟨rfl, hb⟩; have Y0 : Bx w g0 #[.int .i64 xt, .int .i64 xw, .int .i64 xa] w3 := (by (repeat (first | (with_reducible assumption) | (exact (by with_reducible assumption : (_ : World).cell? ⟨g0, 0, none⟩ = some (.int .i64 xt) ∧ (_ : World).cell? ⟨g0, 1, none⟩ = some (.int .i64 xw) ∧ (_ : World).cell? ⟨g0, 2, none⟩ = some (.int .i64 xa) ∧ g0 < (_ : World).heap.size ∧ Bx w g0 #[.int .i64 xt, .int .i64 xw, .int .i64 xa] (_ : World)).2.2.2.2) | (with_reducible refine Bx.call ?_ hb) | (with_reducible refine Bx.drew ?_) | (with_reducible refine Bx.alloc ?_ _) | (with_reducible refine Bx.far2 ?_ (by first | (dsimp only; omega) | omega | (simp; done) | (simp; omega) | omega) (by first | (dsimp only; omega) | omega | (simp; done) | (simp; omega) | omega) _)))); have y0 := Y0.lt; clear hb) | (go_at_call 16; with_reducible refine (H3.out _ Y0.bel).mono ?_; rintro e w4 ⟨rfl, hb⟩; have Y0 : Bx w g0 #[.int .i64 xt, .int .i64 xw, .int .i64 xa] w4 := (by (repeat (first | (with_reducible assumption) | (exact (by with_reducible assumption : (_ : World).cell? ⟨g0, 0, none⟩ = some (.int .i64 xt) ∧ (_ : World).cell? ⟨g0, 1, none⟩ = some (.int .i64 xw) ∧ (_ : World).cell? ⟨g0, 2, none⟩ = some (.int .i64 xa) ∧ g0 < (_ : World).heap.size ∧ Bx w g0 #[.int .i64 xt, .int .i64 xw, .int .i64 xa] (_ : World)).2.2.2.2) | (with_reducible refine Bx.call ?_ hb) | (with_reducible refine Bx.drew ?_) | (with_reducible refine Bx.alloc ?_ _) | (with_reducible refine Bx.far2 ?_ (by first | (dsimp only; omega) | omega | (simp; done) | (simp; omega) | omega) (by first | (dsimp only; omega) | omega | (simp; done) | (simp; omega) | omega) _)))); have y0 := Y0.lt; clear hb) | (go_at_call 17; with_reducible refine (H4.out _ Y0.bel).mono ?_; rintro e w5 ⟨rfl, hb⟩; have Y0 : Bx w g0 #[.int .i64 xt, .int .i64 xw, .int .i64 xa] w5 := (by (repeat (first | (with_reducible assumption) | (exact (by with_reducible assumption : (_ : World).cell? ⟨g0, 0, none⟩ = some (.int .i64 xt) ∧ (_ : World).cell? ⟨g0, 1, none⟩ = some (.int .i64 xw) ∧ (_ : World).cell? ⟨g0, 2, none⟩ = some (.int .i64 xa) ∧ g0 < (_ : World).heap.size ∧ Bx w g0 #[.int .i64 xt, .int .i64 xw, .int .i64 xa] (_ : World)).2.2.2.2) | (with_reducible refine Bx.call ?_ hb) | (with_reducible refine Bx.drew ?_) | (with_reducible refine Bx.alloc ?_ _) | (with_reducible refine Bx.far2 ?_ (by first | (dsimp only; omega) | omega | (simp; done) | (simp; omega) | omega) (by first | (dsimp only; omega) | omega | (simp; done) | (simp; omega) | omega) _)))); have y0 := Y0.lt; clear hb) | (go_at_call 18; with_reducible refine (H5.out _ Y0.bel).mono ?_; rintro e w6 ⟨B6, d6, rfl, hd6, C6, hb⟩; have Y0 : Bx w g0 #[.int .i64 xt, .int .i64 xw, .int .i64 xa] w6 := (by (repeat (first | (with_reducible assumption) | (exact (by with_reducible assumption : (_ : World).cell? ⟨g0, 0, none⟩ = some (.int .i64 xt) ∧ (_ : World).cell? ⟨g0, 1, none⟩ = some (.int .i64 xw) ∧ (_ : World).cell? ⟨g0, 2, none⟩ = some (.int .i64 xa) ∧ g0 < (_ : World).heap.size ∧ Bx w g0 #[.int .i64 xt, .int .i64 xw, .int .i64 xa] (_ : World)).2.2.2.2) | (with_reducible refine Bx.call ?_ hb) | (with_reducible refine Bx.drew ?_) | (with_reducible refine Bx.alloc ?_ _) | (with_reducible refine Bx.far2 ?_ (by first | (dsimp only; omega) | omega | (simp; done) | (simp; omega) | omega) (by first | (dsimp only; omega) | omega | (simp; done) | (simp; omega) | omega) _)))); have y0 := Y0.lt; (have K6 := Lib.hid C6); clear C6 hb) | (go_at_call 19; with_reducible refine (H6.out _ Y0.bel).mono ?_; rintro e w7 ⟨B7, d7, rfl, hd7, C7, hb⟩; have Y0 : Bx w g0 #[.int .i64 xt, .int .i64 xw, .int .i64 xa] w7 := (by (repeat (first | (with_reducible assumption) | (exact (by with_reducible assumption : (_ : World).cell? ⟨g0, 0, none⟩ = some (.int .i64 xt) ∧ (_ : World).cell? ⟨g0, 1, none⟩ = some (.int .i64 xw) ∧ (_ : World).cell? ⟨g0, 2, none⟩ = some (.int .i64 xa) ∧ g0 < (_ : World).heap.size ∧ Bx w g0 #[.int .i64 xt, .int .i64 xw, .int .i64 xa] (_ : World)).2.2.2.2) | (with_reducible refine Bx.call ?_ hb) | (with_reducible refine Bx.drew ?_) | (with_reducible refine Bx.alloc ?_ _) | (with_reducible refine Bx.far2 ?_ (by first | (dsimp only; omega) | omega | (simp; done) | (simp; omega) | omega) (by first | (dsimp only; omega) | omega | (simp; done) | (simp; omega) | omega) _)))); have y0 := Y0.lt; (have L6 := Lib.hid (K6.out.below hb)); (have K7 := Lib.hid C7); clear C7 hb) | (go_at_call 13; with_reducible refine (di_same B6 B7 m2 d6 d7 L2 _ L6.out K7.out hm2).mono ?_; rintro e w8 ⟨rfl, hb⟩; have Y0 : Bx w g0 #[.int .i64 xt, .int .i64 xw, .int .i64 xa] w8 := (by (repeat (first | (with_reducible assumption) | (exact (by with_reducible assumption : (_ : World).cell? ⟨g0, 0, none⟩ = some (.int .i64 xt) ∧ (_ : World).cell? ⟨g0, 1, none⟩ = some (.int .i64 xw) ∧ (_ : World).cell? ⟨g0, 2, none⟩ = some (.int .i64 xa) ∧ g0 < (_ : World).heap.size ∧ Bx w g0 #[.int .i64 xt, .int .i64 xw, .int .i64 xa] (_ : World)).2.2.2.2) | (with_reducible refine Bx.call ?_ hb) | (with_reducible refine Bx.drew ?_) | (with_reducible refine Bx.alloc ?_ _) | (with_reducible refine Bx.far2 ?_ (by first | (dsimp only; omega) | omega | (simp; done) | (simp; omega) | omega) (by first | (dsimp only; omega) | omega | (simp; done) | (simp; omega) | omega) _)))); have y0 := Y0.lt; clear hb) | (go_at_call 12; with_reducible refine (H7.out _ Y0.bel).mono ?_; rintro e wq ⟨rfl, hb⟩; have Y0 : Bx w g0 #[.int .i64 xt, .int .i64 xw, .int .i64 xa] wq := (by (repeat (first | (with_reducible assumption) | (exact (by with_reducible assumption : (_ : World).cell? ⟨g0, 0, none⟩ = some (.int .i64 xt) ∧ (_ : World).cell? ⟨g0, 1, none⟩ = some (.int .i64 xw) ∧ (_ : World).cell? ⟨g0, 2, none⟩ = some (.int .i64 xa) ∧ g0 < (_ : World).heap.size ∧ Bx w g0 #[.int .i64 xt, .int .i64 xw, .int .i64 xa] (_ : World)).2.2.2.2) | (with_reducible refine Bx.call ?_ hb) | (with_reducible refine Bx.drew ?_) | (with_reducible refine Bx.alloc ?_ _) | (with_reducible refine Bx.far2 ?_ (by first | (dsimp only; omega) | omega | (simp; done) | (simp; omega) | omega) (by first | (dsimp only; omega) | omega | (simp; done) | (simp; omega) | omega) _)))); have y0 := Y0.lt; clear hb))
    all_goals go_wp2_with (fail)
    all_goals go_ret
    all_goals exact ⟨rfl, Y0.bel⟩

theorem door_met (os : Os) (args : Array Value) : laidMetH Tryd.prog Rows.diarySaysRow.laid ((World.doorLaid Tryd.prog 67 os).forCall (fun _ _ => 0) ⟨#[], args, []⟩).memory :=
  laidMetH_of_parts3 (fuel := 8) (laidMet_of_run' 8 (by kernel_rfl) (by kernel_rfl)) (by kernel_rfl) (by kernel_rfl)
set_option maxRecDepth 100000 in
theorem lifted (os : Os) (started : os.Started) (H : Type) (enc : TypeId × Value → H) :
    ReturnsInHanded {} Tryd.checked os 5 .any (fun w args => (Rows.diarySaysSpec.pre enc Tryd.prog Tryd.f5 [] false w args ∧ laidMetH Tryd.prog Rows.diarySaysRow.laid w) ∧ sizedMet enc Tryd.prog Tryd.f5 (OpenSpec.ofChange Rows.diarySaysSpec) false w args) (Rows.diarySaysSpec.post enc Tryd.prog Tryd.f5 false true false false) := by
  refine law_lift_laid (laid := Rows.diarySaysRow.laid) started (by kernel_rfl) Tryd.func5 rfl rfl ?_ (by kernel_rfl)
    (ChangeSpec.witness_shaped (enc := enc) (C := Tryd.checked) (os := os) (X := fun w _ => laidMetH Tryd.prog Rows.diarySaysRow.laid w) false (World.doorLaid Tryd.prog 67 os) #[.slice none 0 0, .agg #[.int .i64 0, .int .i64 0, .int .i64 0], .int .i64 0] 8 rfl (World.shaped_of_RefB (by kernel_rfl) (by kernel_rfl)) (by kernel_rfl) (by kernel_rfl) (by kernel_rfl) (door_met os _)) ?_
  · intro ds hl
    match ds, hl with
    | [_, _, _], _ => exact ⟨rfl, rfl, rfl⟩
  · intro W base args ds p hval hA hlt hwt hL
    rw [Tryd.params5] at hA hval hwt
    obtain ⟨v0, vs0, d0, ds0, p0, q0, hargs, rfl, rfl, h0, r0⟩ := trodAll_cons hA
    obtain ⟨v1, vs1, d1, ds1, p1, q1, rfl, rfl, rfl, h1, r1⟩ := trodAll_cons r0
    obtain ⟨v2, vs2, d2, ds2, p2, q2, rfl, rfl, rfl, h2, r2⟩ := trodAll_cons r1
    obtain ⟨rfl, rfl, rfl⟩ := trodAll_nil r2
    obtain rfl : args = #[v0, v1, v2] := by cases args; simp_all
    have wt0 : ∀ n ∈ d0.weights Tryd.prog 29, n ≤ reachBytes := fun n hn => by
      have := List.all_eq_true.1 hwt n (DataW.weights_mem_each (j := 0) (t := 29) (d := d0) rfl rfl n hn)
      simpa using this
    have lt0 : ∀ x ∈ p0, x.block < W.heap.size := fun x hx => hlt x (by simp [hx])
    obtain ⟨A0, n0, c0, xs0, rfl, hi0, hc0, hr0⟩ := open_rows_arg (nb := 24) 5 [.int .i64, .int .i64, .int .i64] Tryd.underlying29 (by kernel_rfl) (by kernel_rfl) (by decide) (by kernel_rfl) (hval 0 29 v0 rfl rfl) h0 lt0 wt0
    obtain ⟨cs1, rfl, l1, k1⟩ := open_leaves 5 [.int .i64, .int .i64, .int .i64] (by kernel_rfl) (by kernel_rfl) (hval 1 31 v1 rfl rfl) h1
    match cs1, l1, k1 with
    | [y1_0, y1_1, y1_2], _, k1 =>
    obtain ⟨x1_0, e1_0, w1_0⟩ : leafIs (.int .i64) y1_0 := k1 0 _ rfl
    subst e1_0
    obtain ⟨x1_1, e1_1, w1_1⟩ : leafIs (.int .i64) y1_1 := k1 1 _ rfl
    subst e1_1
    obtain ⟨x1_2, e1_2, w1_2⟩ : leafIs (.int .i64) y1_2 := k1 2 _ rfl
    subst e1_2
    obtain ⟨a2, rfl, rfl, rfl, w2⟩ := open_int Tryd.underlying3 (hval 2 3 v2 rfl rfl) h2
    exact walk W A0 n0 c0 xs0 hi0 hc0 hr0 x1_0 w1_0 x1_1 w1_1 x1_2 w1_2 a2 w2 hL

theorem over : Rows.diarySaysRow.holds Tryd.pinned (OpenSpec.ofChange Rows.diarySaysSpec) :=
  OpenClaim.holds_of_wide 5 Tryd.f5 rfl rfl rfl rfl rfl rfl rfl ⟨rfl, rfl, rfl, rfl, rfl⟩ rfl rfl rfl rfl rfl (by kernel_rfl) Tryd.func5 (by kernel_rfl)
    (of_decide_eq_true (by kernel_rfl)) (by unfold Func.isWrapper; first | (rw [if_pos (by decide +kernel)]; kernel_rfl) | (rw [if_neg (by decide +kernel)]; exact ⟨rfl, rfl⟩))
    (fun os started H enc _ => lifted os started H enc)

theorem plain (f : FuncId) (fn : Func) (hf : Tryd.pinned.checked.prog.funcNamed "pinchcock/pinchcocklaw44.DiarySays" = some f) (hfn : Tryd.pinned.checked.prog.funcs[f]? = some fn) :
    true = Tryd.pinned.checked.prog.looks [] ∧ ∀ (j : Nat) t, fn.params[j]? = some t → Tryd.pinned.checked.prog.wantsStandIn t = false := by
  obtain rfl : f = 5 := Option.some.inj ((show Tryd.prog.funcNamed "pinchcock/pinchcocklaw44.DiarySays" = some 5 by kernel_rfl).symm.trans hf) |>.symm
  obtain rfl : fn = Tryd.f5 := (Option.some.inj (Tryd.func5.symm.trans hfn)).symm
  refine ⟨by kernel_rfl, fun j t ht => ?_⟩
  rw [Tryd.params5] at ht
  have hm : t ∈ [29, 31, 3] := by simpa using Array.mem_of_getElem? ht
  have hall : ([29, 31, 3].all fun u => !Tryd.prog.wantsStandIn u) = true := by kernel_rfl
  exact (show Tryd.prog.wantsStandIn t = false by simpa using List.all_eq_true.1 hall t hm)
theorem proved : Rows.DiarySaysCardSaid :=
  Claim7.holds_tied_plain_at .later [] _ _ _ _ over (fun _ h => by cases h) (by kernel_rfl) (fun _ h => by cases h) diarySays_row_tie rfl ⟨rfl, rfl⟩ (by kernel_rfl) rfl plain (by kernel_rfl)
#print axioms proved
end Go.Proofs.YtbhgecmmmkmkjaaDoor.diarySays
