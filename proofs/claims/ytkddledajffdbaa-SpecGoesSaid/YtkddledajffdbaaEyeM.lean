/- Contracts of package eye: the four parts of a tick. -/
import Derived.Test.YtkddledajffdbaaAmb
import Derived.Test.YtkddledajffdbaaComp
import Derived.Test.YtkddledajffdbaaDeb
import Derived.Test.YtkddledajffdbaaRef
import Derived.Test.YtkddledajffdbaaBeamC
import Derived.Test.YtkddledajffdbaaRailsC
import Derived.BigRegion
import Derived.Deep.RegionLaw
import Derived.OwnWalk
import Derived.Laws.OwnMore
namespace Go.Proofs.Ytkddledajffdbaa
set_option maxRecDepth 100000
open Go.RowKit
set_option linter.unusedVariables false
set_option linter.unusedSimpArgs false

/-- But for new blocks, block g alone has turned. -/
def Only (g : Nat) (w w' : World) : Prop := w.grownBy w' (some g)
theorem Only.refl (g : Nat) (w : World) : Only g w w := World.grownBy.refl w _
theorem Only.below {g : Nat} {w x y : World} (h : Only g w x) (hb : Below x.heap.size x y) : Only g w y :=
  ⟨hb.os.trans h.os, hb.tape.trans h.tape, hb.output.trans h.output, Nat.le_trans h.size hb.size, fun k hk hne => (hb.block k (Nat.lt_of_lt_of_le hk h.size)).trans (h.block k hk hne)⟩
theorem Only.set {g : Nat} {w x : World} (h : Only g w x) (i : Nat) (v : Value) : Only g w (x.setCell ⟨g, i, none⟩ v) :=
  ⟨h.os, h.tape, h.output, by rw [size_setCell]; exact h.size, fun k hk hne => (heap_setCell_other x ⟨g, i, none⟩ k v (fun e => hne (by rw [e]))).trans (h.block k hk hne)⟩
theorem Only.drew {g : Nat} {w x : World} (h : Only g w x) : Only g w x.drew := h.below (below_drewN (Below.refl _ _) 1)
theorem Only.alloc {g : Nat} {w x : World} (h : Only g w x) (o : Obj) : Only g w (x.alloc o) := h.below (below_alloc_on (Below.refl _ _) o)
theorem Box.only {w w' : World} {g h : Nat} {cs : Array Value} (hB : Box w h cs) (ho : Only g w w') (hne : h ≠ g) : Box w' h cs := by
  have hk := ho.block h hB.1 (fun e => hne (by injection e))
  exact ⟨Nat.lt_of_lt_of_le hB.1 ho.size, fun i => (World.cell?_of_block (a := ⟨h, i, none⟩) hk).trans (hB.2.1 i), fun i => (World.frozen?_of_block (a := ⟨h, i, none⟩) hk).trans (hB.2.2 i)⟩
theorem below_only {W w w' : World} {g : Nat} (hA : Below W.heap.size W w) (ho : Only g w w') (hg : W.heap.size ≤ g) : Below W.heap.size W w' :=
  ⟨ho.os.trans hA.os, ho.tape.trans hA.tape, ho.output.trans hA.output, Nat.le_trans hA.size ho.size, fun k hk => (ho.block k (Nat.lt_of_lt_of_le hk hA.size) (fun e => by injection e; omega)).trans (hA.block k hk)⟩
theorem Box.eight8 {w : World} {g : Nat} {v0 v1 v2 v3 v4 v5 v6 v7 : Value} (h : Box w g #[v0, v1, v2, v3, v4, v5, v6, v7]) :
    w.cell? ⟨g, 0, none⟩ = some v0 ∧ w.cell? ⟨g, 1, none⟩ = some v1 ∧ w.cell? ⟨g, 2, none⟩ = some v2 ∧ w.cell? ⟨g, 3, none⟩ = some v3 ∧ w.cell? ⟨g, 4, none⟩ = some v4 ∧ w.cell? ⟨g, 5, none⟩ = some v5 ∧ w.cell? ⟨g, 6, none⟩ = some v6 ∧ w.cell? ⟨g, 7, none⟩ = some v7 ∧ (∀ i, w.frozen? ⟨g, i, none⟩ = false) ∧ g < w.heap.size :=
  ⟨h.2.1 0, h.2.1 1, h.2.1 2, h.2.1 3, h.2.1 4, h.2.1 5, h.2.1 6, h.2.1 7, h.2.2, h.1⟩
theorem Box.twelve {w : World} {g : Nat} {v0 v1 v2 v3 v4 v5 v6 v7 v8 v9 v10 v11 : Value} (h : Box w g #[v0, v1, v2, v3, v4, v5, v6, v7, v8, v9, v10, v11]) :
    w.cell? ⟨g, 0, none⟩ = some v0 ∧ w.cell? ⟨g, 1, none⟩ = some v1 ∧ w.cell? ⟨g, 2, none⟩ = some v2 ∧ w.cell? ⟨g, 3, none⟩ = some v3 ∧ w.cell? ⟨g, 4, none⟩ = some v4 ∧ w.cell? ⟨g, 5, none⟩ = some v5 ∧ w.cell? ⟨g, 6, none⟩ = some v6 ∧ w.cell? ⟨g, 7, none⟩ = some v7 ∧ w.cell? ⟨g, 8, none⟩ = some v8 ∧ w.cell? ⟨g, 9, none⟩ = some v9 ∧ w.cell? ⟨g, 10, none⟩ = some v10 ∧ w.cell? ⟨g, 11, none⟩ = some v11 ∧ (∀ i, w.frozen? ⟨g, i, none⟩ = false) ∧ g < w.heap.size :=
  ⟨h.2.1 0, h.2.1 1, h.2.1 2, h.2.1 3, h.2.1 4, h.2.1 5, h.2.1 6, h.2.1 7, h.2.1 8, h.2.1 9, h.2.1 10, h.2.1 11, h.2.2, h.1⟩

/-- The base ahead of a tick; whether it is shaded; the base behind it. -/
def eyB (bg : Bool) (ba a : Int) : Int := if bg = true then ba else 64 * lgV a
def eyS (bg : Bool) (ba a : Int) (sh : Bool) : Bool := shdB (cbV (eyB bg ba a) / 64) a sh
def eyN (b a : Int) (s : Bool) : Int := if s = true then cbV b else amS b a
theorem am_any (b a : Int) (s : Bool) (w : World) : Calls Try.prog 59 #[.int .i64 b, .int .i64 a, .bool s] w fun e w' => e = .returned (.int .i64 (eyN b a s)) ∧ Below w.heap.size w w' := by
  cases s
  · exact am_step_no b a w w (At.refl w)
  · exact am_step_sh b a w w (At.refl w)

attribute [local go_sem] cell_set_ite Near.cell Near.frozen

theorem ey_begin_false (g : Nat) (ba : Int) (sh on : Bool) (rn wt ru ra : Int) (b8 b9 b10 b11 : Bool) (a : Int) (w : World) (G0 : Box w g #[.bool false, .int .i64 ba, .bool sh, .bool on, .int .i64 rn, .int .i64 wt, .int .i64 ru, .int .i64 ra, .bool b8, .bool b9, .bool b10, .bool b11]) :
    Calls Try.prog 36 #[.pointer (some ⟨g, 0, none⟩), .int .i64 a] w fun e w' => (∃ v, e = .returned v) ∧ Box w' g #[.bool true, .int .i64 (64 * lgV a), .bool sh, .bool on, .int .i64 rn, .int .i64 wt, .int .i64 ru, .int .i64 ra, .bool b8, .bool b9, .bool b10, .bool b11] ∧ Only g w w' := by
  obtain ⟨y0, y1, y2, y3, y4, y5, y6, y7, y8, y9, y10, y11, yf, yl⟩ := G0.twelve
  have G1 : Box ((w.setCell ⟨g, 0, none⟩ (.bool true)).setCell ⟨g, 1, none⟩ (.int .i64 (64 * lgV a))) g #[.bool true, .int .i64 (64 * lgV a), .bool sh, .bool on, .int .i64 rn, .int .i64 wt, .int .i64 ru, .int .i64 ra, .bool b8, .bool b9, .bool b10, .bool b11] := (G0.set (i := 0) (by simp) (.bool true)).set (i := 1) (by simp) (.int .i64 (64 * lgV a))
  have O1 : Only g w ((w.setCell ⟨g, 0, none⟩ (.bool true)).setCell ⟨g, 1, none⟩ (.int .i64 (64 * lgV a))) := ((Only.refl g w).set 0 (.bool true)).set 1 (.int .i64 (64 * lgV a))
  go_enter Try.func36, Try.ntmps36
  go_wp2_with (go_at_call 56; refine (am_start _ _).mono ?_; rintro e w' ⟨rfl, rfl⟩)
  go_end0
  exact ⟨⟨_, rfl⟩, G1, O1⟩

theorem ey_begin_true (g : Nat) (ba : Int) (sh on : Bool) (rn wt ru ra : Int) (b8 b9 b10 b11 : Bool) (a : Int) (w : World) (G0 : Box w g #[.bool true, .int .i64 ba, .bool sh, .bool on, .int .i64 rn, .int .i64 wt, .int .i64 ru, .int .i64 ra, .bool b8, .bool b9, .bool b10, .bool b11]) :
    Calls Try.prog 36 #[.pointer (some ⟨g, 0, none⟩), .int .i64 a] w fun e w' => (∃ v, e = .returned v) ∧ Box w' g #[.bool true, .int .i64 ba, .bool sh, .bool on, .int .i64 rn, .int .i64 wt, .int .i64 ru, .int .i64 ra, .bool b8, .bool b9, .bool b10, .bool b11] ∧ Only g w w' := by
  obtain ⟨y0, y1, y2, y3, y4, y5, y6, y7, y8, y9, y10, y11, yf, yl⟩ := G0.twelve
  have G1 : Box w g #[.bool true, .int .i64 ba, .bool sh, .bool on, .int .i64 rn, .int .i64 wt, .int .i64 ru, .int .i64 ra, .bool b8, .bool b9, .bool b10, .bool b11] := G0
  have O1 : Only g w w := Only.refl g w
  go_enter Try.func36, Try.ntmps36
  go_wp2_with (go_at_call 56; refine (am_start _ _).mono ?_; rintro e w' ⟨rfl, rfl⟩)
  go_end0
  exact ⟨⟨_, rfl⟩, G1, O1⟩

set_option maxRecDepth 100000 in
set_option maxHeartbeats 4000000 in
theorem ey_shade (g : Nat) (bg : Bool) (ba : Int) (sh on : Bool) (rn wt ru ra : Int) (b8 b9 b10 b11 : Bool) (a : Int) (w : World) (G0 : Box w g #[.bool bg, .int .i64 ba, .bool sh, .bool on, .int .i64 rn, .int .i64 wt, .int .i64 ru, .int .i64 ra, .bool b8, .bool b9, .bool b10, .bool b11]) (L0 : Int) (SH : Bool) (B1 RU : Int) (ST : Bool)
    (H1 : Hid (∀ w, Calls Try.prog 58 #[.int .i64 ba] w fun e w' => e = .returned (.int .i64 L0) ∧ w = w'))
    (H2 : Hid (∀ w, Calls Try.prog 57 #[.int .i64 L0, .int .i64 a, .bool sh] w fun e w' => e = .returned (.bool SH) ∧ w = w'))
    (H3 : Hid (∀ w, Calls Try.prog 59 #[.int .i64 ba, .int .i64 a, .bool SH] w fun e w' => e = .returned (.int .i64 B1) ∧ Below w.heap.size w w'))
    (H4 : Hid (∀ w, Calls Try.prog 60 #[.int .i64 ru, .bool SH] w fun e w' => e = .returned (.int .i64 RU) ∧ w = w')) (HST : Hid (decide (12 ≤ RU) = ST)) :
    Calls Try.prog 37 #[.pointer (some ⟨g, 0, none⟩), .int .i64 a] w fun e w' => (∃ v, e = .returned v) ∧ Box w' g #[.bool bg, .int .i64 B1, .bool SH, .bool on, .int .i64 rn, .int .i64 wt, .int .i64 RU, .int .i64 ra, .bool b8, .bool SH, .bool ST, .bool b11] ∧ Only g w w' := by
  obtain ⟨y0, y1, y2, y3, y4, y5, y6, y7, y8, y9, y10, y11, yf, yl⟩ := G0.twelve
  have O0 := Only.refl g w
  go_enter Try.func37, Try.ntmps37
  go_wp2
  refine wp_region_calm_tail 17 (by kernel_rfl) (by kernel_rfl) ?_
  simp only [List.take_succ_cons, List.take_zero, List.drop_succ_cons, List.drop_zero]
  repeat (go_big_quiet_step ((first | ((go_at_call 58; exact calm_same _ (H1.out _))) | ((go_at_call 57; exact calm_same _ (H2.out _))))))
  refine wpQuiet_nil ?_
  intro _ hw'
  obtain ⟨u, rfl⟩ := hw'
  go_wp2
  have G1 : Box (u.at_.setCell ⟨g, 2, none⟩ (.bool SH)) g #[.bool bg, .int .i64 ba, .bool SH, .bool on, .int .i64 rn, .int .i64 wt, .int .i64 ru, .int .i64 ra, .bool b8, .bool b9, .bool b10, .bool b11] := ((G0.near u).set (i := 2) (by simp) (.bool SH))
  have O1 : Only g w (u.at_.setCell ⟨g, 2, none⟩ (.bool SH)) := ((O0.below u.below).set 2 (.bool SH))
  generalize (u.at_.setCell ⟨g, 2, none⟩ (.bool SH)) = w1 at *
  clear G0 O0 y0 y1 y2 y3 y4 y5 y6 y7 y8 y9 y10 y11 yf yl
  obtain ⟨y0, y1, y2, y3, y4, y5, y6, y7, y8, y9, y10, y11, yf, yl⟩ := G1.twelve
  refine wp_region_calm_tail 16 (by kernel_rfl) (by kernel_rfl) ?_
  simp only [List.take_succ_cons, List.take_zero, List.drop_succ_cons, List.drop_zero]
  repeat (go_big_quiet_step (((go_at_call 59; exact calm_of _ (H3.out _)))))
  refine wpQuiet_nil ?_
  intro _ hw'
  obtain ⟨u, rfl⟩ := hw'
  go_wp2
  have G2 : Box (u.at_.setCell ⟨g, 1, none⟩ (.int .i64 B1)) g #[.bool bg, .int .i64 B1, .bool SH, .bool on, .int .i64 rn, .int .i64 wt, .int .i64 ru, .int .i64 ra, .bool b8, .bool b9, .bool b10, .bool b11] := ((G1.near u).set (i := 1) (by simp) (.int .i64 B1))
  have O2 : Only g w (u.at_.setCell ⟨g, 1, none⟩ (.int .i64 B1)) := ((O1.below u.below).set 1 (.int .i64 B1))
  generalize (u.at_.setCell ⟨g, 1, none⟩ (.int .i64 B1)) = w2 at *
  clear G1 O1 y0 y1 y2 y3 y4 y5 y6 y7 y8 y9 y10 y11 yf yl
  obtain ⟨y0, y1, y2, y3, y4, y5, y6, y7, y8, y9, y10, y11, yf, yl⟩ := G2.twelve
  refine wp_region_calm_tail 15 (by kernel_rfl) (by kernel_rfl) ?_
  simp only [List.take_succ_cons, List.take_zero, List.drop_succ_cons, List.drop_zero]
  repeat (go_big_quiet_step (((go_at_call 60; exact calm_same _ (H4.out _)))))
  refine wpQuiet_nil ?_
  intro _ hw'
  obtain ⟨u, rfl⟩ := hw'
  go_wp2
  have G3 : Box (u.at_.setCell ⟨g, 6, none⟩ (.int .i64 RU)) g #[.bool bg, .int .i64 B1, .bool SH, .bool on, .int .i64 rn, .int .i64 wt, .int .i64 RU, .int .i64 ra, .bool b8, .bool b9, .bool b10, .bool b11] := ((G2.near u).set (i := 6) (by simp) (.int .i64 RU))
  have O3 : Only g w (u.at_.setCell ⟨g, 6, none⟩ (.int .i64 RU)) := ((O2.below u.below).set 6 (.int .i64 RU))
  generalize (u.at_.setCell ⟨g, 6, none⟩ (.int .i64 RU)) = w3 at *
  clear G2 O2 y0 y1 y2 y3 y4 y5 y6 y7 y8 y9 y10 y11 yf yl
  obtain ⟨y0, y1, y2, y3, y4, y5, y6, y7, y8, y9, y10, y11, yf, yl⟩ := G3.twelve
  have hST := HST.out
  go_region
  have G4 : Box ((w3.setCell ⟨g, 9, none⟩ (.bool SH)).setCell ⟨g, 10, none⟩ (.bool ST)).drew g #[.bool bg, .int .i64 B1, .bool SH, .bool on, .int .i64 rn, .int .i64 wt, .int .i64 RU, .int .i64 ra, .bool b8, .bool SH, .bool ST, .bool b11] := ((G3.set (i := 9) (by simp) (.bool SH)).set (i := 10) (by simp) (.bool ST)).drew
  have O4 : Only g w ((w3.setCell ⟨g, 9, none⟩ (.bool SH)).setCell ⟨g, 10, none⟩ (.bool ST)).drew := ((O3.set 9 (.bool SH)).set 10 (.bool ST)).drew
  generalize ((w3.setCell ⟨g, 9, none⟩ (.bool SH)).setCell ⟨g, 10, none⟩ (.bool ST)).drew = w4 at *
  clear G3 O3 y0 y1 y2 y3 y4 y5 y6 y7 y8 y9 y10 y11 yf yl
  obtain ⟨y0, y1, y2, y3, y4, y5, y6, y7, y8, y9, y10, y11, yf, yl⟩ := G4.twelve
  go_wp2
  go_end0
  exact ⟨⟨_, rfl⟩, G4, O4⟩

set_option maxRecDepth 100000 in
set_option maxHeartbeats 4000000 in
theorem ey_count_false (g : Nat) (bg : Bool) (ba : Int) (sh on : Bool) (rn wt ru ra : Int) (b8 b9 b10 b11 : Bool) (w : World) (G0 : Box w g #[.bool bg, .int .i64 ba, .bool sh, .bool on, .int .i64 rn, .int .i64 wt, .int .i64 ru, .int .i64 ra, .bool b8, .bool b9, .bool b10, .bool b11]) (RN WT : Int) (DR : Bool)
    (H5 : Hid (∀ w, Calls Try.prog 61 #[.agg #[.bool on, .int .i64 rn], .bool sh] w fun e w' => e = .returned (.agg #[.bool false, .int .i64 RN]) ∧ Below w.heap.size w w'))
    (H6 : Hid (∀ w, Calls Try.prog 62 #[.int .i64 wt, .bool false] w fun e w' => e = .returned (.tuple #[.int .i64 WT, .bool DR]) ∧ w = w')) :
    Calls Try.prog 38 #[.pointer (some ⟨g, 0, none⟩)] w fun e w' => (∃ v, e = .returned v) ∧ Box w' g #[.bool bg, .int .i64 ba, .bool sh, .bool false, .int .i64 RN, .int .i64 WT, .int .i64 ru, .int .i64 ra, .bool DR, .bool b9, .bool b10, .bool b11] ∧ Only g w w' := by
  obtain ⟨y0, y1, y2, y3, y4, y5, y6, y7, y8, y9, y10, y11, yf, yl⟩ := G0.twelve
  have O0 := Only.refl g w
  go_enter Try.func38, Try.ntmps38
  go_wp2
  refine wp_region_calm_tail 15 (by kernel_rfl) (by kernel_rfl) ?_
  simp only [List.take_succ_cons, List.take_zero, List.drop_succ_cons, List.drop_zero]
  repeat (go_big_quiet_step (((go_at_call 61; exact calm_of _ (H5.out _)))))
  refine wpQuiet_nil ?_
  intro _ hw'
  obtain ⟨u, rfl⟩ := hw'
  go_wp2
  have G1 : Box ((u.at_.setCell ⟨g, 3, none⟩ (.bool false)).setCell ⟨g, 4, none⟩ (.int .i64 RN)) g #[.bool bg, .int .i64 ba, .bool sh, .bool false, .int .i64 RN, .int .i64 wt, .int .i64 ru, .int .i64 ra, .bool b8, .bool b9, .bool b10, .bool b11] := (((G0.near u).set (i := 3) (by simp) (.bool false)).set (i := 4) (by simp) (.int .i64 RN))
  have O1 : Only g w ((u.at_.setCell ⟨g, 3, none⟩ (.bool false)).setCell ⟨g, 4, none⟩ (.int .i64 RN)) := (((O0.below u.below).set 3 (.bool false)).set 4 (.int .i64 RN))
  generalize ((u.at_.setCell ⟨g, 3, none⟩ (.bool false)).setCell ⟨g, 4, none⟩ (.int .i64 RN)) = w1 at *
  clear G0 O0 y0 y1 y2 y3 y4 y5 y6 y7 y8 y9 y10 y11 yf yl
  obtain ⟨y0, y1, y2, y3, y4, y5, y6, y7, y8, y9, y10, y11, yf, yl⟩ := G1.twelve
  first
    | go_region_law ((go_simp; go_at_call 62; refine (H6.out _).mono ?_; rintro e w' ⟨rfl, rfl⟩))
    | fail
  all_goals
    have G2 : Box ((w1.setCell ⟨g, 5, none⟩ (.int .i64 WT)).setCell ⟨g, 8, none⟩ (.bool DR)).drew g #[.bool bg, .int .i64 ba, .bool sh, .bool false, .int .i64 RN, .int .i64 WT, .int .i64 ru, .int .i64 ra, .bool DR, .bool b9, .bool b10, .bool b11] := ((G1.set (i := 5) (by simp) (.int .i64 WT)).set (i := 8) (by simp) (.bool DR)).drew
    have O2 : Only g w ((w1.setCell ⟨g, 5, none⟩ (.int .i64 WT)).setCell ⟨g, 8, none⟩ (.bool DR)).drew := ((O1.set 5 (.int .i64 WT)).set 8 (.bool DR)).drew
    generalize ((w1.setCell ⟨g, 5, none⟩ (.int .i64 WT)).setCell ⟨g, 8, none⟩ (.bool DR)).drew = w2 at *
    clear G1 O1 y0 y1 y2 y3 y4 y5 y6 y7 y8 y9 y10 y11 yf yl
    obtain ⟨y0, y1, y2, y3, y4, y5, y6, y7, y8, y9, y10, y11, yf, yl⟩ := G2.twelve
    go_wp2
    go_end0
    exact ⟨⟨_, rfl⟩, G2, O2⟩

set_option maxRecDepth 100000 in
set_option maxHeartbeats 4000000 in
theorem ey_count_true (g : Nat) (bg : Bool) (ba : Int) (sh on : Bool) (rn wt ru ra : Int) (b8 b9 b10 b11 : Bool) (w : World) (G0 : Box w g #[.bool bg, .int .i64 ba, .bool sh, .bool on, .int .i64 rn, .int .i64 wt, .int .i64 ru, .int .i64 ra, .bool b8, .bool b9, .bool b10, .bool b11]) (RN WT : Int) (DR : Bool)
    (H5 : Hid (∀ w, Calls Try.prog 61 #[.agg #[.bool on, .int .i64 rn], .bool sh] w fun e w' => e = .returned (.agg #[.bool true, .int .i64 RN]) ∧ Below w.heap.size w w'))
    (H6 : Hid (∀ w, Calls Try.prog 62 #[.int .i64 wt, .bool (!on)] w fun e w' => e = .returned (.tuple #[.int .i64 WT, .bool DR]) ∧ w = w')) :
    Calls Try.prog 38 #[.pointer (some ⟨g, 0, none⟩)] w fun e w' => (∃ v, e = .returned v) ∧ Box w' g #[.bool bg, .int .i64 ba, .bool sh, .bool true, .int .i64 RN, .int .i64 WT, .int .i64 ru, .int .i64 ra, .bool DR, .bool b9, .bool b10, .bool b11] ∧ Only g w w' := by
  obtain ⟨y0, y1, y2, y3, y4, y5, y6, y7, y8, y9, y10, y11, yf, yl⟩ := G0.twelve
  have O0 := Only.refl g w
  go_enter Try.func38, Try.ntmps38
  go_wp2
  refine wp_region_calm_tail 15 (by kernel_rfl) (by kernel_rfl) ?_
  simp only [List.take_succ_cons, List.take_zero, List.drop_succ_cons, List.drop_zero]
  repeat (go_big_quiet_step (((go_at_call 61; exact calm_of _ (H5.out _)))))
  refine wpQuiet_nil ?_
  intro _ hw'
  obtain ⟨u, rfl⟩ := hw'
  go_wp2
  have G1 : Box ((u.at_.setCell ⟨g, 3, none⟩ (.bool true)).setCell ⟨g, 4, none⟩ (.int .i64 RN)) g #[.bool bg, .int .i64 ba, .bool sh, .bool true, .int .i64 RN, .int .i64 wt, .int .i64 ru, .int .i64 ra, .bool b8, .bool b9, .bool b10, .bool b11] := (((G0.near u).set (i := 3) (by simp) (.bool true)).set (i := 4) (by simp) (.int .i64 RN))
  have O1 : Only g w ((u.at_.setCell ⟨g, 3, none⟩ (.bool true)).setCell ⟨g, 4, none⟩ (.int .i64 RN)) := (((O0.below u.below).set 3 (.bool true)).set 4 (.int .i64 RN))
  generalize ((u.at_.setCell ⟨g, 3, none⟩ (.bool true)).setCell ⟨g, 4, none⟩ (.int .i64 RN)) = w1 at *
  clear G0 O0 y0 y1 y2 y3 y4 y5 y6 y7 y8 y9 y10 y11 yf yl
  obtain ⟨y0, y1, y2, y3, y4, y5, y6, y7, y8, y9, y10, y11, yf, yl⟩ := G1.twelve
  first
    | go_region_law ((go_simp; go_at_call 62; refine (H6.out _).mono ?_; rintro e w' ⟨rfl, rfl⟩))
    | fail
  all_goals
    have G2 : Box ((w1.setCell ⟨g, 5, none⟩ (.int .i64 WT)).setCell ⟨g, 8, none⟩ (.bool DR)).drew g #[.bool bg, .int .i64 ba, .bool sh, .bool true, .int .i64 RN, .int .i64 WT, .int .i64 ru, .int .i64 ra, .bool DR, .bool b9, .bool b10, .bool b11] := ((G1.set (i := 5) (by simp) (.int .i64 WT)).set (i := 8) (by simp) (.bool DR)).drew
    have O2 : Only g w ((w1.setCell ⟨g, 5, none⟩ (.int .i64 WT)).setCell ⟨g, 8, none⟩ (.bool DR)).drew := ((O1.set 5 (.int .i64 WT)).set 8 (.bool DR)).drew
    generalize ((w1.setCell ⟨g, 5, none⟩ (.int .i64 WT)).setCell ⟨g, 8, none⟩ (.bool DR)).drew = w2 at *
    clear G1 O1 y0 y1 y2 y3 y4 y5 y6 y7 y8 y9 y10 y11 yf yl
    obtain ⟨y0, y1, y2, y3, y4, y5, y6, y7, y8, y9, y10, y11, yf, yl⟩ := G2.twelve
    go_wp2
    go_end0
    exact ⟨⟨_, rfl⟩, G2, O2⟩

set_option maxRecDepth 100000 in
set_option maxHeartbeats 4000000 in
theorem ey_trust (g : Nat) (bg : Bool) (ba : Int) (sh on : Bool) (rn wt ru ra : Int) (b8 b9 b10 b11 : Bool) (a t2 t3 t4 : Int) (dr : Bool) (ky : Int) (wr : Bool) (bad : Int) (w : World) (G00 : Box w g #[.bool bg, .int .i64 ba, .bool sh, .bool on, .int .i64 rn, .int .i64 wt, .int .i64 ru, .int .i64 ra, .bool b8, .bool b9, .bool b10, .bool b11]) (RA : Int) (FA : Bool)
    (H7 : Hid (∀ w, Calls Try.prog 63 #[.int .i64 ra, .int .i64 a, .int .i64 bad] w fun e w' => e = .returned (.int .i64 RA) ∧ w = w'))
    (H8 : Hid (∀ w, Calls Try.prog 64 #[.int .i64 RA, .int .i64 bad] w fun e w' => e = .returned (.bool FA) ∧ w = w')) :
    Calls Try.prog 39 #[.pointer (some ⟨g, 0, none⟩), .agg #[.int .i64 a, .int .i64 t2, .int .i64 t3, .int .i64 t4, .bool dr, .int .i64 ky, .bool wr, .int .i64 bad]] w fun e w' => (∃ v, e = .returned v) ∧ Box w' g #[.bool bg, .int .i64 ba, .bool sh, .bool on, .int .i64 rn, .int .i64 wt, .int .i64 ru, .int .i64 RA, .bool b8, .bool b9, .bool b10, .bool FA] ∧ Only g w w' := by
  have N0 := box_new w #[.int .i64 a, .int .i64 t2, .int .i64 t3, .int .i64 t4, .bool dr, .int .i64 ky, .bool wr, .int .i64 bad] 27
  have hne : ¬ w.heap.size = g := by have := G00.1; omega
  have G0 := G00.alloc (.cells #[.int .i64 a, .int .i64 t2, .int .i64 t3, .int .i64 t4, .bool dr, .int .i64 ky, .bool wr, .int .i64 bad] 27)
  have O0 := (Only.refl g w).alloc (.cells #[.int .i64 a, .int .i64 t2, .int .i64 t3, .int .i64 t4, .bool dr, .int .i64 ky, .bool wr, .int .i64 bad] 27)
  go_enter Try.func39, Try.ntmps39
  go_wp2
  obtain ⟨gn, hgn⟩ : ∃ gn, w.heap.size = gn := ⟨_, rfl⟩
  rw [hgn] at N0 hne
  simp only [hgn]
  clear G00
  generalize w.alloc (.cells #[.int .i64 a, .int .i64 t2, .int .i64 t3, .int .i64 t4, .bool dr, .int .i64 ky, .bool wr, .int .i64 bad] 27) = w0 at *
  obtain ⟨y0, y1, y2, y3, y4, y5, y6, y7, y8, y9, y10, y11, yf, yl⟩ := G0.twelve
  obtain ⟨x0, _, _, _, _, _, _, x7, xf, xl⟩ := N0.eight8
  refine wp_region_calm_tail 14 (by kernel_rfl) (by kernel_rfl) ?_
  simp only [List.take_succ_cons, List.take_zero, List.drop_succ_cons, List.drop_zero]
  repeat (go_big_quiet_step (((go_at_call 63; exact calm_same _ (H7.out _)))))
  refine wpQuiet_nil ?_
  intro _ hw'
  obtain ⟨u, rfl⟩ := hw'
  go_wp2
  have G1 : Box (u.at_.setCell ⟨g, 7, none⟩ (.int .i64 RA)) g #[.bool bg, .int .i64 ba, .bool sh, .bool on, .int .i64 rn, .int .i64 wt, .int .i64 ru, .int .i64 RA, .bool b8, .bool b9, .bool b10, .bool b11] := ((G0.near u).set (i := 7) (by simp) (.int .i64 RA))
  have O1 : Only g w (u.at_.setCell ⟨g, 7, none⟩ (.int .i64 RA)) := ((O0.below u.below).set 7 (.int .i64 RA))
  have N1 := ((N0.near u).far (p := ⟨g, 7, none⟩) (fun h => hne h.symm) (.int .i64 RA))
  generalize (u.at_.setCell ⟨g, 7, none⟩ (.int .i64 RA)) = w1 at *
  clear x0 x7 xf xl N0 G0 O0 y0 y1 y2 y3 y4 y5 y6 y7 y8 y9 y10 y11 yf yl
  obtain ⟨y0, y1, y2, y3, y4, y5, y6, y7, y8, y9, y10, y11, yf, yl⟩ := G1.twelve
  obtain ⟨x0, _, _, _, _, _, _, x7, xf, xl⟩ := N1.eight8
  refine wp_region_calm_tail 12 (by kernel_rfl) (by kernel_rfl) ?_
  simp only [List.take_succ_cons, List.take_zero, List.drop_succ_cons, List.drop_zero]
  repeat (go_big_quiet_step (((go_at_call 64; exact calm_same _ (H8.out _)))))
  refine wpQuiet_nil ?_
  intro _ hw'
  obtain ⟨u, rfl⟩ := hw'
  go_wp2
  have G2 : Box (u.at_.setCell ⟨g, 11, none⟩ (.bool FA)) g #[.bool bg, .int .i64 ba, .bool sh, .bool on, .int .i64 rn, .int .i64 wt, .int .i64 ru, .int .i64 RA, .bool b8, .bool b9, .bool b10, .bool FA] := ((G1.near u).set (i := 11) (by simp) (.bool FA))
  have O2 : Only g w (u.at_.setCell ⟨g, 11, none⟩ (.bool FA)) := ((O1.below u.below).set 11 (.bool FA))
  have N2 := ((N1.near u).far (p := ⟨g, 11, none⟩) (fun h => hne h.symm) (.bool FA))
  generalize (u.at_.setCell ⟨g, 11, none⟩ (.bool FA)) = w2 at *
  clear x0 x7 xf xl N1 G1 O1 y0 y1 y2 y3 y4 y5 y6 y7 y8 y9 y10 y11 yf yl
  obtain ⟨y0, y1, y2, y3, y4, y5, y6, y7, y8, y9, y10, y11, yf, yl⟩ := G2.twelve
  obtain ⟨x0, _, _, _, _, _, _, x7, xf, xl⟩ := N2.eight8
  go_end0
  exact ⟨⟨_, rfl⟩, G2, O2⟩
end Go.Proofs.Ytkddledajffdbaa
