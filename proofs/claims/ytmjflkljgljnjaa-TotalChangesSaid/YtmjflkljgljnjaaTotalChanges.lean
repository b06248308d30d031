/- TotalChanges holds of every total, every set, and every number: a change of the set changes no volume. No condition. -/
import Derived.Test.YtmjflkljgljnjaaLaw25
import Derived.Test.YtmjflkljgljnjaaLeaf
import Derived.Test.YtmjflkljgljnjaaFan
import Derived.BigRegion
import Derived.Deep.RegionHeld3
import Derived.Deep.DrawnRows
namespace Go.Proofs.Ytmjflkljgljnjaa.totalChanges
open Go.ChangeShapes Go.WideShapes Go.ChangeAt Go.RowKit
set_option linter.unusedVariables false
attribute [local go_sem] cell_set_ite Near.cell Near.frozen
attribute [local go_sem ↓] Go.wp_at_zero Go.wp_at_succ

/-- Block g is known whole, and nothing of W has turned. -/
structure Bx (W : World) (g : Nat) (cs : Array Value) (w : World) : Prop where
  box : Box w g cs
  bel : Below W.heap.size W w
  old : W.heap.size ≤ g
namespace Bx
variable {W w w' : World} {g : Nat} {cs : Array Value}
theorem call (h : Bx W g cs w) (hb : Below w.heap.size w w') : Bx W g cs w' := ⟨h.box.below hb, below_call h.bel hb, h.old⟩
theorem drew (h : Bx W g cs w) : Bx W g cs w.drew := ⟨h.box, Below.drew h.bel, h.old⟩
theorem alloc (h : Bx W g cs w) (o : Obj) : Bx W g cs (w.alloc o) := ⟨h.box.alloc o, below_alloc_on h.bel o, h.old⟩
theorem far (h : Bx W g cs w) {p : Addr} (hp : g < p.block) (v : Value) : Bx W g cs (w.setCell p v) := ⟨h.box.far (by omega) v, below_set_on h.bel (by have := h.old; omega) _, h.old⟩
theorem lt (h : Bx W g cs w) : g < w.heap.size := h.box.1
end Bx
theorem kp_mk {W w : World} {g : Nat} {v0 v1 v2 : Value} (h : Bx W g #[v0, v1, v2] w) :
    w.cell? ⟨g, 0, none⟩ = some v0 ∧ w.cell? ⟨g, 1, none⟩ = some v1 ∧ w.cell? ⟨g, 2, none⟩ = some v2 ∧ g < w.heap.size ∧ Bx W g #[v0, v1, v2] w :=
  ⟨h.box.three.1, h.box.three.2.1, h.box.three.2.2.1, h.box.1, h⟩
theorem kp_out {W w : World} {g : Nat} {v0 v1 v2 : Value} (h : w.cell? ⟨g, 0, none⟩ = some v0 ∧ w.cell? ⟨g, 1, none⟩ = some v1 ∧ w.cell? ⟨g, 2, none⟩ = some v2 ∧ g < w.heap.size ∧ Bx W g #[v0, v1, v2] w) :
    Bx W g #[v0, v1, v2] w := h.2.2.2.2

theorem vo_again (s d b f : Int) : voV f 0 (voV s d b) = voV s d b ∧ voB f 0 (voV s d b) = false := by
  obtain ⟨v0, v1⟩ := vo_bd s d b
  generalize voV s d b = v at *
  have e0 : tdV 0 = 0 := by decide
  have e1 : fvV 0 f = 0 := by unfold fvV; split <;> simp
  have e2 : tbV v = v := withK_2 v0 v1
  unfold voV voB
  rw [e0, e1, e2, Int.add_zero]
  refine ⟨withK_2 v0 v1, ?_⟩
  unfold withB
  simp; omega
theorem td_ad (d : Int) : tdV d ≤ tdV (adV d) ∧ 0 ≤ tdV d ∧ tdV (adV d) ≤ 9007199254740 := by
  obtain ⟨d0, d1⟩ := td_bd d
  unfold adV
  split
  · rw [show tdV (tdV d + 1) = tdV d + 1 from withK_2 (by omega) (by omega)]
    omega
  · rw [show tdV 9007199254740 = 9007199254740 from by decide]
    omega
theorem fv_mono {x y f : Int} (h : x ≤ y) : fvV x f ≤ fvV y f := by
  unfold fvV
  split
  · rename_i hf
    rcases kn_of hf with rfl | rfl | rfl | rfl <;> omega
  · omega
theorem vo_add (s d b : Int) : voV s d b ≤ voV s (adV d) b ∧ (voB s d b = true → voB s (adV d) b = true) := by
  obtain ⟨h1, h2, h3⟩ := td_ad d
  have h4 := fv_mono (f := s) h1
  obtain ⟨b0, b1⟩ := tb_bd b
  obtain ⟨f0, f1⟩ := fv_bd (d := tdV d) (f := s) h2 (by omega)
  unfold voV voB
  generalize fvV (tdV d) s = F at *
  generalize fvV (tdV (adV d)) s = G at *
  generalize tbV b = B at *
  refine ⟨?_, ?_⟩
  · unfold withV; split <;> (try split) <;> (try split) <;> (try split) <;> (try split) <;> (try split) <;> omega
  · unfold withB; simp; omega
theorem re_add {s d b ml : Int} (h : reB s d b ml = true) : reB s (adV d) b ml = true := by
  obtain ⟨h1, h2⟩ := vo_add s d b
  unfold reB at *
  rw [Bool.or_eq_true] at *
  rcases h with h | h
  · exact .inl (h2 h)
  · exact .inr (by simp at *; omega)
theorem mul_mono {x y : Int} (h : x ≤ y) : mulV x 1000 ≤ mulV y 1000 := by
  unfold mulV
  rw [show clV 1000 = 1000 from by decide]
  unfold clV withV
  split <;> (try split) <;> (try split) <;> (try split) <;> (try split) <;> (try split) <;> (try split) <;> (try split) <;> (try split) <;> (try split) <;> omega
theorem re_less {s d b ml : Int} (h : reB s d b ml = true) : reB s d b (ml - 1) = true := by
  have hm := mul_mono (x := ml - 1) (y := ml) (by omega)
  unfold reB at *
  rw [Bool.or_eq_true] at *
  rcases h with h | h
  · exact .inl h
  · exact .inr (by simp at *; omega)

set_option maxRecDepth 100000 in
set_option maxHeartbeats 4000000 in
theorem walk (s : Int) (ws : (Lit.int .i64 s).wf = true) (d : Int) (wd : (Lit.int .i64 d).wf = true) (b : Int) (wb : (Lit.int .i64 b).wf = true) (k : Int) (wk : (Lit.int .u8 k).wf = true) (ml : Int) (wm : (Lit.int .i64 ml).wf = true) (W : World) :
    Calls Try.prog 5 #[.agg #[.int .i64 s, .int .i64 d, .int .i64 b], .int .u8 k, .int .i64 ml] W fun e W' => e = .returned (.bool true) ∧ Below W.heap.size W W' := by
  have ⟨m0, m1⟩ := wf_bd wm
  simp only [Lit.wf, IntKind.min, IntKind.max, IntKind.signed, IntKind.bits, Bool.and_eq_true] at wk
  simp at wk
  clear ws wd wb wm
  obtain ⟨kn, rfl⟩ : ∃ kn : Nat, k = (kn : Int) := ⟨k.toNat, by omega⟩
  have HS := Lib.hid (fun w => law9_set kn (by omega) w)
  have hf : knB (setV kn) = true := by
    have := set_kn kn
    simpa [knB, Kn] using this
  have HC := Lib.hid (show ∀ w, Calls Try.prog 8 #[.agg #[.int .i64 s, .int .i64 d, .int .i64 b], .int .i64 (setV kn)] w fun e w' => e = .returned (.tuple #[.agg #[.int .i64 (setV kn), .int .i64 0, .int .i64 (voV s d b)], .bool true]) ∧ Below w.heap.size w w' from fun w => by
    have := to_change s d b (setV kn) w
    unfold chS chB at this
    rwa [if_pos hf, if_pos hf, hf] at this)
  have K1 := Lib.hid (fun w => to_volume s d b w)
  obtain ⟨e1, e2⟩ := vo_again s d b (setV kn)
  have K2 := fun w => to_volume (setV kn) 0 (voV s d b) w
  rw [e1, e2] at K2
  have K2 := Lib.hid K2
  have K3 := Lib.hid (fun w => to_add s d b w)
  have K4 := Lib.hid (fun w => to_volume s (adV d) b w)
  have K5 := Lib.hid (fun w => to_reached s d b ml w)
  have K6 := Lib.hid (fun w => to_reached s (adV d) b ml w)
  have K7 := Lib.hid (fun w => to_reached s d b (ml - 1) w)
  have HR1 := Lib.hid (re_add (s := s) (d := d) (b := b) (ml := ml))
  have HR2 := Lib.hid (re_less (s := s) (d := d) (b := b) (ml := ml))
  obtain ⟨v0, v1⟩ := vo_bd s d b
  have huv := decide_eq_true (vo_add s d b).1
  clear e1 e2 hf
  generalize voV s (adV d) b = U at *
  generalize voB s (adV d) b = UB at *
  generalize reB s d b ml = R0 at *
  generalize reB s (adV d) b ml = R1 at *
  generalize reB s d b (ml - 1) = R2 at *
  generalize voV s d b = V at *
  generalize voB s d b = VB at *
  generalize adV d = AD at *
  generalize setV kn = f at *
  have A0 : Below W.heap.size W W := Below.refl _ _
  go_enter Try.func5, Try.ntmps5
  go_wp2_with (fail)
  refine (K1.out _).mono ?_
  rintro e w1 ⟨rfl, hb⟩
  have A1 := below_call (below_alloc_on A0 (.cells #[.int .i64 s, .int .i64 d, .int .i64 b] 23)) hb
  have B1 := (box_new W #[.int .i64 s, .int .i64 d, .int .i64 b] 23).below hb
  clear hb A0
  obtain ⟨c0, c1, c2, cf, cl⟩ := B1.three
  go_wp2
  have X1 : Bx W W.heap.size #[.int .i64 s, .int .i64 d, .int .i64 b] w1 := ⟨B1, A1, Nat.le_refl _⟩
  clear A1 B1
  go_region_held3 (fun w' => w'.cell? ⟨W.heap.size, 0, none⟩ = some (.int .i64 s) ∧ w'.cell? ⟨W.heap.size, 1, none⟩ = some (.int .i64 d) ∧ w'.cell? ⟨W.heap.size, 2, none⟩ = some (.int .i64 b) ∧ W.heap.size < w'.heap.size ∧ Bx W W.heap.size #[.int .i64 s, .int .i64 d, .int .i64 b] w')
    ((refine kp_mk ?_; (repeat (first | assumption | (exact kp_out (by assumption)) | (refine Bx.call ?_ hb) | (refine Bx.drew ?_) | (refine Bx.alloc ?_ _) | (refine Bx.far ?_ (by go_split_ands; first | omega | (simp; omega)) _)))))
    (first | (go_at_call 15; refine (HS.out _).mono ?_; rintro e w' ⟨rfl, rfl⟩) | (go_at_call 8; refine (HC.out _).mono ?_; rintro e w2 ⟨rfl, hb⟩; (try (have Z := (box_new _ _ _).drew.below hb; have z0 := Z.three.1; have z1 := Z.three.2.1; have z2 := Z.three.2.2.1; have zf := Z.three.2.2.2.1; have zl := Z.1))))
  case' refine_2.refine_3.refine_3.refine_1.refine_2.refine_1.refine_2.refine_3.refine_3.refine_3.refine_1.refine_2.refine_1.refine_2.refine_3 =>
    have Y := box_new w2 #[.int .i64 f, .int .i64 0, .int .i64 V] 23
    have X2 : Bx W W.heap.size #[.int .i64 s, .int .i64 d, .int .i64 b] (w2.alloc (.cells #[.int .i64 f, .int .i64 0, .int .i64 V] 23)) := (X1.drew.call hb).alloc _
    have ne : W.heap.size < w2.heap.size := (X1.drew.call hb).lt
    clear X1 hb c0 c1 c2 cf cl
    generalize w2.alloc (.cells #[.int .i64 f, .int .i64 0, .int .i64 V] 23) = w3 at *
    generalize w2.heap.size = gc at *
  case' refine_2.refine_3.refine_3.refine_1.refine_2.refine_2.refine_1.refine_2.refine_1.refine_2.refine_3.refine_3.refine_3.refine_1.refine_2.refine_3 =>
    have Y : Box (((w2.setCell ⟨w1.heap.size, 0, none⟩ (.int .i64 f)).setCell ⟨w1.heap.size, 1, none⟩ (.int .i64 0)).setCell ⟨w1.heap.size, 2, none⟩ (.int .i64 V)) w1.heap.size #[.int .i64 f, .int .i64 0, .int .i64 V] := ((Z.set (i := 0) (by simp) (.int .i64 f)).set (i := 1) (by simp) (.int .i64 0)).set (i := 2) (by simp) (.int .i64 V)
    have ne : W.heap.size < w1.heap.size := X1.lt
    have X2 : Bx W W.heap.size #[.int .i64 s, .int .i64 d, .int .i64 b] (((w2.setCell ⟨w1.heap.size, 0, none⟩ (.int .i64 f)).setCell ⟨w1.heap.size, 1, none⟩ (.int .i64 0)).setCell ⟨w1.heap.size, 2, none⟩ (.int .i64 V)) := ((((X1.alloc _).drew.call hb).far ne _).far ne _).far ne _
    clear X1 hb c0 c1 c2 cf cl z0 z1 z2 zf zl Z
    generalize ((w2.setCell ⟨w1.heap.size, 0, none⟩ (.int .i64 f)).setCell ⟨w1.heap.size, 1, none⟩ (.int .i64 0)).setCell ⟨w1.heap.size, 2, none⟩ (.int .i64 V) = w3 at *
    generalize w1.heap.size = gc at *
  case' refine_2.refine_3.refine_3.refine_2.refine_1.refine_2.refine_1.refine_2.refine_1.refine_2.refine_3.refine_3.refine_3.refine_1.refine_2.refine_3 =>
    have Y : Box (((w2.setCell ⟨w1.heap.size, 0, none⟩ (.int .i64 f)).setCell ⟨w1.heap.size, 1, none⟩ (.int .i64 0)).setCell ⟨w1.heap.size, 2, none⟩ (.int .i64 V)) w1.heap.size #[.int .i64 f, .int .i64 0, .int .i64 V] := ((Z.set (i := 0) (by simp) (.int .i64 f)).set (i := 1) (by simp) (.int .i64 0)).set (i := 2) (by simp) (.int .i64 V)
    have ne : W.heap.size < w1.heap.size := X1.lt
    have X2 : Bx W W.heap.size #[.int .i64 s, .int .i64 d, .int .i64 b] (((w2.setCell ⟨w1.heap.size, 0, none⟩ (.int .i64 f)).setCell ⟨w1.heap.size, 1, none⟩ (.int .i64 0)).setCell ⟨w1.heap.size, 2, none⟩ (.int .i64 V)) := ((((X1.alloc _).drew.call hb).far ne _).far ne _).far ne _
    clear X1 hb c0 c1 c2 cf cl z0 z1 z2 zf zl Z
    generalize ((w2.setCell ⟨w1.heap.size, 0, none⟩ (.int .i64 f)).setCell ⟨w1.heap.size, 1, none⟩ (.int .i64 0)).setCell ⟨w1.heap.size, 2, none⟩ (.int .i64 V) = w3 at *
    generalize w1.heap.size = gc at *
  all_goals clear K1 HS HC
  all_goals obtain ⟨c0, c1, c2, cf, cl⟩ := X2.box.three
  all_goals obtain ⟨e0, e1, e2, ef, el⟩ := Y.three
  all_goals (go_wp2_with (fail); refine (K2.out _).mono ?_; rintro e w4 ⟨rfl, hb⟩)
  all_goals have X4 := X2.call hb
  all_goals clear hb X2 Y c0 c1 c2 cf cl e0 e1 e2 ef el
  all_goals obtain ⟨c0, c1, c2, cf, cl⟩ := X4.box.three
  all_goals (go_wp2_with (fail); refine (K3.out _).mono ?_; rintro e w5 ⟨rfl, hb⟩)
  all_goals have X5 := (X4.call hb).alloc (.cells #[.int .i64 s, .int .i64 AD, .int .i64 b] 23)
  all_goals have Y5 := box_new w5 #[.int .i64 s, .int .i64 AD, .int .i64 b] 23
  all_goals have ne5 := (X4.call hb).lt
  all_goals clear hb X4 c0 c1 c2 cf cl
  all_goals obtain ⟨c0, c1, c2, cf, cl⟩ := X5.box.three
  all_goals obtain ⟨e0, e1, e2, ef, el⟩ := Y5.three
  all_goals go_wp2_with (fail)
  all_goals generalize hw6 : w5.alloc (.cells #[.int .i64 s, .int .i64 AD, .int .i64 b] 23) = w6 at *
  all_goals generalize w5.heap.size = gd at *
  all_goals (refine (K4.out _).mono ?_; rintro e w7 ⟨rfl, hb⟩)
  all_goals have X7 := X5.call hb
  all_goals have Y7 := Y5.below hb
  all_goals clear hb X5 Y5 c0 c1 c2 cf cl e0 e1 e2 ef el
  all_goals obtain ⟨c0, c1, c2, cf, cl⟩ := X7.box.three
  all_goals obtain ⟨e0, e1, e2, ef, el⟩ := Y7.three
  all_goals clear hw6
  all_goals
    cases R0
    · clear K2 K3 K4 K6 K7 HR1 HR2
      go_wp2_with (fail)
      refine (K5.out _).mono ?_
      rintro e w8 ⟨rfl, hb⟩
      have X8 := X7.call hb
      have Y8 := Y7.below hb
      clear hb X7 Y7 c0 c1 c2 cf cl e0 e1 e2 ef el
      obtain ⟨c0, c1, c2, cf, cl⟩ := X8.box.three
      obtain ⟨e0, e1, e2, ef, el⟩ := Y8.three
      go_wp2_with (fail)
      refine (K5.out _).mono ?_
      rintro e w9 ⟨rfl, hb⟩
      have X9 := X8.call hb
      have Y9 := Y8.below hb
      clear hb X8 Y8 c0 c1 c2 cf cl e0 e1 e2 ef el
      obtain ⟨c0, c1, c2, cf, cl⟩ := X9.box.three
      obtain ⟨e0, e1, e2, ef, el⟩ := Y9.three
      go_wp2_with (fail)
      refine (law25_awake _).mono ?_
      rintro e w10 ⟨rfl, hb⟩
      go_wp2
      all_goals go_ret
      all_goals exact ⟨rfl, below_call X9.bel hb⟩
    · obtain rfl : R1 = true := HR1.out rfl
      obtain rfl : R2 = true := HR2.out rfl
      clear K2 K3 K4 HR1 HR2
      by_cases hml : ml ≤ 0
      · have dml := decide_eq_true hml
        go_wp2_with (fail)
        refine (K5.out _).mono ?_
        rintro e w8 ⟨rfl, hb⟩
        have X8 := X7.call hb
        have Y8 := Y7.below hb
        clear hb X7 Y7 c0 c1 c2 cf cl e0 e1 e2 ef el
        obtain ⟨c0, c1, c2, cf, cl⟩ := X8.box.three
        obtain ⟨e0, e1, e2, ef, el⟩ := Y8.three
        go_wp2_with (fail)
        refine (K6.out _).mono ?_
        rintro e w9 ⟨rfl, hb⟩
        have X9 := X8.call hb
        have Y9 := Y8.below hb
        clear hb X8 Y8 c0 c1 c2 cf cl e0 e1 e2 ef el
        obtain ⟨c0, c1, c2, cf, cl⟩ := X9.box.three
        obtain ⟨e0, e1, e2, ef, el⟩ := Y9.three
        go_wp2_with (fail)
        refine (K5.out _).mono ?_
        rintro e w10 ⟨rfl, hb⟩
        have X10 := X9.call hb
        have Y10 := Y9.below hb
        clear hb X9 Y9 c0 c1 c2 cf cl e0 e1 e2 ef el
        obtain ⟨c0, c1, c2, cf, cl⟩ := X10.box.three
        obtain ⟨e0, e1, e2, ef, el⟩ := Y10.three
        go_wp2_with (fail)
        refine (law25_awake _).mono ?_
        rintro e w11 ⟨rfl, hb⟩
        go_wp2
        all_goals go_ret
        all_goals exact ⟨rfl, below_call X10.bel hb⟩
      · have dml := decide_eq_false hml
        go_wp2_with (fail)
        refine (K5.out _).mono ?_
        rintro e w8 ⟨rfl, hb⟩
        have X8 := X7.call hb
        have Y8 := Y7.below hb
        clear hb X7 Y7 c0 c1 c2 cf cl e0 e1 e2 ef el
        obtain ⟨c0, c1, c2, cf, cl⟩ := X8.box.three
        obtain ⟨e0, e1, e2, ef, el⟩ := Y8.three
        go_wp2_with (fail)
        refine (K6.out _).mono ?_
        rintro e w9 ⟨rfl, hb⟩
        have X9 := X8.call hb
        have Y9 := Y8.below hb
        clear hb X8 Y8 c0 c1 c2 cf cl e0 e1 e2 ef el
        obtain ⟨c0, c1, c2, cf, cl⟩ := X9.box.three
        obtain ⟨e0, e1, e2, ef, el⟩ := Y9.three
        go_wp2_with (fail)
        refine (K5.out _).mono ?_
        rintro e w10 ⟨rfl, hb⟩
        have X10 := X9.call hb
        have Y10 := Y9.below hb
        clear hb X9 Y9 c0 c1 c2 cf cl e0 e1 e2 ef el
        obtain ⟨c0, c1, c2, cf, cl⟩ := X10.box.three
        obtain ⟨e0, e1, e2, ef, el⟩ := Y10.three
        go_wp2_with (fail)
        refine (K7.out _).mono ?_
        rintro e w11 ⟨rfl, hb⟩
        have X11 := X10.call hb
        have Y11 := Y10.below hb
        clear hb X10 Y10 c0 c1 c2 cf cl e0 e1 e2 ef el
        obtain ⟨c0, c1, c2, cf, cl⟩ := X11.box.three
        obtain ⟨e0, e1, e2, ef, el⟩ := Y11.three
        go_wp2_with (fail)
        refine (law25_awake _).mono ?_
        rintro e w12 ⟨rfl, hb⟩
        go_wp2
        all_goals go_ret
        all_goals exact ⟨rfl, below_call X11.bel hb⟩

theorem lifted (os : Os) (started : os.Started) (H : Type) (enc : TypeId × Value → H) :
    ReturnsInHanded {} Try.checked os 5 .any (Rows.totalChangesSpec.pre6 enc Try.prog Try.f5 Rows.totalChangesRow.domain false) (Rows.totalChangesSpec.post enc Try.prog Try.f5 false true false false) := by
  refine law_lift started (by kernel_rfl) Try.func5 rfl rfl ?_ (by kernel_rfl)
    (ChangeSpec.witness6 (enc := enc) (C := Try.checked) false ⟨#[], #[.agg #[.int .i64 0, .int .i64 0, .int .i64 0], .int .u8 0, .int .i64 0], []⟩ 8 (by kernel_rfl) (by kernel_rfl) (by kernel_rfl) (by kernel_rfl)) ?_
  · intro ds hl
    match ds, hl with
    | [_, _, _], _ => exact ⟨rfl, rfl, rfl⟩
  · intro W base args ds p hval hA hlt hwt
    rw [Try.params5] at hA hval hwt
    obtain ⟨v0, vs0, d0, ds0, p0, q0, hargs, rfl, rfl, h0, r0⟩ := trodAll_cons hA
    obtain ⟨v1, vs1, d1, ds1, p1, q1, rfl, rfl, rfl, h1, r1⟩ := trodAll_cons r0
    obtain ⟨v2, vs2, d2, ds2, p2, q2, rfl, rfl, rfl, h2, r2⟩ := trodAll_cons r1
    obtain ⟨rfl, rfl, rfl⟩ := trodAll_nil r2
    obtain rfl : args = #[v0, v1, v2] := by cases args; simp_all
    obtain ⟨cs0, rfl, l0, k0⟩ := open_leaves 5 [.int .i64, .int .i64, .int .i64] (by kernel_rfl) (by kernel_rfl) (hval 0 23 v0 rfl rfl) h0
    match cs0, l0, k0 with
    | [y0_0, y0_1, y0_2], _, k0 =>
    obtain ⟨x0_0, e0_0, w0_0⟩ : leafIs (.int .i64) y0_0 := k0 0 _ rfl
    subst e0_0
    obtain ⟨x0_1, e0_1, w0_1⟩ : leafIs (.int .i64) y0_1 := k0 1 _ rfl
    subst e0_1
    obtain ⟨x0_2, e0_2, w0_2⟩ : leafIs (.int .i64) y0_2 := k0 2 _ rfl
    subst e0_2
    obtain ⟨a1, rfl, rfl, rfl, w1⟩ := open_int Try.underlying5 (hval 1 5 v1 rfl rfl) h1
    obtain ⟨a2, rfl, rfl, rfl, w2⟩ := open_int Try.underlying3 (hval 2 3 v2 rfl rfl) h2
    exact walk x0_0 w0_0 x0_1 w0_1 x0_2 w0_2 a1 w1 a2 w2 W

theorem over : Rows.totalChangesRow.holds Try.pinned (OpenSpec.ofChange Rows.totalChangesSpec) :=
  OpenClaim.holds_of_wide 5 Try.f5 rfl rfl rfl rfl rfl rfl rfl ⟨rfl, rfl, rfl, rfl, rfl⟩ rfl rfl rfl rfl rfl (by kernel_rfl) Try.func5 (by kernel_rfl)
    (of_decide_eq_true (by kernel_rfl)) (by unfold Func.isWrapper; first | (rw [if_pos (by decide +kernel)]; kernel_rfl) | (rw [if_neg (by decide +kernel)]; exact ⟨rfl, rfl⟩))
    (fun os started H enc _ => lifted os started H enc)

theorem proved : Rows.TotalChangesSaid := over
#print axioms proved
end Go.Proofs.Ytmjflkljgljnjaa.totalChanges
