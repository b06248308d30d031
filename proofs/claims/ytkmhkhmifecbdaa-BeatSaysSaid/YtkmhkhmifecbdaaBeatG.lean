/- Contracts of package beat: the gap, and the rate. -/
import Derived.Test.YtkmhkhmifecbdaaBeatC
namespace Go.Proofs.Ytkmhkhmifecbdaa
set_option maxRecDepth 100000
open Go.RowKit
set_option linter.unusedVariables false
set_option linter.unusedSimpArgs false
attribute [local go_sem] cell_set_ite Near.cell Near.frozen
attribute [local go_sem ↓] Go.wp_at_zero Go.wp_at_succ

set_option maxRecDepth 100000 in
theorem bt_gap (q : Bool) (l : Int) (A : Option Addr) (n c : Nat) (xs : List Int) (t : Int) (w : World) (h : Ints w A n xs) (hc : n ≤ c) (hr : n * 8 ≤ 140737488351232) :
    Calls Try.prog 5 #[.agg #[.bool q, .int .i64 l, .slice A n c], .int .i64 t] w fun e w' => e = .returned (.tuple #[.int .i64 (gapV q n xs l t), .bool (gapB q n)]) ∧ Below w.heap.size w w' := by
  have A0 : Below w.heap.size w w := Below.refl _ _
  have HM := Lib.hid (fun w' (hb : Below w.heap.size w w') => median_mid A n c xs w' (h.below hb) hc hr)
  have HS := Lib.hid (fun w => bt_since q l A n c t w)
  unfold gapV gapB
  generalize anyB n = ok at *
  generalize midV xs = m at *
  generalize sinV t l = sv at *
  cases q <;> cases ok
  · rw [if_neg (by simp), show (false && false) = false from rfl]
    go_enter Try.func5, Try.ntmps5
    go_wp2_with (fail)
    refine (HM.out _ (by (repeat (first | (with_reducible exact Below.refl _ _) | (with_reducible assumption) | (with_reducible refine Near.up _ ?_) | (with_reducible refine Below.drew ?_) | (with_reducible refine below_alloc_on ?_ _) | (with_reducible refine below_set_on ?_ (by first | (simp; done) | (simp; omega) | omega) _))))).mono ?_
    rintro e w1 ⟨rfl, hb⟩
    have B1 := (box_new w #[.bool false, .int .i64 l, .slice A n c] 24).below hb
    have A1 := below_call (W := w) (by (repeat (first | (with_reducible exact Below.refl _ _) | (with_reducible assumption) | (with_reducible refine Near.up _ ?_) | (with_reducible refine Below.drew ?_) | (with_reducible refine below_alloc_on ?_ _) | (with_reducible refine below_set_on ?_ (by first | (simp; done) | (simp; omega) | omega) _)))) hb
    obtain ⟨b0, b1, b2, bf, bl⟩ := B1.three
    go_wp2
    all_goals go_ret2
    all_goals exact ⟨rfl, A1⟩
  · rw [if_neg (by simp), show (false && true) = false from rfl]
    go_enter Try.func5, Try.ntmps5
    go_wp2_with (fail)
    refine (HM.out _ (by (repeat (first | (with_reducible exact Below.refl _ _) | (with_reducible assumption) | (with_reducible refine Near.up _ ?_) | (with_reducible refine Below.drew ?_) | (with_reducible refine below_alloc_on ?_ _) | (with_reducible refine below_set_on ?_ (by first | (simp; done) | (simp; omega) | omega) _))))).mono ?_
    rintro e w1 ⟨rfl, hb⟩
    have B1 := (box_new w #[.bool false, .int .i64 l, .slice A n c] 24).below hb
    have A1 := below_call (W := w) (by (repeat (first | (with_reducible exact Below.refl _ _) | (with_reducible assumption) | (with_reducible refine Near.up _ ?_) | (with_reducible refine Below.drew ?_) | (with_reducible refine below_alloc_on ?_ _) | (with_reducible refine below_set_on ?_ (by first | (simp; done) | (simp; omega) | omega) _)))) hb
    obtain ⟨b0, b1, b2, bf, bl⟩ := B1.three
    go_wp2
    all_goals go_ret2
    all_goals exact ⟨rfl, A1⟩
  · rw [if_neg (by simp), show (true && false) = false from rfl]
    go_enter Try.func5, Try.ntmps5
    go_wp2_with (fail)
    refine (HM.out _ (by (repeat (first | (with_reducible exact Below.refl _ _) | (with_reducible assumption) | (with_reducible refine Near.up _ ?_) | (with_reducible refine Below.drew ?_) | (with_reducible refine below_alloc_on ?_ _) | (with_reducible refine below_set_on ?_ (by first | (simp; done) | (simp; omega) | omega) _))))).mono ?_
    rintro e w1 ⟨rfl, hb⟩
    have B1 := (box_new w #[.bool true, .int .i64 l, .slice A n c] 24).below hb
    have A1 := below_call (W := w) (by (repeat (first | (with_reducible exact Below.refl _ _) | (with_reducible assumption) | (with_reducible refine Near.up _ ?_) | (with_reducible refine Below.drew ?_) | (with_reducible refine below_alloc_on ?_ _) | (with_reducible refine below_set_on ?_ (by first | (simp; done) | (simp; omega) | omega) _)))) hb
    obtain ⟨b0, b1, b2, bf, bl⟩ := B1.three
    go_wp2
    all_goals go_ret2
    all_goals exact ⟨rfl, A1⟩
  · rw [if_pos (by simp), show (true && true) = true from rfl]
    rcases Int.lt_or_le m sv with hms | hms
    · rw [show max m sv = sv by omega]
      go_enter Try.func5, Try.ntmps5
      go_wp2_with (fail)
      refine (HM.out _ (by (repeat (first | (with_reducible exact Below.refl _ _) | (with_reducible assumption) | (with_reducible refine Near.up _ ?_) | (with_reducible refine Below.drew ?_) | (with_reducible refine below_alloc_on ?_ _) | (with_reducible refine below_set_on ?_ (by first | (simp; done) | (simp; omega) | omega) _))))).mono ?_
      rintro e w1 ⟨rfl, hb⟩
      have B1 := (box_new w #[.bool true, .int .i64 l, .slice A n c] 24).below hb
      have A1 := below_call (W := w) (by (repeat (first | (with_reducible exact Below.refl _ _) | (with_reducible assumption) | (with_reducible refine Near.up _ ?_) | (with_reducible refine Below.drew ?_) | (with_reducible refine below_alloc_on ?_ _) | (with_reducible refine below_set_on ?_ (by first | (simp; done) | (simp; omega) | omega) _)))) hb
      clear hb
      obtain ⟨b0, b1, b2, bf, bl⟩ := B1.three
      go_wp2_with (fail)
      refine (HS.out _).mono ?_
      rintro e w2 ⟨rfl, hb⟩
      have A2 := below_call A1 hb
      go_wp2
      all_goals go_ret2
      all_goals exact ⟨by simp; try omega, A2⟩
    · rw [show max m sv = m by omega]
      go_enter Try.func5, Try.ntmps5
      go_wp2_with (fail)
      refine (HM.out _ (by (repeat (first | (with_reducible exact Below.refl _ _) | (with_reducible assumption) | (with_reducible refine Near.up _ ?_) | (with_reducible refine Below.drew ?_) | (with_reducible refine below_alloc_on ?_ _) | (with_reducible refine below_set_on ?_ (by first | (simp; done) | (simp; omega) | omega) _))))).mono ?_
      rintro e w1 ⟨rfl, hb⟩
      have B1 := (box_new w #[.bool true, .int .i64 l, .slice A n c] 24).below hb
      have A1 := below_call (W := w) (by (repeat (first | (with_reducible exact Below.refl _ _) | (with_reducible assumption) | (with_reducible refine Near.up _ ?_) | (with_reducible refine Below.drew ?_) | (with_reducible refine below_alloc_on ?_ _) | (with_reducible refine below_set_on ?_ (by first | (simp; done) | (simp; omega) | omega) _)))) hb
      clear hb
      obtain ⟨b0, b1, b2, bf, bl⟩ := B1.three
      go_wp2_with (fail)
      refine (HS.out _).mono ?_
      rintro e w2 ⟨rfl, hb⟩
      have A2 := below_call A1 hb
      go_wp2
      all_goals go_ret2
      all_goals exact ⟨by simp; try omega, A2⟩

set_option maxRecDepth 100000 in
theorem bt_rate (q : Bool) (l : Int) (A : Option Addr) (n c : Nat) (xs : List Int) (t f : Int) (w : World) (h : Ints w A n xs) (hc : n ≤ c) (hr : n * 8 ≤ 140737488351232) :
    Calls Try.prog 7 #[.agg #[.bool q, .int .i64 l, .slice A n c], .int .i64 t, .int .i64 f] w fun e w' => e = .returned (.tuple #[.int .i64 (rtV q n xs l t f), .bool (rtB q n xs l t f)]) ∧ Below w.heap.size w w' := by
  have A0 : Below w.heap.size w w := Below.refl _ _
  have HG := Lib.hid (fun w' (hb : Below w.heap.size w w') => bt_gap q l A n c xs t w' (h.below hb) hc hr)
  have HR := Lib.hid (fun w => rt_of (gapV q n xs l t) f w w (At.refl w))
  unfold rtV rtB
  generalize gapV q n xs l t = g at *
  generalize shV g f = v at *
  generalize shB g f = vb at *
  generalize gapB q n = gb at *
  cases gb
  · rw [if_neg (by simp), Bool.false_and]
    go_enter Try.func7, Try.ntmps7
    go_wp2_with (fail)
    refine (HG.out _ (by (repeat (first | (with_reducible exact Below.refl _ _) | (with_reducible assumption) | (with_reducible refine Near.up _ ?_) | (with_reducible refine Below.drew ?_) | (with_reducible refine below_alloc_on ?_ _) | (with_reducible refine below_set_on ?_ (by first | (simp; done) | (simp; omega) | omega) _))))).mono ?_
    rintro e w1 ⟨rfl, hb⟩
    have A1 := below_call (W := w) (by (repeat (first | (with_reducible exact Below.refl _ _) | (with_reducible assumption) | (with_reducible refine Near.up _ ?_) | (with_reducible refine Below.drew ?_) | (with_reducible refine below_alloc_on ?_ _) | (with_reducible refine below_set_on ?_ (by first | (simp; done) | (simp; omega) | omega) _)))) hb
    go_wp2
    all_goals go_ret2
    all_goals exact ⟨rfl, A1⟩
  · rw [if_pos rfl, Bool.true_and]
    go_enter Try.func7, Try.ntmps7
    go_wp2_with (fail)
    refine (HG.out _ (by (repeat (first | (with_reducible exact Below.refl _ _) | (with_reducible assumption) | (with_reducible refine Near.up _ ?_) | (with_reducible refine Below.drew ?_) | (with_reducible refine below_alloc_on ?_ _) | (with_reducible refine below_set_on ?_ (by first | (simp; done) | (simp; omega) | omega) _))))).mono ?_
    rintro e w1 ⟨rfl, hb⟩
    have A1 := below_call (W := w) (by (repeat (first | (with_reducible exact Below.refl _ _) | (with_reducible assumption) | (with_reducible refine Near.up _ ?_) | (with_reducible refine Below.drew ?_) | (with_reducible refine below_alloc_on ?_ _) | (with_reducible refine below_set_on ?_ (by first | (simp; done) | (simp; omega) | omega) _)))) hb
    clear hb
    go_wp2_with (fail)
    refine (HR.out _).mono ?_
    rintro e w2 ⟨rfl, hb⟩
    have A2 := below_call A1 hb
    go_wp2
    all_goals go_ret2
    all_goals exact ⟨rfl, A2⟩
end Go.Proofs.Ytkmhkhmifecbdaa
