/- The document's beat: the gap, the rate; whether two beats are the same. -/
import Derived.Test.YtkmhkhmifecbdaaRef24
namespace Go.Proofs.Ytkmhkhmifecbdaa
open Go.RowKit
set_option linter.unusedVariables false
set_option linter.unusedSimpArgs false
set_option maxRecDepth 100000
attribute [local go_sem] cell_set_ite Near.cell Near.frozen

set_option maxHeartbeats 2000000 in
theorem rb_gap (q : Bool) (l : Int) (A : Option Addr) (n c : Nat) (xs : List Int) (t : Int) (w : World) (h : Ints w A n xs) (hc : n ≤ c) (hr : n * 8 ≤ 140737488351232) :
    Calls Try.prog 6 #[.agg #[.bool q, .int .i64 l, .slice A n c], .int .i64 t] w fun e w' => e = .returned (.tuple #[.int .i64 (gapV q n xs l t), .bool (gapB q n)]) ∧ Below w.heap.size w w' := by
  have A0 : Below w.heap.size w w := Below.refl _ _
  have HM := Lib.hid (fun w' (hb : Below w.heap.size w w') => ref8_mid A n c xs w' (h.below hb) hc hr)
  have HS := Lib.hid (fun w => ref_sub t l w)
  unfold gapV gapB sinV
  generalize anyB n = ok at *
  generalize midV xs = m at *
  generalize subV t l = s at *
  generalize subB t l = sb at *
  clear h
  cases ok
  · rw [Bool.and_false, if_neg (by simp)]
    go_enter Try.func6, Try.ntmps6
    go_wp2_with (fail)
    refine (HM.out _ (by (repeat (first | (with_reducible exact Below.refl _ _) | (with_reducible assumption) | (with_reducible refine Near.up _ ?_) | (with_reducible refine Below.drew ?_) | (with_reducible refine below_alloc_on ?_ _) | (with_reducible refine below_set_on ?_ (by first | (simp; done) | (simp; omega) | omega) _))))).mono ?_
    rintro e w1 ⟨rfl, hb⟩
    have B1 := (box_new w #[.bool q, .int .i64 l, .slice A n c] 24).below hb
    have A1 := below_call (W := w) (by (repeat (first | (with_reducible exact Below.refl _ _) | (with_reducible assumption) | (with_reducible refine Near.up _ ?_) | (with_reducible refine Below.drew ?_) | (with_reducible refine below_alloc_on ?_ _) | (with_reducible refine below_set_on ?_ (by first | (simp; done) | (simp; omega) | omega) _)))) hb
    clear hb
    obtain ⟨b0, b1, b2, bf, bl⟩ := B1.three
    go_wp2
    all_goals go_ret2
    all_goals exact ⟨rfl, A1⟩
  · cases q
    · rw [Bool.false_and, if_neg (by simp)]
      go_enter Try.func6, Try.ntmps6
      go_wp2_with (fail)
      refine (HM.out _ (by (repeat (first | (with_reducible exact Below.refl _ _) | (with_reducible assumption) | (with_reducible refine Near.up _ ?_) | (with_reducible refine Below.drew ?_) | (with_reducible refine below_alloc_on ?_ _) | (with_reducible refine below_set_on ?_ (by first | (simp; done) | (simp; omega) | omega) _))))).mono ?_
      rintro e w1 ⟨rfl, hb⟩
      have B1 := (box_new w #[.bool false, .int .i64 l, .slice A n c] 24).below hb
      have A1 := below_call (W := w) (by (repeat (first | (with_reducible exact Below.refl _ _) | (with_reducible assumption) | (with_reducible refine Near.up _ ?_) | (with_reducible refine Below.drew ?_) | (with_reducible refine below_alloc_on ?_ _) | (with_reducible refine below_set_on ?_ (by first | (simp; done) | (simp; omega) | omega) _)))) hb
      clear hb
      obtain ⟨b0, b1, b2, bf, bl⟩ := B1.three
      go_wp2
      all_goals go_ret2
      all_goals exact ⟨rfl, A1⟩
    · rw [Bool.true_and, if_pos rfl]
      go_enter Try.func6, Try.ntmps6
      go_wp2_with (fail)
      refine (HM.out _ (by (repeat (first | (with_reducible exact Below.refl _ _) | (with_reducible assumption) | (with_reducible refine Near.up _ ?_) | (with_reducible refine Below.drew ?_) | (with_reducible refine below_alloc_on ?_ _) | (with_reducible refine below_set_on ?_ (by first | (simp; done) | (simp; omega) | omega) _))))).mono ?_
      rintro e w1 ⟨rfl, hb⟩
      have B1 := (box_new w #[.bool true, .int .i64 l, .slice A n c] 24).below hb
      have A1 := below_call (W := w) (by (repeat (first | (with_reducible exact Below.refl _ _) | (with_reducible assumption) | (with_reducible refine Near.up _ ?_) | (with_reducible refine Below.drew ?_) | (with_reducible refine below_alloc_on ?_ _) | (with_reducible refine below_set_on ?_ (by first | (simp; done) | (simp; omega) | omega) _)))) hb
      clear hb
      obtain ⟨b0, b1, b2, bf, bl⟩ := B1.three
      go_wp2_with (go_at_call 16; refine (HS.out _).mono ?_; rintro e w' ⟨rfl, rfl⟩)
      all_goals go_ret2
      all_goals exact ⟨ret_ib (by omega) rfl, A1⟩

theorem rb_rate (q : Bool) (l : Int) (A : Option Addr) (n c : Nat) (xs : List Int) (t f : Int) (w : World) (h : Ints w A n xs) (hc : n ≤ c) (hr : n * 8 ≤ 140737488351232) :
    Calls Try.prog 8 #[.agg #[.bool q, .int .i64 l, .slice A n c], .int .i64 t, .int .i64 f] w fun e w' => e = .returned (.tuple #[.int .i64 (rtV q n xs l t f), .bool (rtB q n xs l t f)]) ∧ Below w.heap.size w w' := by
  have A0 : Below w.heap.size w w := Below.refl _ _
  have HG := Lib.hid (fun w' (hb : Below w.heap.size w w') => rb_gap q l A n c xs t w' (h.below hb) hc hr)
  have HR := Lib.hid (fun w => ref_of (gapV q n xs l t) f w w (At.refl w))
  unfold rtV rtB
  generalize gapV q n xs l t = g at *
  generalize shV g f = v at *
  generalize shB g f = vb at *
  generalize gapB q n = gb at *
  cases gb
  · rw [if_neg (by simp), Bool.false_and]
    go_enter Try.func8, Try.ntmps8
    go_wp2_with (fail)
    refine (HG.out _ (by (repeat (first | (with_reducible exact Below.refl _ _) | (with_reducible assumption) | (with_reducible refine Near.up _ ?_) | (with_reducible refine Below.drew ?_) | (with_reducible refine below_alloc_on ?_ _) | (with_reducible refine below_set_on ?_ (by first | (simp; done) | (simp; omega) | omega) _))))).mono ?_
    rintro e w1 ⟨rfl, hb⟩
    have A1 := below_call (W := w) (by (repeat (first | (with_reducible exact Below.refl _ _) | (with_reducible assumption) | (with_reducible refine Near.up _ ?_) | (with_reducible refine Below.drew ?_) | (with_reducible refine below_alloc_on ?_ _) | (with_reducible refine below_set_on ?_ (by first | (simp; done) | (simp; omega) | omega) _)))) hb
    go_wp2
    all_goals go_ret2
    all_goals exact ⟨rfl, A1⟩
  · rw [if_pos rfl, Bool.true_and]
    go_enter Try.func8, Try.ntmps8
    go_wp2_with (fail)
    refine (HG.out _ (by (repeat (first | (with_reducible exact Below.refl _ _) | (with_reducible assumption) | (with_reducible refine Near.up _ ?_) | (with_reducible refine Below.drew ?_) | (with_reducible refine below_alloc_on ?_ _) | (with_reducible refine below_set_on ?_ (by first | (simp; done) | (simp; omega) | omega) _))))).mono ?_
    rintro e w1 ⟨rfl, hb⟩
    have A1 := below_call (W := w) (by (repeat (first | (with_reducible exact Below.refl _ _) | (with_reducible assumption) | (with_reducible refine Near.up _ ?_) | (with_reducible refine Below.drew ?_) | (with_reducible refine below_alloc_on ?_ _) | (with_reducible refine below_set_on ?_ (by first | (simp; done) | (simp; omega) | omega) _)))) hb
    clear hb
    go_wp2_with (fail)
    refine (HR.out _).mono ?_
    rintro e w2 ⟨rfl, hb⟩
    have A2 := below_call A1 hb
    go_wp2
    all_goals go_ret2
    all_goals exact ⟨rfl, A2⟩

set_option maxHeartbeats 1000000 in
theorem same_beat {q : Bool} {l : Int} {A B : Option Addr} {n c d : Nat} {xs : List Int} {w : World} (h : Ints w A n xs) (g : Ints w B n xs) (hn : n ≤ 9223372036854775807) :
    Calls Try.prog 9 #[.agg #[.bool q, .int .i64 l, .slice A n c], .agg #[.bool q, .int .i64 l, .slice B n d]] w fun e w' => e = .returned (.bool true) ∧ Below w.heap.size w w' := by
  have A0 : Below w.heap.size w w := Below.refl _ _
  have HQ := Lib.hid (fun w' (hb : Below w.heap.size w w') => (law4_ints A B n c n d xs xs w' (h.below hb) (g.below hb) hn hn).mono (R' := fun e w2 => e = .returned (.bool true) ∧ Below w'.heap.size w' w2) fun e w2 ⟨he, t, hw⟩ => ⟨by rw [he, eqL_refl], hw ▸ below_drewN (Below.refl _ _) t⟩)
  clear h g
  go_enter Try.func9, Try.ntmps9
  go_wp2_with (fail)
  refine (HQ.out _ (by (repeat (first | (with_reducible exact Below.refl _ _) | (with_reducible assumption) | (with_reducible refine Near.up _ ?_) | (with_reducible refine Below.drew ?_) | (with_reducible refine below_alloc_on ?_ _) | (with_reducible refine below_set_on ?_ (by first | (simp; done) | (simp; omega) | omega) _))))).mono ?_
  rintro e w1 ⟨rfl, hb⟩
  have A1 : Below w.heap.size w w1 := below_call (by (repeat (first | (with_reducible exact Below.refl _ _) | (with_reducible assumption) | (with_reducible refine Near.up _ ?_) | (with_reducible refine Below.drew ?_) | (with_reducible refine below_alloc_on ?_ _) | (with_reducible refine below_set_on ?_ (by first | (simp; done) | (simp; omega) | omega) _)))) hb
  go_wp2
  all_goals go_ret
  all_goals exact ⟨rfl, A1⟩
end Go.Proofs.Ytkmhkhmifecbdaa
