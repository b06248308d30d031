/- PiWindup holds of every loop, every fault, and however long: where it is as far as it can be, nothing is summed up any more. No condition. -/
import Derived.Test.YtmojkehedkhdbaaPi
import Derived.Test.YtmojkehedkhdbaaLift
import Derived.Deep.DeepCutAuto
import Derived.Deep.LoopGhost
import Derived.Deep.CutBlock
namespace Go.Proofs.Ytmojkehedkhdbaa.piWindup
open Go.ChangeShapes Go.WideShapes Go.ChangeAt Go.RowKit
set_option linter.unusedVariables false
set_option linter.unusedSimpArgs false
attribute [local go_sem] cell_set_ite Near.cell Near.frozen

def hiV (x f : Int) : Int := if 300 < (16 * f + x) / 65536 then x else couV (x + 4 * f)
def loV (y f : Int) : Int := if (16 * -f + y) / 65536 < 0 then y else couV (y + 4 * -f)
theorem hi_is {x f : Int} (x0 : 0 ≤ x) (x1 : x ≤ 19660800) (f0 : 1 ≤ f) (f1 : f ≤ 5000000) : piS x f 16 4 = hiV x f := by
  rw [pi_sm x0 x1 (by omega) (by omega) (.inr rfl)]
  unfold hiV
  by_cases h : 300 < (16 * f + x) / 65536
  · rw [if_pos (.inl ⟨h, by omega⟩), if_pos h]
  · rw [if_neg (by omega), if_neg h]
theorem lo_is {y f : Int} (x0 : 0 ≤ y) (x1 : y ≤ 19660800) (f0 : 1 ≤ f) (f1 : f ≤ 5000000) : piS y (-f) 16 4 = loV y f := by
  rw [pi_sm x0 x1 (by omega) (by omega) (.inr rfl)]
  unfold loV
  by_cases h : (16 * -f + y) / 65536 < 0
  · rw [if_pos (.inr ⟨h, by omega⟩), if_pos h]
  · rw [if_neg (by omega), if_neg h]
theorem hi_bd {x f : Int} (x0 : 0 ≤ x) (x1 : x ≤ 19660800) (f0 : 1 ≤ f) : x ≤ hiV x f ∧ hiV x f ≤ 19660800 ∧ (300 < (16 * f + x) / 65536 → hiV x f = x) := by
  unfold hiV couV; split <;> omega
theorem lo_bd {y f : Int} (x0 : 0 ≤ y) (x1 : y ≤ 19660800) (f0 : 1 ≤ f) : 0 ≤ loV y f ∧ loV y f ≤ y ∧ ((16 * -f + y) / 65536 < 0 → loV y f = y) := by
  unfold loV couV; split <;> omega
theorem out_hi {x f : Int} (x0 : 0 ≤ x) (x1 : x ≤ 19660800) (f0 : 1 ≤ f) (f1 : f ≤ 5000000) : ouV x f 16 = min (max ((16 * f + x) / 65536) 0) 300 := by
  unfold ouV; rw [as_sm x0 x1 (by omega) (by omega)]
theorem out_lo {y f : Int} (x0 : 0 ≤ y) (x1 : y ≤ 19660800) (f0 : 1 ≤ f) (f1 : f ≤ 5000000) : ouV y (-f) 16 = min (max ((16 * -f + y) / 65536) 0) 300 := by
  unfold ouV; rw [as_sm x0 x1 (by omega) (by omega)]

set_option maxRecDepth 100000 in
set_option maxHeartbeats 4000000 in
theorem way (W : World) (a b : Int) (m : Nat) (a0 : 0 ≤ a) (a1 : a ≤ 4294967295) (b0 : 0 ≤ b) (b1 : b ≤ 4294967295) (m1 : m ≤ 255) :
    Calls Try.prog 8 #[.int .u32 a, .int .u32 b, .int .u8 m] W fun e W' => e = .returned (.bool true) ∧ Below W.heap.size W W' := by
  have A : Below W.heap.size W W := Below.refl _ _
  obtain ⟨f, hf⟩ : ∃ f, 1 + b % 5000000 = f := ⟨_, rfl⟩
  obtain ⟨s, hs⟩ : ∃ s, a % 19660801 = s := ⟨_, rfl⟩
  have f0 : 1 ≤ f := by omega
  have f1 : f ≤ 5000000 := by omega
  have s0 : 0 ≤ s := by omega
  have s1 : s ≤ 19660800 := by omega
  have M0 : Bx W W.heap.size #[.int .i64 s] (W.alloc (.cells #[.int .i64 s] 47)) := ⟨box_new _ _ _, below_alloc_on A _, Nat.le_refl _⟩
  go_enter Try.func8, Try.ntmps8
  go_upto_region 3 with fail
  simp only [hs]
  go_cut [9, 10] (fun a b wx => ∃ g h : Nat, a = .pointer (some ⟨g, 0, none⟩) ∧ b = .pointer (some ⟨h, 0, none⟩) ∧ W.heap.size < g ∧ W.heap.size < h ∧ g ≠ h ∧ Below W.heap.size W wx ∧ Box wx W.heap.size #[.int .i64 s] ∧ Box wx g #[.int .i64 s] ∧ Box wx h #[.int .i64 s])
  case first =>
    go_region_held3 (fun w' => w'.cell? ⟨W.heap.size, 0, none⟩ = some (.int .i64 s) ∧ W.heap.size < w'.heap.size ∧ Bx W W.heap.size #[.int .i64 s] w')
      ((exact ⟨Bx.cell (W := W) (g := W.heap.size) (cs := #[.int .i64 s]) (by (repeat (first | assumption | (refine Bx.call ?_ hb) | (refine Bx.drew ?_) | (refine Bx.alloc ?_ _) | (refine Bx.far2 ?_ (by first | (simp; done) | (simp; omega) | omega) (by first | (simp; done) | (simp; omega) | omega) _)))) 0 _ rfl, Bx.lt (W := W) (g := W.heap.size) (cs := #[.int .i64 s]) (by (repeat (first | assumption | (refine Bx.call ?_ hb) | (refine Bx.drew ?_) | (refine Bx.alloc ?_ _) | (refine Bx.far2 ?_ (by first | (simp; done) | (simp; omega) | omega) (by first | (simp; done) | (simp; omega) | omega) _)))), (by (repeat (first | assumption | (refine Bx.call ?_ hb) | (refine Bx.drew ?_) | (refine Bx.alloc ?_ _) | (refine Bx.far2 ?_ (by first | (simp; done) | (simp; omega) | omega) (by first | (simp; done) | (simp; omega) | omega) _))))⟩))
      (fail)
    all_goals go_wp2_with (fail)
    all_goals go_meet
    all_goals first
      | exact ⟨W.heap.size + 1, W.heap.size + 1 + 1, rfl, rfl, by omega, by omega, by omega, by (repeat (first | (with_reducible exact Below.refl _ _) | (with_reducible assumption) | (with_reducible refine Near.up _ ?_) | (with_reducible refine Below.drew ?_) | (with_reducible refine below_alloc_on ?_ _) | (with_reducible refine below_set_on ?_ (by first | (simp; done) | (simp; omega) | omega) _))), by (repeat (first | (with_reducible assumption) | (with_reducible exact box_new _ _ _) | ((with_reducible apply box_at); (first | (with_reducible rfl) | (simp <;> omega))) | (with_reducible apply Box.drew) | (with_reducible apply Box.drewN) | (with_reducible apply Box.near) | (with_reducible apply Box.alloc) | ((with_reducible apply box_far); (first | assumption | omega | (simp <;> omega))) | (with_reducible apply Box.set) | (simp only [List.size_toArray, List.length_cons, List.length_nil, Array.size_setIfInBounds] <;> omega))), by (repeat (first | (with_reducible assumption) | (with_reducible exact box_new _ _ _) | ((with_reducible apply box_at); (first | (with_reducible rfl) | (simp <;> omega))) | (with_reducible apply Box.drew) | (with_reducible apply Box.drewN) | (with_reducible apply Box.near) | (with_reducible apply Box.alloc) | ((with_reducible apply box_far); (first | assumption | omega | (simp <;> omega))) | (with_reducible apply Box.set) | (simp only [List.size_toArray, List.length_cons, List.length_nil, Array.size_setIfInBounds] <;> omega))), by (repeat (first | (with_reducible assumption) | (with_reducible exact box_new _ _ _) | ((with_reducible apply box_at); (first | (with_reducible rfl) | (simp <;> omega))) | (with_reducible apply Box.drew) | (with_reducible apply Box.drewN) | (with_reducible apply Box.near) | (with_reducible apply Box.alloc) | ((with_reducible apply box_far); (first | assumption | omega | (simp <;> omega))) | (with_reducible apply Box.set) | (simp only [List.size_toArray, List.length_cons, List.length_nil, Array.size_setIfInBounds] <;> omega)))⟩
      | exact ⟨W.heap.size + 1 + 1, W.heap.size + 1, rfl, rfl, by omega, by omega, by omega, by (repeat (first | (with_reducible exact Below.refl _ _) | (with_reducible assumption) | (with_reducible refine Near.up _ ?_) | (with_reducible refine Below.drew ?_) | (with_reducible refine below_alloc_on ?_ _) | (with_reducible refine below_set_on ?_ (by first | (simp; done) | (simp; omega) | omega) _))), by (repeat (first | (with_reducible assumption) | (with_reducible exact box_new _ _ _) | ((with_reducible apply box_at); (first | (with_reducible rfl) | (simp <;> omega))) | (with_reducible apply Box.drew) | (with_reducible apply Box.drewN) | (with_reducible apply Box.near) | (with_reducible apply Box.alloc) | ((with_reducible apply box_far); (first | assumption | omega | (simp <;> omega))) | (with_reducible apply Box.set) | (simp only [List.size_toArray, List.length_cons, List.length_nil, Array.size_setIfInBounds] <;> omega))), by (repeat (first | (with_reducible assumption) | (with_reducible exact box_new _ _ _) | ((with_reducible apply box_at); (first | (with_reducible rfl) | (simp <;> omega))) | (with_reducible apply Box.drew) | (with_reducible apply Box.drewN) | (with_reducible apply Box.near) | (with_reducible apply Box.alloc) | ((with_reducible apply box_far); (first | assumption | omega | (simp <;> omega))) | (with_reducible apply Box.set) | (simp only [List.size_toArray, List.length_cons, List.length_nil, Array.size_setIfInBounds] <;> omega))), by (repeat (first | (with_reducible assumption) | (with_reducible exact box_new _ _ _) | ((with_reducible apply box_at); (first | (with_reducible rfl) | (simp <;> omega))) | (with_reducible apply Box.drew) | (with_reducible apply Box.drewN) | (with_reducible apply Box.near) | (with_reducible apply Box.alloc) | ((with_reducible apply box_far); (first | assumption | omega | (simp <;> omega))) | (with_reducible apply Box.set) | (simp only [List.size_toArray, List.length_cons, List.length_nil, Array.size_setIfInBounds] <;> omega)))⟩
  case rest =>
    clear hf hs M0
    obtain ⟨g, h, rfl, rfl, hg, hh, hgh, A, M, B, C⟩ := hcut
    go_wp2_with (fail)
    go_loopg [30] (m + 2) (fun q i wr => ∃ (j : Nat) (x y : Int), j ≤ m + 2 ∧ q = m + 2 - j ∧ i = .int .i64 j ∧ s ≤ x ∧ x ≤ 19660800 ∧ 0 ≤ y ∧ y ≤ s ∧ Hid (300 < (16 * f + s) / 65536 → x = s) ∧ Below W.heap.size W wr ∧ Box wr W.heap.size #[.int .i64 s] ∧ Box wr g #[.int .i64 x] ∧ Box wr h #[.int .i64 y])
    case atStart => exact ⟨0, s, s, Nat.zero_le _, rfl, rfl, by omega, by omega, by omega, by omega, Lib.hid (fun _ => rfl), A, M, B, C⟩
    case round =>
      clear A M B C
      obtain ⟨j, x, y, hj, rfl, rfl, x0, x1, y0, y1, HXS, A, M, B, C⟩ := hrel
      have HP := Lib.hid (fun w => pi_step x f 16 4 w)
      have HQ := Lib.hid (fun w => pi_step y (-f) 16 4 w)
      rw [hi_is (by omega) x1 f0 f1] at HP
      rw [lo_is y0 (by omega) f0 f1] at HQ
      obtain ⟨p0, p1, p2⟩ := hi_bd (f := f) (show 0 ≤ x by omega) x1 f0
      obtain ⟨q0, q1, q2⟩ := lo_bd (f := f) y0 (by omega) f0
      have HO := Lib.hid (show piO x f 16 4 = ouV (hiV x f) f 16 by unfold piO; rw [hi_is (by omega) x1 f0 f1])
      have HU := Lib.hid (show piO y (-f) 16 4 = ouV (loV y f) (-f) 16 by unfold piO; rw [lo_is y0 (by omega) f0 f1])
      have HX2 := Lib.hid p2
      have HY2 := Lib.hid q2
      obtain ⟨X, hX⟩ : ∃ X, hiV x f = X := ⟨_, rfl⟩
      obtain ⟨Y, hY⟩ : ∃ Y, loV y f = Y := ⟨_, rfl⟩
      rw [hX] at HP HX2 p0 p1 HO
      rw [hY] at HQ HY2 q0 q1 HU
      clear p2 q2 hX hY
      obtain ⟨O, hO⟩ : ∃ O, piO x f 16 4 = O := ⟨_, rfl⟩
      obtain ⟨U, hU⟩ : ∃ U, piO y (-f) 16 4 = U := ⟨_, rfl⟩
      rw [hO] at HP HO
      rw [hU] at HQ HU
      clear hO hU
      obtain ⟨lM, cM, fM⟩ := id M
      obtain ⟨lB, cB, fB⟩ := id B
      obtain ⟨lC, cC, fC⟩ := id C
      by_cases hlt : j < m + 2
      · go_wp2_with (fail)
        refine (HP.out _).mono ?_
        rintro e w2 ⟨rfl, hb⟩
        replace A : Below W.heap.size W w2 := by (refine below_call ?_ hb; (repeat (first | (with_reducible exact Below.refl _ _) | (with_reducible assumption) | (with_reducible refine Near.up _ ?_) | (with_reducible refine Below.drew ?_) | (with_reducible refine below_alloc_on ?_ _) | (with_reducible refine below_set_on ?_ (by first | (simp; done) | (simp; omega) | omega) _))))
        replace M := Box.below (g := W.heap.size) (by (repeat (first | (with_reducible assumption) | (with_reducible exact box_new _ _ _) | ((with_reducible apply box_at); (first | (with_reducible rfl) | (simp <;> omega))) | (with_reducible apply Box.drew) | (with_reducible apply Box.drewN) | (with_reducible apply Box.near) | (with_reducible apply Box.alloc) | ((with_reducible apply box_far); (first | assumption | omega | (simp <;> omega))) | (with_reducible apply Box.set) | (simp only [List.size_toArray, List.length_cons, List.length_nil, Array.size_setIfInBounds] <;> omega)))) hb
        (try simp only [List.setIfInBounds_toArray, List.set_cons_zero, List.set_cons_succ] at M)
        (try clear cM fM)
        replace B := Box.below (g := g) (by (repeat (first | (with_reducible assumption) | (with_reducible exact box_new _ _ _) | ((with_reducible apply box_at); (first | (with_reducible rfl) | (simp <;> omega))) | (with_reducible apply Box.drew) | (with_reducible apply Box.drewN) | (with_reducible apply Box.near) | (with_reducible apply Box.alloc) | ((with_reducible apply box_far); (first | assumption | omega | (simp <;> omega))) | (with_reducible apply Box.set) | (simp only [List.size_toArray, List.length_cons, List.length_nil, Array.size_setIfInBounds] <;> omega)))) hb
        (try simp only [List.setIfInBounds_toArray, List.set_cons_zero, List.set_cons_succ] at B)
        (try clear cB fB)
        replace C := Box.below (g := h) (by (repeat (first | (with_reducible assumption) | (with_reducible exact box_new _ _ _) | ((with_reducible apply box_at); (first | (with_reducible rfl) | (simp <;> omega))) | (with_reducible apply Box.drew) | (with_reducible apply Box.drewN) | (with_reducible apply Box.near) | (with_reducible apply Box.alloc) | ((with_reducible apply box_far); (first | assumption | omega | (simp <;> omega))) | (with_reducible apply Box.set) | (simp only [List.size_toArray, List.length_cons, List.length_nil, Array.size_setIfInBounds] <;> omega)))) hb
        (try simp only [List.setIfInBounds_toArray, List.set_cons_zero, List.set_cons_succ] at C)
        (try clear cC fC)
        clear hb
        have z_w2 : W.heap.size ≤ w2.heap.size := A.size
        obtain ⟨lM_w2, cM, fM⟩ := id M
        obtain ⟨lB_w2, cB, fB⟩ := id B
        obtain ⟨lC_w2, cC, fC⟩ := id C
        go_wp2_with (fail)
        refine (HQ.out _).mono ?_
        rintro e w3 ⟨rfl, hb⟩
        replace A : Below W.heap.size W w3 := by (refine below_call ?_ hb; (repeat (first | (with_reducible exact Below.refl _ _) | (with_reducible assumption) | (with_reducible refine Near.up _ ?_) | (with_reducible refine Below.drew ?_) | (with_reducible refine below_alloc_on ?_ _) | (with_reducible refine below_set_on ?_ (by first | (simp; done) | (simp; omega) | omega) _))))
        replace M := Box.below (g := W.heap.size) (by (repeat (first | (with_reducible assumption) | (with_reducible exact box_new _ _ _) | ((with_reducible apply box_at); (first | (with_reducible rfl) | (simp <;> omega))) | (with_reducible apply Box.drew) | (with_reducible apply Box.drewN) | (with_reducible apply Box.near) | (with_reducible apply Box.alloc) | ((with_reducible apply box_far); (first | assumption | omega | (simp <;> omega))) | (with_reducible apply Box.set) | (simp only [List.size_toArray, List.length_cons, List.length_nil, Array.size_setIfInBounds] <;> omega)))) hb
        (try simp only [List.setIfInBounds_toArray, List.set_cons_zero, List.set_cons_succ] at M)
        (try clear cM fM)
        replace B := Box.below (g := g) (by (repeat (first | (with_reducible assumption) | (with_reducible exact box_new _ _ _) | ((with_reducible apply box_at); (first | (with_reducible rfl) | (simp <;> omega))) | (with_reducible apply Box.drew) | (with_reducible apply Box.drewN) | (with_reducible apply Box.near) | (with_reducible apply Box.alloc) | ((with_reducible apply box_far); (first | assumption | omega | (simp <;> omega))) | (with_reducible apply Box.set) | (simp only [List.size_toArray, List.length_cons, List.length_nil, Array.size_setIfInBounds] <;> omega)))) hb
        (try simp only [List.setIfInBounds_toArray, List.set_cons_zero, List.set_cons_succ] at B)
        (try clear cB fB)
        replace C := Box.below (g := h) (by (repeat (first | (with_reducible assumption) | (with_reducible exact box_new _ _ _) | ((with_reducible apply box_at); (first | (with_reducible rfl) | (simp <;> omega))) | (with_reducible apply Box.drew) | (with_reducible apply Box.drewN) | (with_reducible apply Box.near) | (with_reducible apply Box.alloc) | ((with_reducible apply box_far); (first | assumption | omega | (simp <;> omega))) | (with_reducible apply Box.set) | (simp only [List.size_toArray, List.length_cons, List.length_nil, Array.size_setIfInBounds] <;> omega)))) hb
        (try simp only [List.setIfInBounds_toArray, List.set_cons_zero, List.set_cons_succ] at C)
        (try clear cC fC)
        clear hb
        have z_w3 : W.heap.size ≤ w3.heap.size := A.size
        obtain ⟨lM_w3, cM, fM⟩ := id M
        obtain ⟨lB_w3, cB, fB⟩ := id B
        obtain ⟨lC_w3, cC, fC⟩ := id C
        go_wp2
        go_roundg (m + 2 - (j + 1))
        case rel => exact ⟨j + 1, X, Y, by omega, rfl, by go_num, by omega, by omega, by omega, by omega, Lib.hid (fun e => by have := HXS.out e; subst this; exact HX2.out e), by (repeat (first | (with_reducible exact Below.refl _ _) | (with_reducible assumption) | (with_reducible refine Near.up _ ?_) | (with_reducible refine Below.drew ?_) | (with_reducible refine below_alloc_on ?_ _) | (with_reducible refine below_set_on ?_ (by first | (simp; done) | (simp; omega) | omega) _))), by (repeat (first | (with_reducible assumption) | (with_reducible exact box_new _ _ _) | ((with_reducible apply box_at); (first | (with_reducible rfl) | (simp <;> omega))) | (with_reducible apply Box.drew) | (with_reducible apply Box.drewN) | (with_reducible apply Box.near) | (with_reducible apply Box.alloc) | ((with_reducible apply box_far); (first | assumption | omega | (simp <;> omega))) | (with_reducible apply Box.set) | (simp only [List.size_toArray, List.length_cons, List.length_nil, Array.size_setIfInBounds] <;> omega))), by (repeat (first | (with_reducible assumption) | (with_reducible exact box_new _ _ _) | ((with_reducible apply box_at); (first | (with_reducible rfl) | (simp <;> omega))) | (with_reducible apply Box.drew) | (with_reducible apply Box.drewN) | (with_reducible apply Box.near) | (with_reducible apply Box.alloc) | ((with_reducible apply box_far); (first | assumption | omega | (simp <;> omega))) | (with_reducible apply Box.set) | (simp only [List.size_toArray, List.length_cons, List.length_nil, Array.size_setIfInBounds] <;> omega))), (C.set (i := 0) (by simp) (.int .i64 Y))⟩
        case measure => omega
      · obtain rfl : j = m + 2 := by omega
        go_wp2_with (fail)
        refine (HP.out _).mono ?_
        rintro e w2 ⟨rfl, hb⟩
        replace A : Below W.heap.size W w2 := by (refine below_call ?_ hb; (repeat (first | (with_reducible exact Below.refl _ _) | (with_reducible assumption) | (with_reducible refine Near.up _ ?_) | (with_reducible refine Below.drew ?_) | (with_reducible refine below_alloc_on ?_ _) | (with_reducible refine below_set_on ?_ (by first | (simp; done) | (simp; omega) | omega) _))))
        replace M := Box.below (g := W.heap.size) (by (repeat (first | (with_reducible assumption) | (with_reducible exact box_new _ _ _) | ((with_reducible apply box_at); (first | (with_reducible rfl) | (simp <;> omega))) | (with_reducible apply Box.drew) | (with_reducible apply Box.drewN) | (with_reducible apply Box.near) | (with_reducible apply Box.alloc) | ((with_reducible apply box_far); (first | assumption | omega | (simp <;> omega))) | (with_reducible apply Box.set) | (simp only [List.size_toArray, List.length_cons, List.length_nil, Array.size_setIfInBounds] <;> omega)))) hb
        (try simp only [List.setIfInBounds_toArray, List.set_cons_zero, List.set_cons_succ] at M)
        (try clear cM fM)
        replace B := Box.below (g := g) (by (repeat (first | (with_reducible assumption) | (with_reducible exact box_new _ _ _) | ((with_reducible apply box_at); (first | (with_reducible rfl) | (simp <;> omega))) | (with_reducible apply Box.drew) | (with_reducible apply Box.drewN) | (with_reducible apply Box.near) | (with_reducible apply Box.alloc) | ((with_reducible apply box_far); (first | assumption | omega | (simp <;> omega))) | (with_reducible apply Box.set) | (simp only [List.size_toArray, List.length_cons, List.length_nil, Array.size_setIfInBounds] <;> omega)))) hb
        (try simp only [List.setIfInBounds_toArray, List.set_cons_zero, List.set_cons_succ] at B)
        (try clear cB fB)
        replace C := Box.below (g := h) (by (repeat (first | (with_reducible assumption) | (with_reducible exact box_new _ _ _) | ((with_reducible apply box_at); (first | (with_reducible rfl) | (simp <;> omega))) | (with_reducible apply Box.drew) | (with_reducible apply Box.drewN) | (with_reducible apply Box.near) | (with_reducible apply Box.alloc) | ((with_reducible apply box_far); (first | assumption | omega | (simp <;> omega))) | (with_reducible apply Box.set) | (simp only [List.size_toArray, List.length_cons, List.length_nil, Array.size_setIfInBounds] <;> omega)))) hb
        (try simp only [List.setIfInBounds_toArray, List.set_cons_zero, List.set_cons_succ] at C)
        (try clear cC fC)
        clear hb
        have z_w2 : W.heap.size ≤ w2.heap.size := A.size
        obtain ⟨lM_w2, cM, fM⟩ := id M
        obtain ⟨lB_w2, cB, fB⟩ := id B
        obtain ⟨lC_w2, cC, fC⟩ := id C
        go_wp2_with (fail)
        refine (HQ.out _).mono ?_
        rintro e w3 ⟨rfl, hb⟩
        replace A : Below W.heap.size W w3 := by (refine below_call ?_ hb; (repeat (first | (with_reducible exact Below.refl _ _) | (with_reducible assumption) | (with_reducible refine Near.up _ ?_) | (with_reducible refine Below.drew ?_) | (with_reducible refine below_alloc_on ?_ _) | (with_reducible refine below_set_on ?_ (by first | (simp; done) | (simp; omega) | omega) _))))
        replace M := Box.below (g := W.heap.size) (by (repeat (first | (with_reducible assumption) | (with_reducible exact box_new _ _ _) | ((with_reducible apply box_at); (first | (with_reducible rfl) | (simp <;> omega))) | (with_reducible apply Box.drew) | (with_reducible apply Box.drewN) | (with_reducible apply Box.near) | (with_reducible apply Box.alloc) | ((with_reducible apply box_far); (first | assumption | omega | (simp <;> omega))) | (with_reducible apply Box.set) | (simp only [List.size_toArray, List.length_cons, List.length_nil, Array.size_setIfInBounds] <;> omega)))) hb
        (try simp only [List.setIfInBounds_toArray, List.set_cons_zero, List.set_cons_succ] at M)
        (try clear cM fM)
        replace B := Box.below (g := g) (by (repeat (first | (with_reducible assumption) | (with_reducible exact box_new _ _ _) | ((with_reducible apply box_at); (first | (with_reducible rfl) | (simp <;> omega))) | (with_reducible apply Box.drew) | (with_reducible apply Box.drewN) | (with_reducible apply Box.near) | (with_reducible apply Box.alloc) | ((with_reducible apply box_far); (first | assumption | omega | (simp <;> omega))) | (with_reducible apply Box.set) | (simp only [List.size_toArray, List.length_cons, List.length_nil, Array.size_setIfInBounds] <;> omega)))) hb
        (try simp only [List.setIfInBounds_toArray, List.set_cons_zero, List.set_cons_succ] at B)
        (try clear cB fB)
        replace C := Box.below (g := h) (by (repeat (first | (with_reducible assumption) | (with_reducible exact box_new _ _ _) | ((with_reducible apply box_at); (first | (with_reducible rfl) | (simp <;> omega))) | (with_reducible apply Box.drew) | (with_reducible apply Box.drewN) | (with_reducible apply Box.near) | (with_reducible apply Box.alloc) | ((with_reducible apply box_far); (first | assumption | omega | (simp <;> omega))) | (with_reducible apply Box.set) | (simp only [List.size_toArray, List.length_cons, List.length_nil, Array.size_setIfInBounds] <;> omega)))) hb
        (try simp only [List.setIfInBounds_toArray, List.set_cons_zero, List.set_cons_succ] at C)
        (try clear cC fC)
        replace D := Box.below (g := w2.heap.size) (by (repeat (first | (with_reducible assumption) | (with_reducible exact box_new _ _ _) | ((with_reducible apply box_at); (first | (with_reducible rfl) | (simp <;> omega))) | (with_reducible apply Box.drew) | (with_reducible apply Box.drewN) | (with_reducible apply Box.near) | (with_reducible apply Box.alloc) | ((with_reducible apply box_far); (first | assumption | omega | (simp <;> omega))) | (with_reducible apply Box.set) | (simp only [List.size_toArray, List.length_cons, List.length_nil, Array.size_setIfInBounds] <;> omega)))) hb
        (try simp only [List.setIfInBounds_toArray, List.set_cons_zero, List.set_cons_succ] at D)
        (try clear cD fD)
        clear hb
        have z_w3 : W.heap.size ≤ w3.heap.size := A.size
        obtain ⟨lM_w3, cM, fM⟩ := id M
        obtain ⟨lB_w3, cB, fB⟩ := id B
        obtain ⟨lC_w3, cC, fC⟩ := id C
        obtain ⟨lD_w3, cD, fD⟩ := id D
        go_upto_region 11 with fail
        replace A := below_alloc_on A (.cells #[.int .i64 Y] 47)
        replace M := M.alloc (.cells #[.int .i64 Y] 47)
        replace B := B.alloc (.cells #[.int .i64 Y] 47)
        replace C := C.alloc (.cells #[.int .i64 Y] 47)
        replace D := D.alloc (.cells #[.int .i64 Y] 47)
        have E := box_new w3 #[.int .i64 Y] 47
        generalize w3.alloc (.cells #[.int .i64 Y] 47) = w4 at *
        generalize w2.heap.size = d at *
        generalize w3.heap.size = k at *
        clear cM fM cB fB cC fC cD fD HP HQ
        obtain ⟨lB, cB, fB⟩ := id B
        obtain ⟨lD, cD, fD⟩ := id D
        go_cut [80] (fun t wx => t = .bool false ∧ Below W.heap.size W wx ∧ Box wx W.heap.size #[.int .i64 s] ∧ Box wx g #[.int .i64 x] ∧ Box wx h #[.int .i64 y] ∧ Box wx d #[.int .i64 X] ∧ Box wx k #[.int .i64 Y])
        case first =>
          have HR := Lib.hid (fun w => pi_out x f 16 w)
          by_cases hs1 : 300 < (16 * f + x) / 65536
          · obtain rfl := HX2.out hs1
            have ho : ouV X f 16 = 300 := by rw [out_hi (by omega) (by omega) f0 f1]; omega
            obtain rfl : O = 300 := by rw [HO.out, ho]
            rw [ho] at HR
            have t1 : (X != X) = false := by simp
            clear ho
            go_wp2_with (fail)
            refine (HR.out _).mono ?_
            rintro e w5 ⟨rfl, hb⟩
            replace A : Below W.heap.size W w5 := by (refine below_call ?_ hb; (repeat (first | (with_reducible exact Below.refl _ _) | (with_reducible assumption) | (with_reducible refine Near.up _ ?_) | (with_reducible refine Below.drew ?_) | (with_reducible refine below_alloc_on ?_ _) | (with_reducible refine below_set_on ?_ (by first | (simp; done) | (simp; omega) | omega) _))))
            replace M := Box.below (g := W.heap.size) (by (repeat (first | (with_reducible assumption) | (with_reducible exact box_new _ _ _) | ((with_reducible apply box_at); (first | (with_reducible rfl) | (simp <;> omega))) | (with_reducible apply Box.drew) | (with_reducible apply Box.drewN) | (with_reducible apply Box.near) | (with_reducible apply Box.alloc) | ((with_reducible apply box_far); (first | assumption | omega | (simp <;> omega))) | (with_reducible apply Box.set) | (simp only [List.size_toArray, List.length_cons, List.length_nil, Array.size_setIfInBounds] <;> omega)))) hb
            (try simp only [List.setIfInBounds_toArray, List.set_cons_zero, List.set_cons_succ] at M)
            (try clear cM fM)
            replace B := Box.below (g := g) (by (repeat (first | (with_reducible assumption) | (with_reducible exact box_new _ _ _) | ((with_reducible apply box_at); (first | (with_reducible rfl) | (simp <;> omega))) | (with_reducible apply Box.drew) | (with_reducible apply Box.drewN) | (with_reducible apply Box.near) | (with_reducible apply Box.alloc) | ((with_reducible apply box_far); (first | assumption | omega | (simp <;> omega))) | (with_reducible apply Box.set) | (simp only [List.size_toArray, List.length_cons, List.length_nil, Array.size_setIfInBounds] <;> omega)))) hb
            (try simp only [List.setIfInBounds_toArray, List.set_cons_zero, List.set_cons_succ] at B)
            (try clear cB fB)
            replace C := Box.below (g := h) (by (repeat (first | (with_reducible assumption) | (with_reducible exact box_new _ _ _) | ((with_reducible apply box_at); (first | (with_reducible rfl) | (simp <;> omega))) | (with_reducible apply Box.drew) | (with_reducible apply Box.drewN) | (with_reducible apply Box.near) | (with_reducible apply Box.alloc) | ((with_reducible apply box_far); (first | assumption | omega | (simp <;> omega))) | (with_reducible apply Box.set) | (simp only [List.size_toArray, List.length_cons, List.length_nil, Array.size_setIfInBounds] <;> omega)))) hb
            (try simp only [List.setIfInBounds_toArray, List.set_cons_zero, List.set_cons_succ] at C)
            (try clear cC fC)
            replace D := Box.below (g := d) (by (repeat (first | (with_reducible assumption) | (with_reducible exact box_new _ _ _) | ((with_reducible apply box_at); (first | (with_reducible rfl) | (simp <;> omega))) | (with_reducible apply Box.drew) | (with_reducible apply Box.drewN) | (with_reducible apply Box.near) | (with_reducible apply Box.alloc) | ((with_reducible apply box_far); (first | assumption | omega | (simp <;> omega))) | (with_reducible apply Box.set) | (simp only [List.size_toArray, List.length_cons, List.length_nil, Array.size_setIfInBounds] <;> omega)))) hb
            (try simp only [List.setIfInBounds_toArray, List.set_cons_zero, List.set_cons_succ] at D)
            (try clear cD fD)
            replace E := Box.below (g := k) (by (repeat (first | (with_reducible assumption) | (with_reducible exact box_new _ _ _) | ((with_reducible apply box_at); (first | (with_reducible rfl) | (simp <;> omega))) | (with_reducible apply Box.drew) | (with_reducible apply Box.drewN) | (with_reducible apply Box.near) | (with_reducible apply Box.alloc) | ((with_reducible apply box_far); (first | assumption | omega | (simp <;> omega))) | (with_reducible apply Box.set) | (simp only [List.size_toArray, List.length_cons, List.length_nil, Array.size_setIfInBounds] <;> omega)))) hb
            (try simp only [List.setIfInBounds_toArray, List.set_cons_zero, List.set_cons_succ] at E)
            (try clear cE fE)
            clear hb
            have z_w5 : W.heap.size ≤ w5.heap.size := A.size
            obtain ⟨lM_w5, cM, fM⟩ := id M
            obtain ⟨lB_w5, cB, fB⟩ := id B
            obtain ⟨lC_w5, cC, fC⟩ := id C
            obtain ⟨lD_w5, cD, fD⟩ := id D
            obtain ⟨lE_w5, cE, fE⟩ := id E
            go_wp2
            go_meet
            exact ⟨rfl, A, M, B, C, D, E⟩
          · generalize ouV x f 16 = R at *
            by_cases hO : O = 300
            · subst hO
              by_cases hR : R = 300
              · subst hR
                go_wp2_with (fail)
                refine (HR.out _).mono ?_
                rintro e w5 ⟨rfl, hb⟩
                replace A : Below W.heap.size W w5 := by (refine below_call ?_ hb; (repeat (first | (with_reducible exact Below.refl _ _) | (with_reducible assumption) | (with_reducible refine Near.up _ ?_) | (with_reducible refine Below.drew ?_) | (with_reducible refine below_alloc_on ?_ _) | (with_reducible refine below_set_on ?_ (by first | (simp; done) | (simp; omega) | omega) _))))
                replace M := Box.below (g := W.heap.size) (by (repeat (first | (with_reducible assumption) | (with_reducible exact box_new _ _ _) | ((with_reducible apply box_at); (first | (with_reducible rfl) | (simp <;> omega))) | (with_reducible apply Box.drew) | (with_reducible apply Box.drewN) | (with_reducible apply Box.near) | (with_reducible apply Box.alloc) | ((with_reducible apply box_far); (first | assumption | omega | (simp <;> omega))) | (with_reducible apply Box.set) | (simp only [List.size_toArray, List.length_cons, List.length_nil, Array.size_setIfInBounds] <;> omega)))) hb
                (try simp only [List.setIfInBounds_toArray, List.set_cons_zero, List.set_cons_succ] at M)
                (try clear cM fM)
                replace B := Box.below (g := g) (by (repeat (first | (with_reducible assumption) | (with_reducible exact box_new _ _ _) | ((with_reducible apply box_at); (first | (with_reducible rfl) | (simp <;> omega))) | (with_reducible apply Box.drew) | (with_reducible apply Box.drewN) | (with_reducible apply Box.near) | (with_reducible apply Box.alloc) | ((with_reducible apply box_far); (first | assumption | omega | (simp <;> omega))) | (with_reducible apply Box.set) | (simp only [List.size_toArray, List.length_cons, List.length_nil, Array.size_setIfInBounds] <;> omega)))) hb
                (try simp only [List.setIfInBounds_toArray, List.set_cons_zero, List.set_cons_succ] at B)
                (try clear cB fB)
                replace C := Box.below (g := h) (by (repeat (first | (with_reducible assumption) | (with_reducible exact box_new _ _ _) | ((with_reducible apply box_at); (first | (with_reducible rfl) | (simp <;> omega))) | (with_reducible apply Box.drew) | (with_reducible apply Box.drewN) | (with_reducible apply Box.near) | (with_reducible apply Box.alloc) | ((with_reducible apply box_far); (first | assumption | omega | (simp <;> omega))) | (with_reducible apply Box.set) | (simp only [List.size_toArray, List.length_cons, List.length_nil, Array.size_setIfInBounds] <;> omega)))) hb
                (try simp only [List.setIfInBounds_toArray, List.set_cons_zero, List.set_cons_succ] at C)
                (try clear cC fC)
                replace D := Box.below (g := d) (by (repeat (first | (with_reducible assumption) | (with_reducible exact box_new _ _ _) | ((with_reducible apply box_at); (first | (with_reducible rfl) | (simp <;> omega))) | (with_reducible apply Box.drew) | (with_reducible apply Box.drewN) | (with_reducible apply Box.near) | (with_reducible apply Box.alloc) | ((with_reducible apply box_far); (first | assumption | omega | (simp <;> omega))) | (with_reducible apply Box.set) | (simp only [List.size_toArray, List.length_cons, List.length_nil, Array.size_setIfInBounds] <;> omega)))) hb
                (try simp only [List.setIfInBounds_toArray, List.set_cons_zero, List.set_cons_succ] at D)
                (try clear cD fD)
                replace E := Box.below (g := k) (by (repeat (first | (with_reducible assumption) | (with_reducible exact box_new _ _ _) | ((with_reducible apply box_at); (first | (with_reducible rfl) | (simp <;> omega))) | (with_reducible apply Box.drew) | (with_reducible apply Box.drewN) | (with_reducible apply Box.near) | (with_reducible apply Box.alloc) | ((with_reducible apply box_far); (first | assumption | omega | (simp <;> omega))) | (with_reducible apply Box.set) | (simp only [List.size_toArray, List.length_cons, List.length_nil, Array.size_setIfInBounds] <;> omega)))) hb
                (try simp only [List.setIfInBounds_toArray, List.set_cons_zero, List.set_cons_succ] at E)
                (try clear cE fE)
                clear hb
                have z_w5 : W.heap.size ≤ w5.heap.size := A.size
                obtain ⟨lM_w5, cM, fM⟩ := id M
                obtain ⟨lB_w5, cB, fB⟩ := id B
                obtain ⟨lC_w5, cC, fC⟩ := id C
                obtain ⟨lD_w5, cD, fD⟩ := id D
                obtain ⟨lE_w5, cE, fE⟩ := id E
                go_wp2
                go_meet
                exact ⟨rfl, A, M, B, C, D, E⟩
              · have t1 : (R == 300) = false := by simpa using hR
                go_wp2_with (fail)
                refine (HR.out _).mono ?_
                rintro e w5 ⟨rfl, hb⟩
                replace A : Below W.heap.size W w5 := by (refine below_call ?_ hb; (repeat (first | (with_reducible exact Below.refl _ _) | (with_reducible assumption) | (with_reducible refine Near.up _ ?_) | (with_reducible refine Below.drew ?_) | (with_reducible refine below_alloc_on ?_ _) | (with_reducible refine below_set_on ?_ (by first | (simp; done) | (simp; omega) | omega) _))))
                replace M := Box.below (g := W.heap.size) (by (repeat (first | (with_reducible assumption) | (with_reducible exact box_new _ _ _) | ((with_reducible apply box_at); (first | (with_reducible rfl) | (simp <;> omega))) | (with_reducible apply Box.drew) | (with_reducible apply Box.drewN) | (with_reducible apply Box.near) | (with_reducible apply Box.alloc) | ((with_reducible apply box_far); (first | assumption | omega | (simp <;> omega))) | (with_reducible apply Box.set) | (simp only [List.size_toArray, List.length_cons, List.length_nil, Array.size_setIfInBounds] <;> omega)))) hb
                (try simp only [List.setIfInBounds_toArray, List.set_cons_zero, List.set_cons_succ] at M)
                (try clear cM fM)
                replace B := Box.below (g := g) (by (repeat (first | (with_reducible assumption) | (with_reducible exact box_new _ _ _) | ((with_reducible apply box_at); (first | (with_reducible rfl) | (simp <;> omega))) | (with_reducible apply Box.drew) | (with_reducible apply Box.drewN) | (with_reducible apply Box.near) | (with_reducible apply Box.alloc) | ((with_reducible apply box_far); (first | assumption | omega | (simp <;> omega))) | (with_reducible apply Box.set) | (simp only [List.size_toArray, List.length_cons, List.length_nil, Array.size_setIfInBounds] <;> omega)))) hb
                (try simp only [List.setIfInBounds_toArray, List.set_cons_zero, List.set_cons_succ] at B)
                (try clear cB fB)
                replace C := Box.below (g := h) (by (repeat (first | (with_reducible assumption) | (with_reducible exact box_new _ _ _) | ((with_reducible apply box_at); (first | (with_reducible rfl) | (simp <;> omega))) | (with_reducible apply Box.drew) | (with_reducible apply Box.drewN) | (with_reducible apply Box.near) | (with_reducible apply Box.alloc) | ((with_reducible apply box_far); (first | assumption | omega | (simp <;> omega))) | (with_reducible apply Box.set) | (simp only [List.size_toArray, List.length_cons, List.length_nil, Array.size_setIfInBounds] <;> omega)))) hb
                (try simp only [List.setIfInBounds_toArray, List.set_cons_zero, List.set_cons_succ] at C)
                (try clear cC fC)
                replace D := Box.below (g := d) (by (repeat (first | (with_reducible assumption) | (with_reducible exact box_new _ _ _) | ((with_reducible apply box_at); (first | (with_reducible rfl) | (simp <;> omega))) | (with_reducible apply Box.drew) | (with_reducible apply Box.drewN) | (with_reducible apply Box.near) | (with_reducible apply Box.alloc) | ((with_reducible apply box_far); (first | assumption | omega | (simp <;> omega))) | (with_reducible apply Box.set) | (simp only [List.size_toArray, List.length_cons, List.length_nil, Array.size_setIfInBounds] <;> omega)))) hb
                (try simp only [List.setIfInBounds_toArray, List.set_cons_zero, List.set_cons_succ] at D)
                (try clear cD fD)
                replace E := Box.below (g := k) (by (repeat (first | (with_reducible assumption) | (with_reducible exact box_new _ _ _) | ((with_reducible apply box_at); (first | (with_reducible rfl) | (simp <;> omega))) | (with_reducible apply Box.drew) | (with_reducible apply Box.drewN) | (with_reducible apply Box.near) | (with_reducible apply Box.alloc) | ((with_reducible apply box_far); (first | assumption | omega | (simp <;> omega))) | (with_reducible apply Box.set) | (simp only [List.size_toArray, List.length_cons, List.length_nil, Array.size_setIfInBounds] <;> omega)))) hb
                (try simp only [List.setIfInBounds_toArray, List.set_cons_zero, List.set_cons_succ] at E)
                (try clear cE fE)
                clear hb
                have z_w5 : W.heap.size ≤ w5.heap.size := A.size
                obtain ⟨lM_w5, cM, fM⟩ := id M
                obtain ⟨lB_w5, cB, fB⟩ := id B
                obtain ⟨lC_w5, cC, fC⟩ := id C
                obtain ⟨lD_w5, cD, fD⟩ := id D
                obtain ⟨lE_w5, cE, fE⟩ := id E
                go_wp2
                go_meet
                exact ⟨rfl, A, M, B, C, D, E⟩
            · have t1 : (O == 300) = false := by simpa using hO
              go_wp2
              go_meet
              exact ⟨rfl, A, M, B, C, D, E⟩
        case rest =>
          obtain ⟨rfl, A, M, B, C, D, E⟩ := hcut
          clear HO
          go_upto_region 13 with fail
          obtain ⟨lC, cC, fC⟩ := id C
          obtain ⟨lE, cE, fE⟩ := id E
          go_cut [95] (fun t wx => t = .bool false ∧ wc = wx)
          case first =>
            by_cases hp : y + 65536 < 16 * f
            · have hneg : (16 * -f + y) / 65536 < 0 := by omega
              obtain rfl := HY2.out hneg
              obtain rfl : U = 0 := by rw [HU.out, out_lo (by omega) (by omega) f0 f1]; omega
              have t1 : (Y != Y) = false := by simp
              clear hneg
              go_wp2
              go_meet
              exact ⟨rfl, rfl⟩
            · go_wp2
              go_meet
              exact ⟨rfl, rfl⟩
          case rest =>
            obtain ⟨rfl, rfl⟩ := hcut
            clear HU HY2 cC fC cE fE
            obtain ⟨lM, cM, fM⟩ := id M
            have HZ := Lib.hid (fun w => pi_step s f 16 4 w)
            rw [hi_is s0 s1 f0 f1] at HZ
            obtain ⟨_, _, z2⟩ := hi_bd (f := f) s0 s1 f0
            have HZ2 := Lib.hid z2
            clear z2
            generalize hiV s f = V at *
            go_wp2_with (fail)
            refine (HZ.out _).mono ?_
            rintro e w5 ⟨rfl, hb⟩
            replace A : Below W.heap.size W w5 := by (refine below_call ?_ hb; (repeat (first | (with_reducible exact Below.refl _ _) | (with_reducible assumption) | (with_reducible refine Near.up _ ?_) | (with_reducible refine Below.drew ?_) | (with_reducible refine below_alloc_on ?_ _) | (with_reducible refine below_set_on ?_ (by first | (simp; done) | (simp; omega) | omega) _))))
            replace M := Box.below (g := W.heap.size) (by (repeat (first | (with_reducible assumption) | (with_reducible exact box_new _ _ _) | ((with_reducible apply box_at); (first | (with_reducible rfl) | (simp <;> omega))) | (with_reducible apply Box.drew) | (with_reducible apply Box.drewN) | (with_reducible apply Box.near) | (with_reducible apply Box.alloc) | ((with_reducible apply box_far); (first | assumption | omega | (simp <;> omega))) | (with_reducible apply Box.set) | (simp only [List.size_toArray, List.length_cons, List.length_nil, Array.size_setIfInBounds] <;> omega)))) hb
            (try simp only [List.setIfInBounds_toArray, List.set_cons_zero, List.set_cons_succ] at M)
            (try clear cM fM)
            replace B := Box.below (g := g) (by (repeat (first | (with_reducible assumption) | (with_reducible exact box_new _ _ _) | ((with_reducible apply box_at); (first | (with_reducible rfl) | (simp <;> omega))) | (with_reducible apply Box.drew) | (with_reducible apply Box.drewN) | (with_reducible apply Box.near) | (with_reducible apply Box.alloc) | ((with_reducible apply box_far); (first | assumption | omega | (simp <;> omega))) | (with_reducible apply Box.set) | (simp only [List.size_toArray, List.length_cons, List.length_nil, Array.size_setIfInBounds] <;> omega)))) hb
            (try simp only [List.setIfInBounds_toArray, List.set_cons_zero, List.set_cons_succ] at B)
            (try clear cB fB)
            replace D := Box.below (g := d) (by (repeat (first | (with_reducible assumption) | (with_reducible exact box_new _ _ _) | ((with_reducible apply box_at); (first | (with_reducible rfl) | (simp <;> omega))) | (with_reducible apply Box.drew) | (with_reducible apply Box.drewN) | (with_reducible apply Box.near) | (with_reducible apply Box.alloc) | ((with_reducible apply box_far); (first | assumption | omega | (simp <;> omega))) | (with_reducible apply Box.set) | (simp only [List.size_toArray, List.length_cons, List.length_nil, Array.size_setIfInBounds] <;> omega)))) hb
            (try simp only [List.setIfInBounds_toArray, List.set_cons_zero, List.set_cons_succ] at D)
            (try clear cD fD)
            replace E := Box.below (g := k) (by (repeat (first | (with_reducible assumption) | (with_reducible exact box_new _ _ _) | ((with_reducible apply box_at); (first | (with_reducible rfl) | (simp <;> omega))) | (with_reducible apply Box.drew) | (with_reducible apply Box.drewN) | (with_reducible apply Box.near) | (with_reducible apply Box.alloc) | ((with_reducible apply box_far); (first | assumption | omega | (simp <;> omega))) | (with_reducible apply Box.set) | (simp only [List.size_toArray, List.length_cons, List.length_nil, Array.size_setIfInBounds] <;> omega)))) hb
            (try simp only [List.setIfInBounds_toArray, List.set_cons_zero, List.set_cons_succ] at E)
            (try clear cE fE)
            clear hb
            have z_w5 : W.heap.size ≤ w5.heap.size := A.size
            obtain ⟨lM_w5, cM, fM⟩ := id M
            obtain ⟨lB_w5, cB, fB⟩ := id B
            obtain ⟨lD_w5, cD, fD⟩ := id D
            obtain ⟨lE_w5, cE, fE⟩ := id E
            by_cases hq : 300 < (16 * f + s) / 65536
            · obtain rfl := HZ2.out hq
              obtain rfl := HXS.out hq
              have t1 : (x != x) = false := by simp
              have t2 : decide (x ≤ X) = true := decide_eq_true (by omega)
              have t3 : decide (Y ≤ x) = true := decide_eq_true (by omega)
              go_wp2_with (fail)
              refine (law27_awake _).mono ?_
              rintro e w6 ⟨rfl, hb⟩
              replace A : Below W.heap.size W w6 := by (refine below_call ?_ hb; (repeat (first | (with_reducible exact Below.refl _ _) | (with_reducible assumption) | (with_reducible refine Near.up _ ?_) | (with_reducible refine Below.drew ?_) | (with_reducible refine below_alloc_on ?_ _) | (with_reducible refine below_set_on ?_ (by first | (simp; done) | (simp; omega) | omega) _))))
              clear hb
              have z_w6 : W.heap.size ≤ w6.heap.size := A.size
              go_wp2
              all_goals go_ret
              all_goals exact ⟨rfl, A⟩
            · have t2 : decide (s ≤ X) = true := decide_eq_true (by omega)
              have t3 : decide (Y ≤ s) = true := decide_eq_true (by omega)
              go_wp2_with (fail)
              refine (law27_awake _).mono ?_
              rintro e w6 ⟨rfl, hb⟩
              replace A : Below W.heap.size W w6 := by (refine below_call ?_ hb; (repeat (first | (with_reducible exact Below.refl _ _) | (with_reducible assumption) | (with_reducible refine Near.up _ ?_) | (with_reducible refine Below.drew ?_) | (with_reducible refine below_alloc_on ?_ _) | (with_reducible refine below_set_on ?_ (by first | (simp; done) | (simp; omega) | omega) _))))
              clear hb
              have z_w6 : W.heap.size ≤ w6.heap.size := A.size
              go_wp2
              all_goals go_ret
              all_goals exact ⟨rfl, A⟩

theorem walk (a : Int) (wa : (Lit.int .u32 a).wf = true) (b : Int) (wb : (Lit.int .u32 b).wf = true) (c : Int) (wc : (Lit.int .u8 c).wf = true) (W : World) :
    Calls Try.prog 8 #[.int .u32 a, .int .u32 b, .int .u8 c] W fun e W' => e = .returned (.bool true) ∧ Below W.heap.size W W' := by
  simp only [Lit.wf, IntKind.min, IntKind.max, IntKind.signed, IntKind.bits, Bool.and_eq_true] at wa wb wc
  simp at wa wb wc
  obtain ⟨m, rfl⟩ : ∃ m : Nat, c = (m : Int) := ⟨c.toNat, by omega⟩
  exact way W a b m (by omega) (by omega) (by omega) (by omega) (by omega)

theorem lifted (os : Os) (started : os.Started) (H : Type) (enc : TypeId × Value → H) :
    ReturnsInHanded {} Try.checked os 8 .any (Rows.piWindupSpec.pre6 enc Try.prog Try.f8 Rows.piWindupRow.domain false) (Rows.piWindupSpec.post enc Try.prog Try.f8 false true false false) := by
  refine law_lift started (by kernel_rfl) Try.func8 rfl rfl ?_ (by kernel_rfl)
    (ChangeSpec.witness6 (enc := enc) (C := Try.checked) false ⟨#[], #[.int .u32 0, .int .u32 0, .int .u8 0], []⟩ 8 (by kernel_rfl) (by kernel_rfl) (by kernel_rfl) (by kernel_rfl)) ?_
  · intro ds hl
    match ds, hl with
    | [_, _, _], _ => exact ⟨rfl, rfl, rfl⟩
  · intro W base args ds p hval hA hlt hwt
    rw [Try.params8] at hA hval hwt
    obtain ⟨v0, vs0, d0, ds0, p0, q0, hargs, rfl, rfl, h0, r0⟩ := trodAll_cons hA
    obtain ⟨v1, vs1, d1, ds1, p1, q1, rfl, rfl, rfl, h1, r1⟩ := trodAll_cons r0
    obtain ⟨v2, vs2, d2, ds2, p2, q2, rfl, rfl, rfl, h2, r2⟩ := trodAll_cons r1
    obtain ⟨rfl, rfl, rfl⟩ := trodAll_nil r2
    obtain rfl : args = #[v0, v1, v2] := by cases args; simp_all
    obtain ⟨a0, rfl, rfl, rfl, w0⟩ := open_int Try.underlying45 (hval 0 45 v0 rfl rfl) h0
    obtain ⟨a1, rfl, rfl, rfl, w1⟩ := open_int Try.underlying45 (hval 1 45 v1 rfl rfl) h1
    obtain ⟨a2, rfl, rfl, rfl, w2⟩ := open_int Try.underlying5 (hval 2 5 v2 rfl rfl) h2
    exact walk a0 w0 a1 w1 a2 w2 W

theorem over : Rows.piWindupRow.holds Try.pinned (OpenSpec.ofChange Rows.piWindupSpec) :=
  OpenClaim.holds_of_wide 8 Try.f8 rfl rfl rfl rfl rfl rfl rfl ⟨rfl, rfl, rfl, rfl, rfl⟩ rfl rfl rfl rfl rfl (by kernel_rfl) Try.func8 (by kernel_rfl)
    (of_decide_eq_true (by kernel_rfl)) (by unfold Func.isWrapper; first | (rw [if_pos (by decide +kernel)]; kernel_rfl) | (rw [if_neg (by decide +kernel)]; exact ⟨rfl, rfl⟩))
    (fun os started H enc _ => lifted os started H enc)

theorem proved : Rows.PiWindupSaid := over
#print axioms proved
end Go.Proofs.Ytmojkehedkhdbaa.piWindup
