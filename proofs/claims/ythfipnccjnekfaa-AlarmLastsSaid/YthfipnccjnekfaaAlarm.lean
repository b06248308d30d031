/- Contracts of package alarm, the document's, and the law package's own. -/
import Derived.Test.YthfipnccjnekfaaMore
import Derived.Test.YthfipnccjnekfaaBx
import Derived.Deep.DeepCutAuto
namespace Go.Proofs.Ythfipnccjnekfaa
open Go.RowKit
set_option linter.unusedVariables false
attribute [local go_sem] cell_set_ite Near.cell Near.frozen

def alN (n : Int) : Int := min (max n 0) 3
def siV (n : Int) (f s : Bool) : Int := if f = true then 0 else if s = true then 6000 else min (max n 1) 6000 - 1
def shV (a n : Int) : Int := if n = 2 ∧ 3000 ≤ a then 3 else n
def csV (shown sil : Int) : Int := if sil ≤ 0 then shown else if shown = 3 then 1 else 0
def alA (a n : Int) : Int := if alN n = 0 then 0 else moV a
def alS (b n : Int) (f s : Bool) : Int := if alN n = 0 then 0 else siV b f s
def alT (a n : Int) : Int := if alN n = 0 then 0 else shV (moV a) (alN n)
def alC (a b n : Int) (f s : Bool) : Int := if alN n = 0 then 0 else csV (shV (moV a) (alN n)) (siV b f s)
theorem si_bd (n : Int) (f s : Bool) : 0 ≤ siV n f s ∧ siV n f s ≤ 6000 := by unfold siV; split <;> (try split) <;> omega

theorem al_shown (a b n : Int) (w : World) : Calls Try.prog 35 #[.agg #[.int .i64 a, .int .i64 b], .int .i64 n] w fun e w' => e = .returned (.int .i64 (shV a n)) ∧ Below w.heap.size w w' := by
  unfold shV
  by_cases h : n = 2
  · subst h
    by_cases g : 3000 ≤ a
    · rw [if_pos ⟨rfl, g⟩]
      go_enter Try.func35, Try.ntmps35
      go_wp2
      all_goals go_ret
      all_goals exact ⟨rfl, by (repeat (first | (with_reducible exact Below.refl _ _) | (with_reducible assumption) | (with_reducible refine Near.up _ ?_) | (with_reducible refine Below.drew ?_) | (with_reducible refine below_alloc_on ?_ _) | (with_reducible refine below_set_on ?_ (by first | (simp; done) | (simp; omega) | omega) _)))⟩
    · rw [if_neg (fun h => g h.2)]
      have t1 := decide_eq_false g
      go_enter Try.func35, Try.ntmps35
      go_wp2
      all_goals go_ret
      all_goals exact ⟨rfl, by (repeat (first | (with_reducible exact Below.refl _ _) | (with_reducible assumption) | (with_reducible refine Near.up _ ?_) | (with_reducible refine Below.drew ?_) | (with_reducible refine below_alloc_on ?_ _) | (with_reducible refine below_set_on ?_ (by first | (simp; done) | (simp; omega) | omega) _)))⟩
  · rw [if_neg (fun k => h k.1)]
    have t1 : (n == 2) = false := by simpa using h
    clear h
    go_enter Try.func35, Try.ntmps35
    go_wp2
    all_goals go_ret
    all_goals exact ⟨rfl, by (repeat (first | (with_reducible exact Below.refl _ _) | (with_reducible assumption) | (with_reducible refine Near.up _ ?_) | (with_reducible refine Below.drew ?_) | (with_reducible refine below_alloc_on ?_ _) | (with_reducible refine below_set_on ?_ (by first | (simp; done) | (simp; omega) | omega) _)))⟩
theorem ra_shown (a b n : Int) (w : World) : Calls Try.prog 36 #[.agg #[.int .i64 a, .int .i64 b], .int .i64 n] w fun e w' => e = .returned (.int .i64 (shV a n)) ∧ Below w.heap.size w w' := by
  unfold shV
  by_cases h : n = 2
  · subst h
    by_cases g : 3000 ≤ a
    · rw [if_pos ⟨rfl, g⟩]
      go_enter Try.func36, Try.ntmps36
      go_wp2
      all_goals go_ret
      all_goals exact ⟨rfl, by (repeat (first | (with_reducible exact Below.refl _ _) | (with_reducible assumption) | (with_reducible refine Near.up _ ?_) | (with_reducible refine Below.drew ?_) | (with_reducible refine below_alloc_on ?_ _) | (with_reducible refine below_set_on ?_ (by first | (simp; done) | (simp; omega) | omega) _)))⟩
    · rw [if_neg (fun h => g h.2)]
      have t1 := decide_eq_false g
      go_enter Try.func36, Try.ntmps36
      go_wp2
      all_goals go_ret
      all_goals exact ⟨rfl, by (repeat (first | (with_reducible exact Below.refl _ _) | (with_reducible assumption) | (with_reducible refine Near.up _ ?_) | (with_reducible refine Below.drew ?_) | (with_reducible refine below_alloc_on ?_ _) | (with_reducible refine below_set_on ?_ (by first | (simp; done) | (simp; omega) | omega) _)))⟩
  · rw [if_neg (fun k => h k.1)]
    have t1 : (n == 2) = false := by simpa using h
    clear h
    go_enter Try.func36, Try.ntmps36
    go_wp2
    all_goals go_ret
    all_goals exact ⟨rfl, by (repeat (first | (with_reducible exact Below.refl _ _) | (with_reducible assumption) | (with_reducible refine Near.up _ ?_) | (with_reducible refine Below.drew ?_) | (with_reducible refine below_alloc_on ?_ _) | (with_reducible refine below_set_on ?_ (by first | (simp; done) | (simp; omega) | omega) _)))⟩
theorem al_silent (n : Int) (f s : Bool) (w : World) : Calls Try.prog 49 #[.int .i64 n, .bool f, .bool s] w fun e w' => e = .returned (.int .i64 (siV n f s)) ∧ w = w' := by
  cases f <;> cases s
  all_goals go_enter Try.func49, Try.ntmps49
  all_goals go_wp2
  all_goals go_ret
  all_goals exact ⟨ret_i (by simp [siV] <;> omega), rfl⟩
theorem al_class (a b n : Int) (hb : 0 ≤ b) (w : World) : Calls Try.prog 50 #[.agg #[.int .i64 a, .int .i64 b], .int .i64 n] w fun e w' => e = .returned (.int .i64 (csV n b)) ∧ Below w.heap.size w w' := by
  unfold csV
  by_cases h : b = 0
  · subst h
    rw [if_pos (by omega)]
    go_enter Try.func50, Try.ntmps50
    go_wp2
    all_goals go_ret
    all_goals exact ⟨rfl, by (repeat (first | (with_reducible exact Below.refl _ _) | (with_reducible assumption) | (with_reducible refine Near.up _ ?_) | (with_reducible refine Below.drew ?_) | (with_reducible refine below_alloc_on ?_ _) | (with_reducible refine below_set_on ?_ (by first | (simp; done) | (simp; omega) | omega) _)))⟩
  · have t1 : (b == 0) = false := by simpa using h
    rw [if_neg (by omega)]
    by_cases g : n = 3
    · subst g
      rw [if_pos rfl]
      go_enter Try.func50, Try.ntmps50
      go_wp2
      all_goals go_ret
      all_goals exact ⟨rfl, by (repeat (first | (with_reducible exact Below.refl _ _) | (with_reducible assumption) | (with_reducible refine Near.up _ ?_) | (with_reducible refine Below.drew ?_) | (with_reducible refine below_alloc_on ?_ _) | (with_reducible refine below_set_on ?_ (by first | (simp; done) | (simp; omega) | omega) _)))⟩
    · have t2 : (n == 3) = false := by simpa using g
      rw [if_neg g]
      clear g h
      go_enter Try.func50, Try.ntmps50
      go_wp2
      all_goals go_ret
      all_goals exact ⟨rfl, by (repeat (first | (with_reducible exact Below.refl _ _) | (with_reducible assumption) | (with_reducible refine Near.up _ ?_) | (with_reducible refine Below.drew ?_) | (with_reducible refine below_alloc_on ?_ _) | (with_reducible refine below_set_on ?_ (by first | (simp; done) | (simp; omega) | omega) _)))⟩
theorem ra_class (n b : Int) (w : World) : Calls Try.prog 51 #[.int .i64 n, .int .i64 b] w fun e w' => e = .returned (.int .i64 (csV n b)) ∧ w = w' := by
  unfold csV
  by_cases h : b ≤ 0
  · rw [if_pos h]
    go_enter Try.func51, Try.ntmps51
    go_wp2
    all_goals go_ret
    all_goals exact ⟨rfl, rfl⟩
  · rw [if_neg h]
    by_cases g : n = 3
    · subst g
      rw [if_pos rfl]
      go_enter Try.func51, Try.ntmps51
      go_wp2
      all_goals go_ret
      all_goals exact ⟨rfl, rfl⟩
    · have t2 : (n == 3) = false := by simpa using g
      rw [if_neg g]
      clear g
      go_enter Try.func51, Try.ntmps51
      go_wp2
      all_goals go_ret
      all_goals exact ⟨rfl, rfl⟩
theorem kp2_mk {W w : World} {g : Nat} {v0 v1 : Value} (h : Bx W g #[v0, v1] w) :
    w.cell? ⟨g, 0, none⟩ = some v0 ∧ w.cell? ⟨g, 1, none⟩ = some v1 ∧ g < w.heap.size ∧ Bx W g #[v0, v1] w :=
  ⟨h.box.two.1, h.box.two.2.1, h.box.1, h⟩
theorem kp2_out {W w : World} {g : Nat} {v0 v1 : Value} (h : w.cell? ⟨g, 0, none⟩ = some v0 ∧ w.cell? ⟨g, 1, none⟩ = some v1 ∧ g < w.heap.size ∧ Bx W g #[v0, v1] w) : Bx W g #[v0, v1] w := h.2.2.2

set_option maxHeartbeats 2000000 in
theorem al_way (a b n : Int) (f s : Bool) (h : 1 ≤ n) (w : World) : Calls Try.prog 33 #[.agg #[.int .i64 a, .int .i64 b], .int .i64 n, .bool f, .bool s] w fun e w' =>
    e = .returned (.tuple #[.agg #[.int .i64 (moV a), .int .i64 (siV b f s)], .int .i64 (shV (moV a) (alN n)), .int .i64 (csV (shV (moV a) (alN n)) (siV b f s))]) ∧ Below w.heap.size w w' := by
  have ⟨s0, s1⟩ := si_bd b f s
  have HL := Lib.hid (fun w => al_silent b f s w)
  have HC := Lib.hid (fun (x m : Int) w => al_class x (siV b f s) m s0 w)
  have A : Below w.heap.size w w := Below.refl _ _
  obtain ⟨N, hn⟩ : ∃ N, (if 3 < n then 3 else n) = N := ⟨_, rfl⟩
  rw [show alN n = N by rw [← hn]; unfold alN; split <;> omega]
  have t0 : (N == 0) = false := by rw [← hn]; simp; split <;> omega
  obtain ⟨X, hx⟩ : ∃ X, (if a < 0 then 0 else a) = X := ⟨_, rfl⟩
  obtain ⟨Y, hy⟩ : ∃ Y, (if 1099511627776 < X then 1099511627776 else X) = Y := ⟨_, rfl⟩
  have y0 : 0 ≤ Y := by rw [← hy, ← hx]; split <;> split <;> omega
  have y1 : Y ≤ 1099511627776 := by rw [← hy]; split <;> omega
  rw [show moV a = Y + 1 by rw [← hy, ← hx]; unfold moV; split <;> split <;> omega]
  have X0 : Bx w w.heap.size #[.int .i64 a, .int .i64 b] (w.alloc (.cells #[.int .i64 a, .int .i64 b] 49)) := ⟨box_new _ _ _, below_alloc_on A _, Nat.le_refl _⟩
  generalize siV b f s = S at *
  have hw : IntKind.i64.wrap (Y + 1) = Y + 1 := IntWalk.i64_in _ (by omega)
  go_enter Try.func33, Try.ntmps33
  go_upto_region 4 with fail
  go_cut [12] (fun v wx => ∃ g, v = .pointer (some ⟨g, 0, none⟩) ∧ w.heap.size + 2 ≤ g ∧ Below w.heap.size w wx ∧ Box wx g #[.int .i64 (Y + 1), .int .i64 S] ∧ Box wx (w.heap.size + 1) #[.int .i64 0, .int .i64 0])
  case first =>
    go_region_held3 (fun w' => w'.cell? ⟨w.heap.size, 0, none⟩ = some (.int .i64 a) ∧ w'.cell? ⟨w.heap.size, 1, none⟩ = some (.int .i64 b) ∧ w.heap.size < w'.heap.size ∧ Bx w w.heap.size #[.int .i64 a, .int .i64 b] w')
      ((exact ⟨Bx.cell (W := w) (g := w.heap.size) (cs := #[.int .i64 a, .int .i64 b]) (by (repeat (first | assumption | (refine Bx.call ?_ hb) | (refine Bx.drew ?_) | (refine Bx.alloc ?_ _) | (refine Bx.far2 ?_ (by first | (simp; done) | (simp; omega) | omega) (by first | (simp; done) | (simp; omega) | omega) _)))) 0 _ rfl, Bx.cell (W := w) (g := w.heap.size) (cs := #[.int .i64 a, .int .i64 b]) (by (repeat (first | assumption | (refine Bx.call ?_ hb) | (refine Bx.drew ?_) | (refine Bx.alloc ?_ _) | (refine Bx.far2 ?_ (by first | (simp; done) | (simp; omega) | omega) (by first | (simp; done) | (simp; omega) | omega) _)))) 1 _ rfl, Bx.lt (W := w) (g := w.heap.size) (cs := #[.int .i64 a, .int .i64 b]) (by (repeat (first | assumption | (refine Bx.call ?_ hb) | (refine Bx.drew ?_) | (refine Bx.alloc ?_ _) | (refine Bx.far2 ?_ (by first | (simp; done) | (simp; omega) | omega) (by first | (simp; done) | (simp; omega) | omega) _)))), (by (repeat (first | assumption | (refine Bx.call ?_ hb) | (refine Bx.drew ?_) | (refine Bx.alloc ?_ _) | (refine Bx.far2 ?_ (by first | (simp; done) | (simp; omega) | omega) (by first | (simp; done) | (simp; omega) | omega) _))))⟩))
      (first | (go_at_call 49; refine (HL.out _).mono ?_; rintro e w1 ⟨rfl, rfl⟩))
    all_goals go_wp2_with (fail)
    all_goals go_meet
    all_goals exact ⟨w.heap.size + 1 + 1, rfl, by omega, by (repeat (first | (with_reducible exact Below.refl _ _) | (with_reducible assumption) | (with_reducible refine Near.up _ ?_) | (with_reducible refine Below.drew ?_) | (with_reducible refine below_alloc_on ?_ _) | (with_reducible refine below_set_on ?_ (by first | (simp; done) | (simp; omega) | omega) _))), by (repeat (first | (with_reducible assumption) | (with_reducible exact box_new _ _ _) | ((with_reducible apply box_at); (first | (with_reducible rfl) | (simp <;> omega))) | (with_reducible apply Box.drew) | (with_reducible apply Box.drewN) | (with_reducible apply Box.near) | (with_reducible apply Box.alloc) | ((with_reducible apply box_far); (first | assumption | omega | (simp <;> omega))) | (with_reducible apply Box.set) | (simp only [List.size_toArray, List.length_cons, List.length_nil, Array.size_setIfInBounds] <;> omega))), by (repeat (first | (with_reducible assumption) | (with_reducible exact box_new _ _ _) | ((with_reducible apply box_at); (first | (with_reducible rfl) | (simp <;> omega))) | (with_reducible apply Box.drew) | (with_reducible apply Box.drewN) | (with_reducible apply Box.near) | (with_reducible apply Box.alloc) | ((with_reducible apply box_far); (first | assumption | omega | (simp <;> omega))) | (with_reducible apply Box.set) | (simp only [List.size_toArray, List.length_cons, List.length_nil, Array.size_setIfInBounds] <;> omega)))⟩
  case rest =>
    clear X0 HL hx hy hw y0 y1
    obtain ⟨g, rfl, hg, A, B, R⟩ := hcut
    obtain ⟨lB, cB, fB⟩ := id B
    go_wp2_with (fail)
    refine (al_shown _ _ _ _).mono ?_
    rintro e w3 ⟨rfl, hb⟩
    replace A : Below w.heap.size w w3 := by (refine below_call ?_ hb; (repeat (first | (with_reducible exact Below.refl _ _) | (with_reducible assumption) | (with_reducible refine Near.up _ ?_) | (with_reducible refine Below.drew ?_) | (with_reducible refine below_alloc_on ?_ _) | (with_reducible refine below_set_on ?_ (by first | (simp; done) | (simp; omega) | omega) _))))
    replace B := Box.below (g := g) (by (repeat (first | (with_reducible assumption) | (with_reducible exact box_new _ _ _) | ((with_reducible apply box_at); (first | (with_reducible rfl) | (simp <;> omega))) | (with_reducible apply Box.drew) | (with_reducible apply Box.drewN) | (with_reducible apply Box.near) | (with_reducible apply Box.alloc) | ((with_reducible apply box_far); (first | assumption | omega | (simp <;> omega))) | (with_reducible apply Box.set) | (simp only [List.size_toArray, List.length_cons, List.length_nil, Array.size_setIfInBounds] <;> omega)))) hb
    (try simp only [List.setIfInBounds_toArray, List.set_cons_zero, List.set_cons_succ] at B)
    (try clear cB fB)
    replace R := Box.below (g := w.heap.size + 1) (by (repeat (first | (with_reducible assumption) | (with_reducible exact box_new _ _ _) | ((with_reducible apply box_at); (first | (with_reducible rfl) | (simp <;> omega))) | (with_reducible apply Box.drew) | (with_reducible apply Box.drewN) | (with_reducible apply Box.near) | (with_reducible apply Box.alloc) | ((with_reducible apply box_far); (first | assumption | omega | (simp <;> omega))) | (with_reducible apply Box.set) | (simp only [List.size_toArray, List.length_cons, List.length_nil, Array.size_setIfInBounds] <;> omega)))) hb
    (try simp only [List.setIfInBounds_toArray, List.set_cons_zero, List.set_cons_succ] at R)
    (try clear cR fR)
    clear hb
    have z_w3 : w.heap.size ≤ w3.heap.size := A.size
    obtain ⟨lB_w3, cB, fB⟩ := id B
    obtain ⟨lR_w3, cR, fR⟩ := id R
    have X1 : Bx w g #[.int .i64 (Y + 1), .int .i64 S] w3 := ⟨B, A, by omega⟩
    go_wp2
    go_region_held3 (fun w' => w'.cell? ⟨g, 0, none⟩ = some (.int .i64 (Y + 1)) ∧ w'.cell? ⟨g, 1, none⟩ = some (.int .i64 S) ∧ g < w'.heap.size ∧ Bx w g #[.int .i64 (Y + 1), .int .i64 S] w')
      ((exact ⟨Bx.cell (W := w) (g := g) (cs := #[.int .i64 (Y + 1), .int .i64 S]) (by (repeat (first | assumption | (refine Bx.call ?_ hb) | (refine Bx.drew ?_) | (refine Bx.alloc ?_ _) | (refine Bx.far2 ?_ (by first | (simp; done) | (simp; omega) | omega) (by first | (simp; done) | (simp; omega) | omega) _)))) 0 _ rfl, Bx.cell (W := w) (g := g) (cs := #[.int .i64 (Y + 1), .int .i64 S]) (by (repeat (first | assumption | (refine Bx.call ?_ hb) | (refine Bx.drew ?_) | (refine Bx.alloc ?_ _) | (refine Bx.far2 ?_ (by first | (simp; done) | (simp; omega) | omega) (by first | (simp; done) | (simp; omega) | omega) _)))) 1 _ rfl, Bx.lt (W := w) (g := g) (cs := #[.int .i64 (Y + 1), .int .i64 S]) (by (repeat (first | assumption | (refine Bx.call ?_ hb) | (refine Bx.drew ?_) | (refine Bx.alloc ?_ _) | (refine Bx.far2 ?_ (by first | (simp; done) | (simp; omega) | omega) (by first | (simp; done) | (simp; omega) | omega) _)))), (by (repeat (first | assumption | (refine Bx.call ?_ hb) | (refine Bx.drew ?_) | (refine Bx.alloc ?_ _) | (refine Bx.far2 ?_ (by first | (simp; done) | (simp; omega) | omega) (by first | (simp; done) | (simp; omega) | omega) _))))⟩))
      (first | (go_at_call 50; refine (HC.out _ _ _).mono ?_; rintro e w4 ⟨rfl, hb⟩; have R4 := R.drew.below hb; have r0 := R4.two.1; have r1 := R4.two.2.1; have rf := R4.two.2.2.1; have rl := R4.1; have A4 := below_call (Below.drew A) hb))
    go_wp2
    exact bodyPost_ret (v := .tuple #[.agg #[.int .i64 (Y + 1), .int .i64 S], .int .i64 (shV (Y + 1) N), .int .i64 (csV (shV (Y + 1) N) S)]) (by simp [results, Try.results33, go_sem, r0, r1]) rfl ⟨rfl, by (repeat (first | (with_reducible exact Below.refl _ _) | (with_reducible assumption) | (with_reducible refine Near.up _ ?_) | (with_reducible refine Below.drew ?_) | (with_reducible refine below_alloc_on ?_ _) | (with_reducible refine below_set_on ?_ (by first | (simp; done) | (simp; omega) | omega) _)))⟩
theorem al_step (a b n : Int) (f s : Bool) (w : World) : Calls Try.prog 33 #[.agg #[.int .i64 a, .int .i64 b], .int .i64 n, .bool f, .bool s] w fun e w' =>
    e = .returned (.tuple #[.agg #[.int .i64 (alA a n), .int .i64 (alS b n f s)], .int .i64 (alT a n), .int .i64 (alC a b n f s)]) ∧ Below w.heap.size w w' := by
  unfold alA alS alT alC
  by_cases h : 1 ≤ n
  · have hn : alN n ≠ 0 := by unfold alN; omega
    rw [if_neg hn, if_neg hn, if_neg hn, if_neg hn]
    exact al_way a b n f s h w
  · have hn : alN n = 0 := by unfold alN; omega
    rw [if_pos hn, if_pos hn, if_pos hn, if_pos hn]
    clear hn
    go_enter Try.func33, Try.ntmps33
    rcases (by omega : n < 0 ∨ n = 0) with h | rfl
    all_goals go_wp2
    all_goals exact bodyPost_ret (v := .tuple #[.agg #[.int .i64 0, .int .i64 0], .int .i64 0, .int .i64 0]) (by simp [results, Try.results33, go_sem]) rfl ⟨rfl, by (repeat (first | (with_reducible exact Below.refl _ _) | (with_reducible assumption) | (with_reducible refine Near.up _ ?_) | (with_reducible refine Below.drew ?_) | (with_reducible refine below_alloc_on ?_ _) | (with_reducible refine below_set_on ?_ (by first | (simp; done) | (simp; omega) | omega) _)))⟩
set_option maxHeartbeats 2000000 in
theorem ra_way (a b n : Int) (f s : Bool) (h : 1 ≤ n) (w : World) : Calls Try.prog 34 #[.agg #[.int .i64 a, .int .i64 b], .int .i64 n, .bool f, .bool s] w fun e w' =>
    e = .returned (.tuple #[.agg #[.int .i64 (moV a), .int .i64 (siV b f s)], .int .i64 (shV (moV a) (alN n)), .int .i64 (csV (shV (moV a) (alN n)) (siV b f s))]) ∧ Below w.heap.size w w' := by
  have A : Below w.heap.size w w := Below.refl _ _
  obtain ⟨N, hn⟩ : ∃ N, (if 3 < n then 3 else n) = N := ⟨_, rfl⟩
  rw [show alN n = N by rw [← hn]; unfold alN; split <;> omega]
  have t0 : (N == 0) = false := by rw [← hn]; simp; split <;> omega
  obtain ⟨X, hx⟩ : ∃ X, (if a < 0 then 0 else a) = X := ⟨_, rfl⟩
  obtain ⟨Y, hy⟩ : ∃ Y, (if 1099511627776 < X then 1099511627776 else X) = Y := ⟨_, rfl⟩
  have y0 : 0 ≤ Y := by rw [← hy, ← hx]; split <;> split <;> omega
  have y1 : Y ≤ 1099511627776 := by rw [← hy]; split <;> omega
  rw [show moV a = Y + 1 by rw [← hy, ← hx]; unfold moV; split <;> split <;> omega]
  obtain ⟨P, hp⟩ : ∃ P, (if b < 0 then 0 else b) = P := ⟨_, rfl⟩
  obtain ⟨Q, hq⟩ : ∃ Q, (if 6000 < P then 6000 else P) = Q := ⟨_, rfl⟩
  have q0 : 0 ≤ Q := by rw [← hq, ← hp]; split <;> split <;> omega
  have q1 : Q ≤ 6000 := by rw [← hq]; split <;> omega
  obtain ⟨R, hr⟩ : ∃ R, (if Q - 1 < 0 then 0 else Q - 1) = R := ⟨_, rfl⟩
  have hs : siV b f s = if f = true then 0 else if s = true then 6000 else R := by
    unfold siV; rw [← hr, ← hq, ← hp]; split
    · rfl
    · split
      · rfl
      · split <;> split <;> split <;> omega
  rw [hs]
  clear hs
  cases f <;> cases s
  · go_enter Try.func34, Try.ntmps34
    go_wp2_with (fail)
    refine (ra_shown _ _ _ _).mono ?_
    rintro e w3 ⟨rfl, hb⟩
    replace A : Below w.heap.size w w3 := by (refine below_call ?_ hb; (repeat (first | (with_reducible exact Below.refl _ _) | (with_reducible assumption) | (with_reducible refine Near.up _ ?_) | (with_reducible refine Below.drew ?_) | (with_reducible refine below_alloc_on ?_ _) | (with_reducible refine below_set_on ?_ (by first | (simp; done) | (simp; omega) | omega) _))))
    replace Z := Box.below (g := w.heap.size + 1) (by (repeat (first | (with_reducible assumption) | (with_reducible exact box_new _ _ _) | ((with_reducible apply box_at); (first | (with_reducible rfl) | (simp <;> omega))) | (with_reducible apply Box.drew) | (with_reducible apply Box.drewN) | (with_reducible apply Box.near) | (with_reducible apply Box.alloc) | ((with_reducible apply box_far); (first | assumption | omega | (simp <;> omega))) | (with_reducible apply Box.set) | (simp only [List.size_toArray, List.length_cons, List.length_nil, Array.size_setIfInBounds] <;> omega)))) hb
    (try simp only [List.setIfInBounds_toArray, List.set_cons_zero, List.set_cons_succ] at Z)
    (try clear cZ fZ)
    replace B := Box.below (g := w.heap.size + 1 + 1) (by (repeat (first | (with_reducible assumption) | (with_reducible exact box_new _ _ _) | ((with_reducible apply box_at); (first | (with_reducible rfl) | (simp <;> omega))) | (with_reducible apply Box.drew) | (with_reducible apply Box.drewN) | (with_reducible apply Box.near) | (with_reducible apply Box.alloc) | ((with_reducible apply box_far); (first | assumption | omega | (simp <;> omega))) | (with_reducible apply Box.set) | (simp only [List.size_toArray, List.length_cons, List.length_nil, Array.size_setIfInBounds] <;> omega)))) hb
    (try simp only [List.setIfInBounds_toArray, List.set_cons_zero, List.set_cons_succ] at B)
    (try clear cB fB)
    clear hb
    have z_w3 : w.heap.size ≤ w3.heap.size := A.size
    obtain ⟨lZ_w3, cZ, fZ⟩ := id Z
    obtain ⟨lB_w3, cB, fB⟩ := id B
    have X1 : Bx w (w.heap.size + 1 + 1) #[.int .i64 (Y + 1), .int .i64 R] w3 := ⟨B, A, by omega⟩
    go_wp2
    go_region_held3 (fun w' => w'.cell? ⟨(w.heap.size + 1 + 1), 0, none⟩ = some (.int .i64 (Y + 1)) ∧ w'.cell? ⟨(w.heap.size + 1 + 1), 1, none⟩ = some (.int .i64 R) ∧ (w.heap.size + 1 + 1) < w'.heap.size ∧ Bx w (w.heap.size + 1 + 1) #[.int .i64 (Y + 1), .int .i64 R] w')
      ((exact ⟨Bx.cell (W := w) (g := (w.heap.size + 1 + 1)) (cs := #[.int .i64 (Y + 1), .int .i64 R]) (by (repeat (first | assumption | (refine Bx.call ?_ hb) | (refine Bx.drew ?_) | (refine Bx.alloc ?_ _) | (refine Bx.far2 ?_ (by first | (simp; done) | (simp; omega) | omega) (by first | (simp; done) | (simp; omega) | omega) _)))) 0 _ rfl, Bx.cell (W := w) (g := (w.heap.size + 1 + 1)) (cs := #[.int .i64 (Y + 1), .int .i64 R]) (by (repeat (first | assumption | (refine Bx.call ?_ hb) | (refine Bx.drew ?_) | (refine Bx.alloc ?_ _) | (refine Bx.far2 ?_ (by first | (simp; done) | (simp; omega) | omega) (by first | (simp; done) | (simp; omega) | omega) _)))) 1 _ rfl, Bx.lt (W := w) (g := (w.heap.size + 1 + 1)) (cs := #[.int .i64 (Y + 1), .int .i64 R]) (by (repeat (first | assumption | (refine Bx.call ?_ hb) | (refine Bx.drew ?_) | (refine Bx.alloc ?_ _) | (refine Bx.far2 ?_ (by first | (simp; done) | (simp; omega) | omega) (by first | (simp; done) | (simp; omega) | omega) _)))), (by (repeat (first | assumption | (refine Bx.call ?_ hb) | (refine Bx.drew ?_) | (refine Bx.alloc ?_ _) | (refine Bx.far2 ?_ (by first | (simp; done) | (simp; omega) | omega) (by first | (simp; done) | (simp; omega) | omega) _))))⟩))
      (first | (go_at_call 51; refine (ra_class _ _ _).mono ?_; rintro e w4 ⟨rfl, rfl⟩))
    go_wp2
    exact bodyPost_ret (v := .tuple #[.agg #[.int .i64 (Y + 1), .int .i64 R], .int .i64 (shV (Y + 1) N), .int .i64 (csV (shV (Y + 1) N) R)]) (by simp [results, Try.results34, go_sem, cZ]) rfl ⟨rfl, by (repeat (first | (with_reducible exact Below.refl _ _) | (with_reducible assumption) | (with_reducible refine Near.up _ ?_) | (with_reducible refine Below.drew ?_) | (with_reducible refine below_alloc_on ?_ _) | (with_reducible refine below_set_on ?_ (by first | (simp; done) | (simp; omega) | omega) _)))⟩
  · go_enter Try.func34, Try.ntmps34
    go_wp2_with (fail)
    refine (ra_shown _ _ _ _).mono ?_
    rintro e w3 ⟨rfl, hb⟩
    replace A : Below w.heap.size w w3 := by (refine below_call ?_ hb; (repeat (first | (with_reducible exact Below.refl _ _) | (with_reducible assumption) | (with_reducible refine Near.up _ ?_) | (with_reducible refine Below.drew ?_) | (with_reducible refine below_alloc_on ?_ _) | (with_reducible refine below_set_on ?_ (by first | (simp; done) | (simp; omega) | omega) _))))
    replace Z := Box.below (g := w.heap.size + 1) (by (repeat (first | (with_reducible assumption) | (with_reducible exact box_new _ _ _) | ((with_reducible apply box_at); (first | (with_reducible rfl) | (simp <;> omega))) | (with_reducible apply Box.drew) | (with_reducible apply Box.drewN) | (with_reducible apply Box.near) | (with_reducible apply Box.alloc) | ((with_reducible apply box_far); (first | assumption | omega | (simp <;> omega))) | (with_reducible apply Box.set) | (simp only [List.size_toArray, List.length_cons, List.length_nil, Array.size_setIfInBounds] <;> omega)))) hb
    (try simp only [List.setIfInBounds_toArray, List.set_cons_zero, List.set_cons_succ] at Z)
    (try clear cZ fZ)
    replace B := Box.below (g := w.heap.size + 1 + 1) (by (repeat (first | (with_reducible assumption) | (with_reducible exact box_new _ _ _) | ((with_reducible apply box_at); (first | (with_reducible rfl) | (simp <;> omega))) | (with_reducible apply Box.drew) | (with_reducible apply Box.drewN) | (with_reducible apply Box.near) | (with_reducible apply Box.alloc) | ((with_reducible apply box_far); (first | assumption | omega | (simp <;> omega))) | (with_reducible apply Box.set) | (simp only [List.size_toArray, List.length_cons, List.length_nil, Array.size_setIfInBounds] <;> omega)))) hb
    (try simp only [List.setIfInBounds_toArray, List.set_cons_zero, List.set_cons_succ] at B)
    (try clear cB fB)
    clear hb
    have z_w3 : w.heap.size ≤ w3.heap.size := A.size
    obtain ⟨lZ_w3, cZ, fZ⟩ := id Z
    obtain ⟨lB_w3, cB, fB⟩ := id B
    have X1 : Bx w (w.heap.size + 1 + 1) #[.int .i64 (Y + 1), .int .i64 6000] w3 := ⟨B, A, by omega⟩
    go_wp2
    go_region_held3 (fun w' => w'.cell? ⟨(w.heap.size + 1 + 1), 0, none⟩ = some (.int .i64 (Y + 1)) ∧ w'.cell? ⟨(w.heap.size + 1 + 1), 1, none⟩ = some (.int .i64 6000) ∧ (w.heap.size + 1 + 1) < w'.heap.size ∧ Bx w (w.heap.size + 1 + 1) #[.int .i64 (Y + 1), .int .i64 6000] w')
      ((exact ⟨Bx.cell (W := w) (g := (w.heap.size + 1 + 1)) (cs := #[.int .i64 (Y + 1), .int .i64 6000]) (by (repeat (first | assumption | (refine Bx.call ?_ hb) | (refine Bx.drew ?_) | (refine Bx.alloc ?_ _) | (refine Bx.far2 ?_ (by first | (simp; done) | (simp; omega) | omega) (by first | (simp; done) | (simp; omega) | omega) _)))) 0 _ rfl, Bx.cell (W := w) (g := (w.heap.size + 1 + 1)) (cs := #[.int .i64 (Y + 1), .int .i64 6000]) (by (repeat (first | assumption | (refine Bx.call ?_ hb) | (refine Bx.drew ?_) | (refine Bx.alloc ?_ _) | (refine Bx.far2 ?_ (by first | (simp; done) | (simp; omega) | omega) (by first | (simp; done) | (simp; omega) | omega) _)))) 1 _ rfl, Bx.lt (W := w) (g := (w.heap.size + 1 + 1)) (cs := #[.int .i64 (Y + 1), .int .i64 6000]) (by (repeat (first | assumption | (refine Bx.call ?_ hb) | (refine Bx.drew ?_) | (refine Bx.alloc ?_ _) | (refine Bx.far2 ?_ (by first | (simp; done) | (simp; omega) | omega) (by first | (simp; done) | (simp; omega) | omega) _)))), (by (repeat (first | assumption | (refine Bx.call ?_ hb) | (refine Bx.drew ?_) | (refine Bx.alloc ?_ _) | (refine Bx.far2 ?_ (by first | (simp; done) | (simp; omega) | omega) (by first | (simp; done) | (simp; omega) | omega) _))))⟩))
      (first | (go_at_call 51; refine (ra_class _ _ _).mono ?_; rintro e w4 ⟨rfl, rfl⟩))
    go_wp2
    exact bodyPost_ret (v := .tuple #[.agg #[.int .i64 (Y + 1), .int .i64 6000], .int .i64 (shV (Y + 1) N), .int .i64 (csV (shV (Y + 1) N) 6000)]) (by simp [results, Try.results34, go_sem, cZ]) rfl ⟨rfl, by (repeat (first | (with_reducible exact Below.refl _ _) | (with_reducible assumption) | (with_reducible refine Near.up _ ?_) | (with_reducible refine Below.drew ?_) | (with_reducible refine below_alloc_on ?_ _) | (with_reducible refine below_set_on ?_ (by first | (simp; done) | (simp; omega) | omega) _)))⟩
  · go_enter Try.func34, Try.ntmps34
    go_wp2_with (fail)
    refine (ra_shown _ _ _ _).mono ?_
    rintro e w3 ⟨rfl, hb⟩
    replace A : Below w.heap.size w w3 := by (refine below_call ?_ hb; (repeat (first | (with_reducible exact Below.refl _ _) | (with_reducible assumption) | (with_reducible refine Near.up _ ?_) | (with_reducible refine Below.drew ?_) | (with_reducible refine below_alloc_on ?_ _) | (with_reducible refine below_set_on ?_ (by first | (simp; done) | (simp; omega) | omega) _))))
    replace Z := Box.below (g := w.heap.size + 1) (by (repeat (first | (with_reducible assumption) | (with_reducible exact box_new _ _ _) | ((with_reducible apply box_at); (first | (with_reducible rfl) | (simp <;> omega))) | (with_reducible apply Box.drew) | (with_reducible apply Box.drewN) | (with_reducible apply Box.near) | (with_reducible apply Box.alloc) | ((with_reducible apply box_far); (first | assumption | omega | (simp <;> omega))) | (with_reducible apply Box.set) | (simp only [List.size_toArray, List.length_cons, List.length_nil, Array.size_setIfInBounds] <;> omega)))) hb
    (try simp only [List.setIfInBounds_toArray, List.set_cons_zero, List.set_cons_succ] at Z)
    (try clear cZ fZ)
    replace B := Box.below (g := w.heap.size + 1 + 1) (by (repeat (first | (with_reducible assumption) | (with_reducible exact box_new _ _ _) | ((with_reducible apply box_at); (first | (with_reducible rfl) | (simp <;> omega))) | (with_reducible apply Box.drew) | (with_reducible apply Box.drewN) | (with_reducible apply Box.near) | (with_reducible apply Box.alloc) | ((with_reducible apply box_far); (first | assumption | omega | (simp <;> omega))) | (with_reducible apply Box.set) | (simp only [List.size_toArray, List.length_cons, List.length_nil, Array.size_setIfInBounds] <;> omega)))) hb
    (try simp only [List.setIfInBounds_toArray, List.set_cons_zero, List.set_cons_succ] at B)
    (try clear cB fB)
    clear hb
    have z_w3 : w.heap.size ≤ w3.heap.size := A.size
    obtain ⟨lZ_w3, cZ, fZ⟩ := id Z
    obtain ⟨lB_w3, cB, fB⟩ := id B
    have X1 : Bx w (w.heap.size + 1 + 1) #[.int .i64 (Y + 1), .int .i64 0] w3 := ⟨B, A, by omega⟩
    go_wp2
    go_region_held3 (fun w' => w'.cell? ⟨(w.heap.size + 1 + 1), 0, none⟩ = some (.int .i64 (Y + 1)) ∧ w'.cell? ⟨(w.heap.size + 1 + 1), 1, none⟩ = some (.int .i64 0) ∧ (w.heap.size + 1 + 1) < w'.heap.size ∧ Bx w (w.heap.size + 1 + 1) #[.int .i64 (Y + 1), .int .i64 0] w')
      ((exact ⟨Bx.cell (W := w) (g := (w.heap.size + 1 + 1)) (cs := #[.int .i64 (Y + 1), .int .i64 0]) (by (repeat (first | assumption | (refine Bx.call ?_ hb) | (refine Bx.drew ?_) | (refine Bx.alloc ?_ _) | (refine Bx.far2 ?_ (by first | (simp; done) | (simp; omega) | omega) (by first | (simp; done) | (simp; omega) | omega) _)))) 0 _ rfl, Bx.cell (W := w) (g := (w.heap.size + 1 + 1)) (cs := #[.int .i64 (Y + 1), .int .i64 0]) (by (repeat (first | assumption | (refine Bx.call ?_ hb) | (refine Bx.drew ?_) | (refine Bx.alloc ?_ _) | (refine Bx.far2 ?_ (by first | (simp; done) | (simp; omega) | omega) (by first | (simp; done) | (simp; omega) | omega) _)))) 1 _ rfl, Bx.lt (W := w) (g := (w.heap.size + 1 + 1)) (cs := #[.int .i64 (Y + 1), .int .i64 0]) (by (repeat (first | assumption | (refine Bx.call ?_ hb) | (refine Bx.drew ?_) | (refine Bx.alloc ?_ _) | (refine Bx.far2 ?_ (by first | (simp; done) | (simp; omega) | omega) (by first | (simp; done) | (simp; omega) | omega) _)))), (by (repeat (first | assumption | (refine Bx.call ?_ hb) | (refine Bx.drew ?_) | (refine Bx.alloc ?_ _) | (refine Bx.far2 ?_ (by first | (simp; done) | (simp; omega) | omega) (by first | (simp; done) | (simp; omega) | omega) _))))⟩))
      (first | (go_at_call 51; refine (ra_class _ _ _).mono ?_; rintro e w4 ⟨rfl, rfl⟩))
    go_wp2
    exact bodyPost_ret (v := .tuple #[.agg #[.int .i64 (Y + 1), .int .i64 0], .int .i64 (shV (Y + 1) N), .int .i64 (csV (shV (Y + 1) N) 0)]) (by simp [results, Try.results34, go_sem, cZ]) rfl ⟨rfl, by (repeat (first | (with_reducible exact Below.refl _ _) | (with_reducible assumption) | (with_reducible refine Near.up _ ?_) | (with_reducible refine Below.drew ?_) | (with_reducible refine below_alloc_on ?_ _) | (with_reducible refine below_set_on ?_ (by first | (simp; done) | (simp; omega) | omega) _)))⟩
  · go_enter Try.func34, Try.ntmps34
    go_wp2_with (fail)
    refine (ra_shown _ _ _ _).mono ?_
    rintro e w3 ⟨rfl, hb⟩
    replace A : Below w.heap.size w w3 := by (refine below_call ?_ hb; (repeat (first | (with_reducible exact Below.refl _ _) | (with_reducible assumption) | (with_reducible refine Near.up _ ?_) | (with_reducible refine Below.drew ?_) | (with_reducible refine below_alloc_on ?_ _) | (with_reducible refine below_set_on ?_ (by first | (simp; done) | (simp; omega) | omega) _))))
    replace Z := Box.below (g := w.heap.size + 1) (by (repeat (first | (with_reducible assumption) | (with_reducible exact box_new _ _ _) | ((with_reducible apply box_at); (first | (with_reducible rfl) | (simp <;> omega))) | (with_reducible apply Box.drew) | (with_reducible apply Box.drewN) | (with_reducible apply Box.near) | (with_reducible apply Box.alloc) | ((with_reducible apply box_far); (first | assumption | omega | (simp <;> omega))) | (with_reducible apply Box.set) | (simp only [List.size_toArray, List.length_cons, List.length_nil, Array.size_setIfInBounds] <;> omega)))) hb
    (try simp only [List.setIfInBounds_toArray, List.set_cons_zero, List.set_cons_succ] at Z)
    (try clear cZ fZ)
    replace B := Box.below (g := w.heap.size + 1 + 1) (by (repeat (first | (with_reducible assumption) | (with_reducible exact box_new _ _ _) | ((with_reducible apply box_at); (first | (with_reducible rfl) | (simp <;> omega))) | (with_reducible apply Box.drew) | (with_reducible apply Box.drewN) | (with_reducible apply Box.near) | (with_reducible apply Box.alloc) | ((with_reducible apply box_far); (first | assumption | omega | (simp <;> omega))) | (with_reducible apply Box.set) | (simp only [List.size_toArray, List.length_cons, List.length_nil, Array.size_setIfInBounds] <;> omega)))) hb
    (try simp only [List.setIfInBounds_toArray, List.set_cons_zero, List.set_cons_succ] at B)
    (try clear cB fB)
    clear hb
    have z_w3 : w.heap.size ≤ w3.heap.size := A.size
    obtain ⟨lZ_w3, cZ, fZ⟩ := id Z
    obtain ⟨lB_w3, cB, fB⟩ := id B
    have X1 : Bx w (w.heap.size + 1 + 1) #[.int .i64 (Y + 1), .int .i64 0] w3 := ⟨B, A, by omega⟩
    go_wp2
    go_region_held3 (fun w' => w'.cell? ⟨(w.heap.size + 1 + 1), 0, none⟩ = some (.int .i64 (Y + 1)) ∧ w'.cell? ⟨(w.heap.size + 1 + 1), 1, none⟩ = some (.int .i64 0) ∧ (w.heap.size + 1 + 1) < w'.heap.size ∧ Bx w (w.heap.size + 1 + 1) #[.int .i64 (Y + 1), .int .i64 0] w')
      ((exact ⟨Bx.cell (W := w) (g := (w.heap.size + 1 + 1)) (cs := #[.int .i64 (Y + 1), .int .i64 0]) (by (repeat (first | assumption | (refine Bx.call ?_ hb) | (refine Bx.drew ?_) | (refine Bx.alloc ?_ _) | (refine Bx.far2 ?_ (by first | (simp; done) | (simp; omega) | omega) (by first | (simp; done) | (simp; omega) | omega) _)))) 0 _ rfl, Bx.cell (W := w) (g := (w.heap.size + 1 + 1)) (cs := #[.int .i64 (Y + 1), .int .i64 0]) (by (repeat (first | assumption | (refine Bx.call ?_ hb) | (refine Bx.drew ?_) | (refine Bx.alloc ?_ _) | (refine Bx.far2 ?_ (by first | (simp; done) | (simp; omega) | omega) (by first | (simp; done) | (simp; omega) | omega) _)))) 1 _ rfl, Bx.lt (W := w) (g := (w.heap.size + 1 + 1)) (cs := #[.int .i64 (Y + 1), .int .i64 0]) (by (repeat (first | assumption | (refine Bx.call ?_ hb) | (refine Bx.drew ?_) | (refine Bx.alloc ?_ _) | (refine Bx.far2 ?_ (by first | (simp; done) | (simp; omega) | omega) (by first | (simp; done) | (simp; omega) | omega) _)))), (by (repeat (first | assumption | (refine Bx.call ?_ hb) | (refine Bx.drew ?_) | (refine Bx.alloc ?_ _) | (refine Bx.far2 ?_ (by first | (simp; done) | (simp; omega) | omega) (by first | (simp; done) | (simp; omega) | omega) _))))⟩))
      (first | (go_at_call 51; refine (ra_class _ _ _).mono ?_; rintro e w4 ⟨rfl, rfl⟩))
    go_wp2
    exact bodyPost_ret (v := .tuple #[.agg #[.int .i64 (Y + 1), .int .i64 0], .int .i64 (shV (Y + 1) N), .int .i64 (csV (shV (Y + 1) N) 0)]) (by simp [results, Try.results34, go_sem, cZ]) rfl ⟨rfl, by (repeat (first | (with_reducible exact Below.refl _ _) | (with_reducible assumption) | (with_reducible refine Near.up _ ?_) | (with_reducible refine Below.drew ?_) | (with_reducible refine below_alloc_on ?_ _) | (with_reducible refine below_set_on ?_ (by first | (simp; done) | (simp; omega) | omega) _)))⟩
theorem ra_step (a b n : Int) (f s : Bool) (w : World) : Calls Try.prog 34 #[.agg #[.int .i64 a, .int .i64 b], .int .i64 n, .bool f, .bool s] w fun e w' =>
    e = .returned (.tuple #[.agg #[.int .i64 (alA a n), .int .i64 (alS b n f s)], .int .i64 (alT a n), .int .i64 (alC a b n f s)]) ∧ Below w.heap.size w w' := by
  unfold alA alS alT alC
  by_cases h : 1 ≤ n
  · have hn : alN n ≠ 0 := by unfold alN; omega
    rw [if_neg hn, if_neg hn, if_neg hn, if_neg hn]
    exact ra_way a b n f s h w
  · have hn : alN n = 0 := by unfold alN; omega
    rw [if_pos hn, if_pos hn, if_pos hn, if_pos hn]
    clear hn
    go_enter Try.func34, Try.ntmps34
    rcases (by omega : n < 0 ∨ n = 0) with h | rfl
    all_goals go_wp2
    all_goals exact bodyPost_ret (v := .tuple #[.agg #[.int .i64 0, .int .i64 0], .int .i64 0, .int .i64 0]) (by simp [results, Try.results34, go_sem]) rfl ⟨rfl, by (repeat (first | (with_reducible exact Below.refl _ _) | (with_reducible assumption) | (with_reducible refine Near.up _ ?_) | (with_reducible refine Below.drew ?_) | (with_reducible refine below_alloc_on ?_ _) | (with_reducible refine below_set_on ?_ (by first | (simp; done) | (simp; omega) | omega) _)))⟩
theorem law41_awake (w : World) : Calls Try.prog 37 #[] w fun e w' => e = .returned (.bool true) ∧ Below w.heap.size w w' := by
  have e1 : alA 0 3 = 1 := by decide +kernel
  have e2 : alS 0 3 true false = 0 := by decide +kernel
  have e3 : alT 0 3 = 3 := by decide +kernel
  have e4 : alC 0 0 3 true false = 3 := by decide +kernel
  have e5 : alA 1 3 = 2 := by decide +kernel
  have e6 : alS 0 3 false true = 6000 := by decide +kernel
  have e7 : alT 1 3 = 3 := by decide +kernel
  have e8 : alC 1 0 3 false true = 1 := by decide +kernel
  have e9 : alA 2999 2 = 3000 := by decide +kernel
  have e10 : alS 0 2 false false = 0 := by decide +kernel
  have e11 : alT 2999 2 = 3 := by decide +kernel
  have e12 : alC 2999 0 2 false false = 3 := by decide +kernel
  have A : Below w.heap.size w w := Below.refl _ _
  go_enter Try.func37, Try.ntmps37
  go_wp2_with (fail)
  refine (al_step _ _ _ _ _ _).mono ?_
  rintro e w1 ⟨rfl, hb⟩
  replace A : Below w.heap.size w w1 := by (refine below_call ?_ hb; (repeat (first | (with_reducible exact Below.refl _ _) | (with_reducible assumption) | (with_reducible refine Near.up _ ?_) | (with_reducible refine Below.drew ?_) | (with_reducible refine below_alloc_on ?_ _) | (with_reducible refine below_set_on ?_ (by first | (simp; done) | (simp; omega) | omega) _))))
  clear hb
  have z_w1 : w.heap.size ≤ w1.heap.size := A.size
  go_wp2_with (fail)
  refine (al_step _ _ _ _ _ _).mono ?_
  rintro e w2 ⟨rfl, hb⟩
  replace A : Below w.heap.size w w2 := by (refine below_call ?_ hb; (repeat (first | (with_reducible exact Below.refl _ _) | (with_reducible assumption) | (with_reducible refine Near.up _ ?_) | (with_reducible refine Below.drew ?_) | (with_reducible refine below_alloc_on ?_ _) | (with_reducible refine below_set_on ?_ (by first | (simp; done) | (simp; omega) | omega) _))))
  replace B := Box.below (g := w1.heap.size) (by (repeat (first | (with_reducible assumption) | (with_reducible exact box_new _ _ _) | ((with_reducible apply box_at); (first | (with_reducible rfl) | (simp <;> omega))) | (with_reducible apply Box.drew) | (with_reducible apply Box.drewN) | (with_reducible apply Box.near) | (with_reducible apply Box.alloc) | ((with_reducible apply box_far); (first | assumption | omega | (simp <;> omega))) | (with_reducible apply Box.set) | (simp only [List.size_toArray, List.length_cons, List.length_nil, Array.size_setIfInBounds] <;> omega)))) hb
  (try simp only [List.setIfInBounds_toArray, List.set_cons_zero, List.set_cons_succ] at B)
  (try clear cB fB)
  clear hb
  have z_w2 : w.heap.size ≤ w2.heap.size := A.size
  obtain ⟨lB_w2, cB, fB⟩ := id B
  go_wp2_with (fail)
  refine (al_step _ _ _ _ _ _).mono ?_
  rintro e w3 ⟨rfl, hb⟩
  replace A : Below w.heap.size w w3 := by (refine below_call ?_ hb; (repeat (first | (with_reducible exact Below.refl _ _) | (with_reducible assumption) | (with_reducible refine Near.up _ ?_) | (with_reducible refine Below.drew ?_) | (with_reducible refine below_alloc_on ?_ _) | (with_reducible refine below_set_on ?_ (by first | (simp; done) | (simp; omega) | omega) _))))
  replace B := Box.below (g := w1.heap.size) (by (repeat (first | (with_reducible assumption) | (with_reducible exact box_new _ _ _) | ((with_reducible apply box_at); (first | (with_reducible rfl) | (simp <;> omega))) | (with_reducible apply Box.drew) | (with_reducible apply Box.drewN) | (with_reducible apply Box.near) | (with_reducible apply Box.alloc) | ((with_reducible apply box_far); (first | assumption | omega | (simp <;> omega))) | (with_reducible apply Box.set) | (simp only [List.size_toArray, List.length_cons, List.length_nil, Array.size_setIfInBounds] <;> omega)))) hb
  (try simp only [List.setIfInBounds_toArray, List.set_cons_zero, List.set_cons_succ] at B)
  (try clear cB fB)
  replace C := Box.below (g := w2.heap.size) (by (repeat (first | (with_reducible assumption) | (with_reducible exact box_new _ _ _) | ((with_reducible apply box_at); (first | (with_reducible rfl) | (simp <;> omega))) | (with_reducible apply Box.drew) | (with_reducible apply Box.drewN) | (with_reducible apply Box.near) | (with_reducible apply Box.alloc) | ((with_reducible apply box_far); (first | assumption | omega | (simp <;> omega))) | (with_reducible apply Box.set) | (simp only [List.size_toArray, List.length_cons, List.length_nil, Array.size_setIfInBounds] <;> omega)))) hb
  (try simp only [List.setIfInBounds_toArray, List.set_cons_zero, List.set_cons_succ] at C)
  (try clear cC fC)
  clear hb
  have z_w3 : w.heap.size ≤ w3.heap.size := A.size
  obtain ⟨lB_w3, cB, fB⟩ := id B
  obtain ⟨lC_w3, cC, fC⟩ := id C
  go_wp2
  all_goals go_ret
  all_goals exact ⟨rfl, by (repeat (first | (with_reducible exact Below.refl _ _) | (with_reducible assumption) | (with_reducible refine Near.up _ ?_) | (with_reducible refine Below.drew ?_) | (with_reducible refine below_alloc_on ?_ _) | (with_reducible refine below_set_on ?_ (by first | (simp; done) | (simp; omega) | omega) _)))⟩
end Go.Proofs.Ythfipnccjnekfaa
