/- The document's answers for package keypad. -/
import Derived.Test.YthghangoagponaaDoorKeyS
import Derived.Test.YthghangoagponaaDoorApp
import Derived.Deep.CutBlock
namespace Go.Proofs.YthghangoagponaaDoor
open Go.RowKit
set_option linter.unusedVariables false
set_option linter.unusedSimpArgs false
attribute [local go_sem] cell_set_ite Near.cell Near.frozen

theorem rk_other (s b : Int) (hb : b = 1 ∨ b = -1) (w : World) : Calls Tryd.prog 57 #[.int .i64 s, .int .i64 b] w fun e w' => e = .returned (.int .i64 (beV s b)) ∧ Below w.heap.size w w' := by
  have A : Below w.heap.size w w := Below.refl _ _
  have P := box_new w #[.int .i64 10, .int .i64 15, .int .i64 20, .int .i64 60] 3
  have A1 := below_alloc_on A (.cells #[.int .i64 10, .int .i64 15, .int .i64 20, .int .i64 60] 3)
  rcases hb with rfl | rfl
  all_goals
    go_enter Tryd.func57, Tryd.ntmps57
    go_upto_region 3 with fail
    generalize w.alloc (.cells #[.int .i64 10, .int .i64 15, .int .i64 20, .int .i64 60] 3) = w1 at *
    obtain ⟨lP, c0, c1, c2, c3, fP, _⟩ : w.heap.size < w1.heap.size ∧ w1.cell? ⟨w.heap.size, 0, none⟩ = some (.int .i64 10) ∧ w1.cell? ⟨w.heap.size, 1, none⟩ = some (.int .i64 15) ∧ w1.cell? ⟨w.heap.size, 2, none⟩ = some (.int .i64 20) ∧ w1.cell? ⟨w.heap.size, 3, none⟩ = some (.int .i64 60) ∧ (∀ i, w1.frozen? ⟨w.heap.size, i, none⟩ = false) ∧ True := ⟨P.1, P.2.1 0, P.2.1 1, P.2.1 2, P.2.1 3, P.2.2, trivial⟩
    clear P A
    go_loopw [10] (fun i wr => w1 = wr ∧ ((i = .int .i64 0) ∨ (i = .int .i64 1 ∧ s ≠ 10) ∨ (i = .int .i64 2 ∧ s ≠ 10 ∧ s ≠ 15) ∨ (i = .int .i64 3 ∧ s ≠ 10 ∧ s ≠ 15 ∧ s ≠ 20) ∨ (i = .int .i64 4 ∧ s ≠ 10 ∧ s ≠ 15 ∧ s ≠ 20 ∧ s ≠ 60))) (fun i _ => 4 - (intOf i).toNat)
    case atStart => exact ⟨rfl, .inl rfl⟩
    case round =>
      obtain ⟨rfl, hrel⟩ := hrel
      rcases hrel with rfl | ⟨rfl, h1⟩ | ⟨rfl, h1, h2⟩ | ⟨rfl, h1, h2, h3⟩ | ⟨rfl, h1, h2, h3, h4⟩
      · by_cases h : s = 10
        · subst h
          go_wp2
          go_ret
          exact ⟨rfl, A1⟩
        · have t1 : ((10 : Int) == s) = false := by simp; omega
          go_wp2
          go_roundw
          case rel => exact ⟨by trivial, .inr (.inl ⟨rfl, h⟩)⟩
          case measure => simp [intOf]
      · by_cases h : s = 15
        · subst h
          go_wp2
          go_ret
          exact ⟨rfl, A1⟩
        · have t1 : ((15 : Int) == s) = false := by simp; omega
          go_wp2
          go_roundw
          case rel => exact ⟨by trivial, .inr (.inr (.inl ⟨rfl, h1, h⟩))⟩
          case measure => simp [intOf]
      · by_cases h : s = 20
        · subst h
          go_wp2
          go_ret
          exact ⟨rfl, A1⟩
        · have t1 : ((20 : Int) == s) = false := by simp; omega
          go_wp2
          go_roundw
          case rel => exact ⟨by trivial, .inr (.inr (.inr (.inl ⟨rfl, h1, h2, h⟩)))⟩
          case measure => simp [intOf]
      · by_cases h : s = 60
        · subst h
          go_wp2
          go_ret
          exact ⟨rfl, A1⟩
        · have t1 : ((60 : Int) == s) = false := by simp; omega
          go_wp2
          go_roundw
          case rel => exact ⟨by trivial, .inr (.inr (.inr (.inr ⟨rfl, h1, h2, h3, h⟩)))⟩
          case measure => simp [intOf]
      · go_wp2
        go_ret
        exact ⟨ret_i (by unfold beV; rw [if_neg h1, if_neg h2, if_neg h3, if_neg h4]), A1⟩
theorem rk_turn (r v s f b : Int) (hb : b = 1 ∨ b = -1) (w : World) : Calls Tryd.prog 47 #[.agg #[.int .i64 r, .int .i64 v, .int .i64 s], .int .i64 f, .int .i64 b] w fun e w' =>
    e = .returned (.agg #[.int .i64 (edR f r b), .int .i64 (edV f v b), .int .i64 (edS f s b)]) ∧ Below w.heap.size w w' := by
  have A : Below w.heap.size w w := Below.refl _ _
  rcases (by omega : f = 0 ∨ f = 1 ∨ f = 2 ∨ (f ≠ 0 ∧ f ≠ 1 ∧ f ≠ 2)) with rfl | rfl | rfl | ⟨h0, h1, h2⟩
  · rw [show edR 0 r b = mvV r (b * 5) 5 1000 from rfl, show edV 0 v b = v from rfl, show edS 0 s b = s from rfl]
    obtain ⟨M, hM⟩ : ∃ M, min (max r 0) 1000 = M := ⟨_, rfl⟩
    have m0 : 0 ≤ M := by omega
    have m1 : M ≤ 1000 := by omega
    obtain ⟨X, hX⟩ : ∃ X, mvV r (b * 5) 5 1000 = X := ⟨_, rfl⟩
    rw [hX]
    have i1 : IntKind.i64.wrap (5 * b) = 5 * b := IntWalk.i64_in _ (by omega)
    have i2 : IntKind.i64.wrap (M + 5 * b) = M + 5 * b := IntWalk.i64_in _ (by omega)
    have hX2 : min (max (M + 5 * b) 5) 1000 = X := by rw [← hX]; unfold mvV; rw [hM]; omega
    clear hX
    go_enter Tryd.func47, Tryd.ntmps47
    go_wp2
    refine bodyPost_ret (v := .agg #[.int .i64 X, .int .i64 v, .int .i64 s]) (by simp [results, Tryd.results47, go_sem]) rfl ⟨rfl, by (repeat (first | (with_reducible exact Below.refl _ _) | (with_reducible assumption) | (with_reducible refine Near.up _ ?_) | (with_reducible refine Below.drew ?_) | (with_reducible refine below_alloc_on ?_ _) | (with_reducible refine below_set_on ?_ (by first | (simp; done) | (simp; omega) | omega) _)))⟩
  · rw [show edR 1 r b = r from rfl, show edV 1 v b = mvV v (b * 10) 1 5000 from rfl, show edS 1 s b = s from rfl]
    obtain ⟨M, hM⟩ : ∃ M, min (max v 0) 5000 = M := ⟨_, rfl⟩
    have m0 : 0 ≤ M := by omega
    have m1 : M ≤ 5000 := by omega
    obtain ⟨X, hX⟩ : ∃ X, mvV v (b * 10) 1 5000 = X := ⟨_, rfl⟩
    rw [hX]
    have i1 : IntKind.i64.wrap (10 * b) = 10 * b := IntWalk.i64_in _ (by omega)
    have i2 : IntKind.i64.wrap (M + 10 * b) = M + 10 * b := IntWalk.i64_in _ (by omega)
    have hX2 : min (max (M + 10 * b) 1) 5000 = X := by rw [← hX]; unfold mvV; rw [hM]; omega
    clear hX
    go_enter Tryd.func47, Tryd.ntmps47
    go_wp2
    refine bodyPost_ret (v := .agg #[.int .i64 r, .int .i64 X, .int .i64 s]) (by simp [results, Tryd.results47, go_sem]) rfl ⟨rfl, by (repeat (first | (with_reducible exact Below.refl _ _) | (with_reducible assumption) | (with_reducible refine Near.up _ ?_) | (with_reducible refine Below.drew ?_) | (with_reducible refine below_alloc_on ?_ _) | (with_reducible refine below_set_on ?_ (by first | (simp; done) | (simp; omega) | omega) _)))⟩
  · have HB := Lib.hid (fun w => rk_other s b hb w)
    rw [show edR 2 r b = r from rfl, show edV 2 v b = v from rfl, show edS 2 s b = beV s b from rfl]
    generalize beV s b = X at *
    go_enter Tryd.func47, Tryd.ntmps47
    go_wp2_with (fail)
    refine (HB.out _).mono ?_
    rintro e w1 ⟨rfl, hb⟩
    replace A : Below w.heap.size w w1 := by (refine below_call ?_ hb; (repeat (first | (with_reducible exact Below.refl _ _) | (with_reducible assumption) | (with_reducible refine Near.up _ ?_) | (with_reducible refine Below.drew ?_) | (with_reducible refine below_alloc_on ?_ _) | (with_reducible refine below_set_on ?_ (by first | (simp; done) | (simp; omega) | omega) _))))
    replace P := Box.below (g := w.heap.size) (by (repeat (first | (with_reducible assumption) | (with_reducible exact box_new _ _ _) | ((with_reducible apply box_at); (first | (with_reducible rfl) | (simp <;> omega))) | (with_reducible apply Box.drew) | (with_reducible apply Box.drewN) | (with_reducible apply Box.near) | (with_reducible apply Box.alloc) | ((with_reducible apply box_far); (first | assumption | omega | (simp <;> omega))) | ((with_reducible apply Box.one_set); (with_reducible assumption)) | ((with_reducible apply Box.two_set); (with_reducible assumption)) | ((with_reducible apply Box.three_set); (with_reducible assumption)) | (with_reducible apply Box.set) | (simp only [List.size_toArray, List.length_cons, List.length_nil, Array.size_setIfInBounds] <;> omega)))) hb
    (try simp only [List.setIfInBounds_toArray, List.set_cons_zero, List.set_cons_succ] at P)
    (try clear cP fP)
    replace Q := Box.below (g := w.heap.size + 1) (by (repeat (first | (with_reducible assumption) | (with_reducible exact box_new _ _ _) | ((with_reducible apply box_at); (first | (with_reducible rfl) | (simp <;> omega))) | (with_reducible apply Box.drew) | (with_reducible apply Box.drewN) | (with_reducible apply Box.near) | (with_reducible apply Box.alloc) | ((with_reducible apply box_far); (first | assumption | omega | (simp <;> omega))) | ((with_reducible apply Box.one_set); (with_reducible assumption)) | ((with_reducible apply Box.two_set); (with_reducible assumption)) | ((with_reducible apply Box.three_set); (with_reducible assumption)) | (with_reducible apply Box.set) | (simp only [List.size_toArray, List.length_cons, List.length_nil, Array.size_setIfInBounds] <;> omega)))) hb
    (try simp only [List.setIfInBounds_toArray, List.set_cons_zero, List.set_cons_succ] at Q)
    (try clear cQ fQ)
    clear hb
    have z_w1 : w.heap.size ≤ w1.heap.size := A.size
    obtain ⟨lP_w1, cP, fP⟩ := id P
    obtain ⟨lQ_w1, cQ, fQ⟩ := id Q
    go_wp2
    refine bodyPost_ret (v := .agg #[.int .i64 r, .int .i64 v, .int .i64 X]) (by simp [results, Tryd.results47, go_sem, cQ, cP]) rfl ⟨rfl, by (repeat (first | (with_reducible exact Below.refl _ _) | (with_reducible assumption) | (with_reducible refine Near.up _ ?_) | (with_reducible refine Below.drew ?_) | (with_reducible refine below_alloc_on ?_ _) | (with_reducible refine below_set_on ?_ (by first | (simp; done) | (simp; omega) | omega) _)))⟩
  · rw [show edR f r b = r from if_neg h0, show edV f v b = v from if_neg h1, show edS f s b = s from if_neg h2]
    have u0 : (f == 0) = false := by simpa using h0
    have u1 : (f == 1) = false := by simpa using h1
    have u2 : (f == 2) = false := by simpa using h2
    clear h0 h1 h2
    go_enter Tryd.func47, Tryd.ntmps47
    go_wp2
    refine bodyPost_ret (v := .agg #[.int .i64 r, .int .i64 v, .int .i64 s]) (by simp [results, Tryd.results47, go_sem]) rfl ⟨rfl, by (repeat (first | (with_reducible exact Below.refl _ _) | (with_reducible assumption) | (with_reducible refine Near.up _ ?_) | (with_reducible refine Below.drew ?_) | (with_reducible refine below_alloc_on ?_ _) | (with_reducible refine below_set_on ?_ (by first | (simp; done) | (simp; omega) | omega) _)))⟩
theorem rk_asks (f r v s : Int) (a : Bool) (m l : Int) (w : World) : Calls Tryd.prog 48 #[.agg #[.int .i64 f, .int .i64 r, .int .i64 v, .int .i64 s, .bool a], .int .i64 m, .int .i64 l] w fun e w' => e = .returned (.bool (cfB m l r v s)) ∧ Below w.heap.size w w' := by
  have A : Below w.heap.size w w := Below.refl _ _
  have HC := Lib.hid (fun w => rp_check r v s w)
  rcases cf_ways m l r v s with ⟨m1, m2, m3, e⟩ | ⟨hm, hl, e⟩ | ⟨hm, rfl, hE, e⟩ | ⟨hm, rfl, hE, e⟩
  · rw [e]
    have u0 : (m == 1) = false := by simpa using m1
    have u1 : (m == 4) = false := by simpa using m2
    have u2 : (m == 3) = false := by simpa using m3
    clear e m1 m2 m3
    by_cases hl : l = 0
    · subst hl
      go_enter Tryd.func48, Tryd.ntmps48
      go_wp2
      all_goals go_ret
      all_goals exact ⟨rfl, by (repeat (first | (with_reducible exact Below.refl _ _) | (with_reducible assumption) | (with_reducible refine Near.up _ ?_) | (with_reducible refine Below.drew ?_) | (with_reducible refine below_alloc_on ?_ _) | (with_reducible refine below_set_on ?_ (by first | (simp; done) | (simp; omega) | omega) _)))⟩
    · have u3 : (l == 0) = false := by simpa using hl
      go_enter Tryd.func48, Tryd.ntmps48
      go_wp2
      all_goals go_ret
      all_goals exact ⟨rfl, by (repeat (first | (with_reducible exact Below.refl _ _) | (with_reducible assumption) | (with_reducible refine Near.up _ ?_) | (with_reducible refine Below.drew ?_) | (with_reducible refine below_alloc_on ?_ _) | (with_reducible refine below_set_on ?_ (by first | (simp; done) | (simp; omega) | omega) _)))⟩
  · rw [e]
    have u0 : (l == 0) = false := by simpa using hl
    clear e hl hm
    go_enter Tryd.func48, Tryd.ntmps48
    go_wp2
    all_goals go_ret
    all_goals exact ⟨rfl, by (repeat (first | (with_reducible exact Below.refl _ _) | (with_reducible assumption) | (with_reducible refine Near.up _ ?_) | (with_reducible refine Below.drew ?_) | (with_reducible refine below_alloc_on ?_ _) | (with_reducible refine below_set_on ?_ (by first | (simp; done) | (simp; omega) | omega) _)))⟩
  · rw [e]
    generalize ckV r v s = E at *
    have u0 : (E == 0) = false := by simpa using hE
    clear e hE
    rcases hm with rfl | rfl | rfl
    all_goals
      go_enter Tryd.func48, Tryd.ntmps48
      go_wp2_with (fail)
      refine (HC.out _).mono ?_
      rintro e w1 ⟨rfl, hb⟩
      replace A : Below w.heap.size w w1 := by (refine below_call ?_ hb; (repeat (first | (with_reducible exact Below.refl _ _) | (with_reducible assumption) | (with_reducible refine Near.up _ ?_) | (with_reducible refine Below.drew ?_) | (with_reducible refine below_alloc_on ?_ _) | (with_reducible refine below_set_on ?_ (by first | (simp; done) | (simp; omega) | omega) _))))
      clear hb
      have z_w1 : w.heap.size ≤ w1.heap.size := A.size
      go_wp2
      all_goals go_ret
      all_goals exact ⟨rfl, by (repeat (first | (with_reducible exact Below.refl _ _) | (with_reducible assumption) | (with_reducible refine Near.up _ ?_) | (with_reducible refine Below.drew ?_) | (with_reducible refine below_alloc_on ?_ _) | (with_reducible refine below_set_on ?_ (by first | (simp; done) | (simp; omega) | omega) _)))⟩
  · rw [e]
    rw [hE] at HC
    clear e hE
    rcases hm with rfl | rfl | rfl
    all_goals
      go_enter Tryd.func48, Tryd.ntmps48
      go_wp2_with (fail)
      refine (HC.out _).mono ?_
      rintro e w1 ⟨rfl, hb⟩
      replace A : Below w.heap.size w w1 := by (refine below_call ?_ hb; (repeat (first | (with_reducible exact Below.refl _ _) | (with_reducible assumption) | (with_reducible refine Near.up _ ?_) | (with_reducible refine Below.drew ?_) | (with_reducible refine below_alloc_on ?_ _) | (with_reducible refine below_set_on ?_ (by first | (simp; done) | (simp; omega) | omega) _))))
      clear hb
      have z_w1 : w.heap.size ≤ w1.heap.size := A.size
      go_wp2
      all_goals go_ret
      all_goals exact ⟨rfl, by (repeat (first | (with_reducible exact Below.refl _ _) | (with_reducible assumption) | (with_reducible refine Near.up _ ?_) | (with_reducible refine Below.drew ?_) | (with_reducible refine below_alloc_on ?_ _) | (with_reducible refine below_set_on ?_ (by first | (simp; done) | (simp; omega) | omega) _)))⟩
def wiN (k : Int) : Int := if 6 ≤ k ∧ k ≤ 10 then k - 4 else 0
theorem rk_wish (k : Int) (w : World) : Calls Tryd.prog 49 #[.int .i64 k] w fun e w' => e = .returned (.int .i64 (wiN k)) ∧ w = w' := by
  rcases (by omega : k = 6 ∨ k = 7 ∨ k = 8 ∨ k = 9 ∨ k = 10 ∨ (k ≠ 6 ∧ k ≠ 7 ∧ k ≠ 8 ∧ k ≠ 9 ∧ k ≠ 10)) with rfl | rfl | rfl | rfl | rfl | ⟨h6, h7, h8, h9, h10⟩
  all_goals
    try rw [show wiN k = 0 from if_neg (by omega)]
    try have u6 : (k == 6) = false := by simpa using h6
    try have u7 : (k == 7) = false := by simpa using h7
    try have u8 : (k == 8) = false := by simpa using h8
    try have u9 : (k == 9) = false := by simpa using h9
    try have u10 : (k == 10) = false := by simpa using h10
    go_enter Tryd.func49, Tryd.ntmps49
    go_wp2
    all_goals go_ret
    all_goals exact ⟨rfl, rfl⟩
end Go.Proofs.YthghangoagponaaDoor
