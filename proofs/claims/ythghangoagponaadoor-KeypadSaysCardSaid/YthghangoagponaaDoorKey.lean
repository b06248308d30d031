/- Contracts of package keypad. -/
import Derived.Test.YthghangoagponaaDoorKeyM
namespace Go.Proofs.YthghangoagponaaDoor
open Go.RowKit
set_option linter.unusedVariables false
set_option linter.unusedSimpArgs false
attribute [local go_sem] cell_set_ite Near.cell Near.frozen

theorem ky_moved (n b lo hi : Int) (l0 : 0 ≤ lo) (l1 : lo ≤ hi) (l2 : hi ≤ 5000) (b0 : -10 ≤ b) (b1 : b ≤ 10) (w : World) : Calls Tryd.prog 60 #[.int .i64 n, .int .i64 b, .int .i64 lo, .int .i64 hi] w fun e w' => e = .returned (.int .i64 (mvV n b lo hi)) ∧ w = w' := by
  unfold mvV
  obtain ⟨M, hM⟩ : ∃ M, min (max n 0) hi = M := ⟨_, rfl⟩
  have m0 : 0 ≤ M := by omega
  have m1 : M ≤ hi := by omega
  rw [hM]
  go_enter Tryd.func60, Tryd.ntmps60
  go_wp2
  all_goals go_ret
  all_goals exact ⟨ret_i (by omega), rfl⟩
theorem ky_following (f : Int) (w : World) : Calls Tryd.prog 56 #[.int .i64 f] w fun e w' => e = .returned (.int .i64 (foV f)) ∧ w = w' := by
  unfold foV
  by_cases h : 2 ≤ f
  · rw [if_pos h]
    have t1 := decide_eq_true h
    go_enter Tryd.func56, Tryd.ntmps56
    go_wp2
    all_goals go_ret
    all_goals exact ⟨rfl, rfl⟩
  · rw [if_neg h]
    have t1 := decide_eq_false h
    go_enter Tryd.func56, Tryd.ntmps56
    go_wp2
    all_goals go_ret
    all_goals exact ⟨ret_i (by omega), rfl⟩
theorem ky_beside (s b : Int) (hb : b = 1 ∨ b = -1) (w : World) (hT : TabAt w 2 .i64 kySets) : Calls Tryd.prog 61 #[.int .i64 s, .int .i64 b] w fun e w' => e = .returned (.int .i64 (beV s b)) ∧ w = w' := by
  have c0 := hT.at_ 0 _ rfl
  have c1 := hT.at_ 1 _ rfl
  have c2 := hT.at_ 2 _ rfl
  have c3 := hT.at_ 3 _ rfl
  clear hT
  have y0 : min (0 : Int) 3 = 0 := by decide
  have y1 : max (0 : Int) 0 = 0 := by decide
  have x0 : min (max (-1 : Int) 0) 3 = 0 := by decide
  have x1 : min (max (0 : Int) 0) 3 = 0 := by decide
  have x2 : min (max (1 : Int) 0) 3 = 1 := by decide
  have x3 : min (max (2 : Int) 0) 3 = 2 := by decide
  have x4 : min (max (3 : Int) 0) 3 = 3 := by decide
  have x5 : min (max (4 : Int) 0) 3 = 3 := by decide
  have i0 : ∀ w, (Instr.index 75 (.agg #[.int .i64 10, .int .i64 15, .int .i64 20, .int .i64 60]) (.int .i64 0)).run Tryd.prog w = .ok (.int .i64 10) w := fun _ => by kernel_rfl
  have i1 : ∀ w, (Instr.index 75 (.agg #[.int .i64 10, .int .i64 15, .int .i64 20, .int .i64 60]) (.int .i64 1)).run Tryd.prog w = .ok (.int .i64 15) w := fun _ => by kernel_rfl
  have i2 : ∀ w, (Instr.index 75 (.agg #[.int .i64 10, .int .i64 15, .int .i64 20, .int .i64 60]) (.int .i64 2)).run Tryd.prog w = .ok (.int .i64 20) w := fun _ => by kernel_rfl
  have i3 : ∀ w, (Instr.index 75 (.agg #[.int .i64 10, .int .i64 15, .int .i64 20, .int .i64 60]) (.int .i64 3)).run Tryd.prog w = .ok (.int .i64 60) w := fun _ => by kernel_rfl
  rcases hb with rfl | rfl
  all_goals
    go_enter Tryd.func61, Tryd.ntmps61
    go_wp2
    go_loopw [8] (fun i wr => w = wr ∧ ((i = .int .i64 0) ∨ (i = .int .i64 1 ∧ s ≠ 10) ∨ (i = .int .i64 2 ∧ s ≠ 10 ∧ s ≠ 15) ∨ (i = .int .i64 3 ∧ s ≠ 10 ∧ s ≠ 15 ∧ s ≠ 20) ∨ (i = .int .i64 4 ∧ s ≠ 10 ∧ s ≠ 15 ∧ s ≠ 20 ∧ s ≠ 60))) (fun i _ => 4 - (intOf i).toNat)
    case atStart => exact ⟨rfl, .inl rfl⟩
    case round =>
      obtain ⟨rfl, hrel⟩ := hrel
      rcases hrel with rfl | ⟨rfl, h1⟩ | ⟨rfl, h1, h2⟩ | ⟨rfl, h1, h2, h3⟩ | ⟨rfl, h1, h2, h3, h4⟩
      · by_cases h : s = 10
        · subst h
          go_wp2
          go_ret
          exact ⟨rfl, rfl⟩
        · have t1 : ((10 : Int) == s) = false := by simp; omega
          go_wp2
          go_roundw
          case rel => exact ⟨by trivial, .inr (.inl ⟨rfl, h⟩)⟩
          case measure => simp [intOf]
      · by_cases h : s = 15
        · subst h
          go_wp2
          go_ret
          exact ⟨rfl, rfl⟩
        · have t1 : ((15 : Int) == s) = false := by simp; omega
          go_wp2
          go_roundw
          case rel => exact ⟨by trivial, .inr (.inr (.inl ⟨rfl, h1, h⟩))⟩
          case measure => simp [intOf]
      · by_cases h : s = 20
        · subst h
          go_wp2
          go_ret
          exact ⟨rfl, rfl⟩
        · have t1 : ((20 : Int) == s) = false := by simp; omega
          go_wp2
          go_roundw
          case rel => exact ⟨by trivial, .inr (.inr (.inr (.inl ⟨rfl, h1, h2, h⟩)))⟩
          case measure => simp [intOf]
      · by_cases h : s = 60
        · subst h
          go_wp2
          go_ret
          exact ⟨rfl, rfl⟩
        · have t1 : ((60 : Int) == s) = false := by simp; omega
          go_wp2
          go_roundw
          case rel => exact ⟨by trivial, .inr (.inr (.inr (.inr ⟨rfl, h1, h2, h3, h⟩)))⟩
          case measure => simp [intOf]
      · go_wp2
        go_ret
        exact ⟨ret_i (by unfold beV; rw [if_neg h1, if_neg h2, if_neg h3, if_neg h4]), rfl⟩
theorem ky_edited (r v s f b : Int) (hb : b = 1 ∨ b = -1) (w : World) (hT : TabAt w 2 .i64 kySets) : Calls Tryd.prog 55 #[.agg #[.int .i64 r, .int .i64 v, .int .i64 s], .int .i64 f, .int .i64 b] w fun e w' =>
    e = .returned (.agg #[.int .i64 (edR f r b), .int .i64 (edV f v b), .int .i64 (edS f s b)]) ∧ Below w.heap.size w w' := by
  have HT := Lib.hid hT
  have A : Below w.heap.size w w := Below.refl _ _
  clear hT
  rcases (by omega : f = 0 ∨ f = 1 ∨ f = 2 ∨ (f ≠ 0 ∧ f ≠ 1 ∧ f ≠ 2)) with rfl | rfl | rfl | ⟨h0, h1, h2⟩
  · have HM := Lib.hid (fun w => ky_moved r (b * 5) 5 1000 (by omega) (by omega) (by omega) (by omega) (by omega) w)
    have i1 : IntKind.i64.wrap (b * 5) = b * 5 := IntWalk.i64_in _ (by omega)
    rw [show edR 0 r b = mvV r (b * 5) 5 1000 from rfl, show edV 0 v b = v from rfl, show edS 0 s b = s from rfl]
    generalize mvV r (b * 5) 5 1000 = X at *
    go_enter Tryd.func55, Tryd.ntmps55
    go_wp2_with (go_at_call 60; refine (HM.out _).mono ?_; rintro e w' ⟨rfl, rfl⟩)
    refine bodyPost_ret (v := .agg #[.int .i64 X, .int .i64 v, .int .i64 s]) (by simp [results, Tryd.results55, go_sem]) rfl ⟨rfl, by (repeat (first | (with_reducible exact Below.refl _ _) | (with_reducible assumption) | (with_reducible refine Near.up _ ?_) | (with_reducible refine Below.drew ?_) | (with_reducible refine below_alloc_on ?_ _) | (with_reducible refine below_set_on ?_ (by first | (simp; done) | (simp; omega) | omega) _)))⟩
  · have HM := Lib.hid (fun w => ky_moved v (b * 10) 1 5000 (by omega) (by omega) (by omega) (by omega) (by omega) w)
    have i1 : IntKind.i64.wrap (b * 10) = b * 10 := IntWalk.i64_in _ (by omega)
    rw [show edR 1 r b = r from rfl, show edV 1 v b = mvV v (b * 10) 1 5000 from rfl, show edS 1 s b = s from rfl]
    generalize mvV v (b * 10) 1 5000 = X at *
    go_enter Tryd.func55, Tryd.ntmps55
    go_wp2_with (go_at_call 60; refine (HM.out _).mono ?_; rintro e w' ⟨rfl, rfl⟩)
    refine bodyPost_ret (v := .agg #[.int .i64 r, .int .i64 X, .int .i64 s]) (by simp [results, Tryd.results55, go_sem]) rfl ⟨rfl, by (repeat (first | (with_reducible exact Below.refl _ _) | (with_reducible assumption) | (with_reducible refine Near.up _ ?_) | (with_reducible refine Below.drew ?_) | (with_reducible refine below_alloc_on ?_ _) | (with_reducible refine below_set_on ?_ (by first | (simp; done) | (simp; omega) | omega) _)))⟩
  · have HB := Lib.hid (fun w h => ky_beside s b hb w h)
    rw [show edR 2 r b = r from rfl, show edV 2 v b = v from rfl, show edS 2 s b = beV s b from rfl]
    generalize beV s b = X at *
    go_enter Tryd.func55, Tryd.ntmps55
    go_wp2_with (go_at_call 61; refine (HB.out _ (HT.out.below (by (repeat (first | (with_reducible exact Below.refl _ _) | (with_reducible assumption) | (with_reducible refine Near.up _ ?_) | (with_reducible refine Below.drew ?_) | (with_reducible refine below_alloc_on ?_ _) | (with_reducible refine below_set_on ?_ (by first | (simp; done) | (simp; omega) | omega) _)))))).mono ?_; rintro e w' ⟨rfl, rfl⟩)
    refine bodyPost_ret (v := .agg #[.int .i64 r, .int .i64 v, .int .i64 X]) (by simp [results, Tryd.results55, go_sem]) rfl ⟨rfl, by (repeat (first | (with_reducible exact Below.refl _ _) | (with_reducible assumption) | (with_reducible refine Near.up _ ?_) | (with_reducible refine Below.drew ?_) | (with_reducible refine below_alloc_on ?_ _) | (with_reducible refine below_set_on ?_ (by first | (simp; done) | (simp; omega) | omega) _)))⟩
  · rw [show edR f r b = r from if_neg h0, show edV f v b = v from if_neg h1, show edS f s b = s from if_neg h2]
    have u0 : (f == 0) = false := by simpa using h0
    have u1 : (f == 1) = false := by simpa using h1
    have u2 : (f == 2) = false := by simpa using h2
    clear h0 h1 h2
    go_enter Tryd.func55, Tryd.ntmps55
    go_wp2
    refine bodyPost_ret (v := .agg #[.int .i64 r, .int .i64 v, .int .i64 s]) (by simp [results, Tryd.results55, go_sem]) rfl ⟨rfl, by (repeat (first | (with_reducible exact Below.refl _ _) | (with_reducible assumption) | (with_reducible refine Near.up _ ?_) | (with_reducible refine Below.drew ?_) | (with_reducible refine below_alloc_on ?_ _) | (with_reducible refine below_set_on ?_ (by first | (simp; done) | (simp; omega) | omega) _)))⟩
theorem ky_turned (f r v s : Int) (a : Bool) (k : Int) (w : World) (hT : TabAt w 2 .i64 kySets) : Calls Tryd.prog 45 #[.agg #[.int .i64 f, .int .i64 r, .int .i64 v, .int .i64 s, .bool a], .int .i64 k] w fun e w' =>
    e = .returned (.agg #[.int .i64 (tnF k f), .int .i64 (tnR k f r), .int .i64 (tnV k f v), .int .i64 (tnS k f s), .bool a]) ∧ Below w.heap.size w w' := by
  have A : Below w.heap.size w w := Below.refl _ _
  have HT := Lib.hid hT
  clear hT
  rcases (by omega : k = 1 ∨ k = 2 ∨ k = 3 ∨ (k ≠ 1 ∧ k ≠ 2 ∧ k ≠ 3)) with rfl | rfl | rfl | ⟨h0, h1, h2⟩
  · have HE := Lib.hid (fun w h => ky_edited r v s f 1 (.inl rfl) w h)
    rw [show tnF 1 f = f from rfl, show tnR 1 f r = edR f r 1 from rfl, show tnV 1 f v = edV f v 1 from rfl, show tnS 1 f s = edS f s 1 from rfl]
    generalize edR f r 1 = X at *
    generalize edV f v 1 = Y at *
    generalize edS f s 1 = Z at *
    go_enter Tryd.func45, Tryd.ntmps45
    go_wp2_with (fail)
    refine (HE.out _ (HT.out.below (by (repeat (first | (with_reducible exact Below.refl _ _) | (with_reducible assumption) | (with_reducible refine Near.up _ ?_) | (with_reducible refine Below.drew ?_) | (with_reducible refine below_alloc_on ?_ _) | (with_reducible refine below_set_on ?_ (by first | (simp; done) | (simp; omega) | omega) _)))))).mono ?_
    rintro e w1 ⟨rfl, hb⟩
    replace A : Below w.heap.size w w1 := by (refine below_call ?_ hb; (repeat (first | (with_reducible exact Below.refl _ _) | (with_reducible assumption) | (with_reducible refine Near.up _ ?_) | (with_reducible refine Below.drew ?_) | (with_reducible refine below_alloc_on ?_ _) | (with_reducible refine below_set_on ?_ (by first | (simp; done) | (simp; omega) | omega) _))))
    replace P := Box.below (g := w.heap.size) (by (repeat (first | (with_reducible assumption) | (with_reducible exact box_new _ _ _) | ((with_reducible apply box_at); (first | (with_reducible rfl) | (simp <;> omega))) | (with_reducible apply Box.drew) | (with_reducible apply Box.drewN) | (with_reducible apply Box.near) | (with_reducible apply Box.alloc) | ((with_reducible apply box_far); (first | assumption | omega | (simp <;> omega))) | ((with_reducible apply Box.one_set); (with_reducible assumption)) | ((with_reducible apply Box.two_set); (with_reducible assumption)) | ((with_reducible apply Box.three_set); (with_reducible assumption)) | (with_reducible apply Box.set) | (simp only [List.size_toArray, List.length_cons, List.length_nil, Array.size_setIfInBounds] <;> omega)))) hb
    (try simp only [List.setIfInBounds_toArray, List.set_cons_zero, List.set_cons_succ] at P)
    (try clear cP fP)
    replace Q := Box.below (g := w.heap.size + 1) (by (repeat (first | (with_reducible assumption) | (with_reducible exact box_new _ _ _) | ((with_reducible apply box_at); (first | (with_reducible rfl) | (simp <;> omega))) | (with_reducible apply Box.drew) | (with_reducible apply Box.drewN) | (with_reducible apply Box.near) | (with_reducible apply Box.alloc) | ((with_reducible apply box_far); (first | assumption | omega | (simp <;> omega))) | ((with_reducible apply Box.one_set); (with_reducible assumption)) | ((with_reducible apply Box.two_set); (with_reducible assumption)) | ((with_reducible apply Box.three_set); (with_reducible assumption)) | (with_reducible apply Box.set) | (simp only [List.size_toArray, List.length_cons, List.length_nil, Array.size_setIfInBounds] <;> omega)))) hb
    (try simp only [List.setIfInBounds_toArray, List.set_cons_zero, List.set_cons_succ] at Q)
    (try clear cQ fQ)
    clear hb
    have z_w1 : w.heap.size ≤ w1.heap.size := A.size
    obtain ⟨lP_w1, cP, fP⟩ := id P
    obtain ⟨lQ_w1, cQ, fQ⟩ := id Q
    go_wp2
    refine bodyPost_ret (v := .agg #[.int .i64 f, .int .i64 X, .int .i64 Y, .int .i64 Z, .bool a]) (by simp [results, Tryd.results45, go_sem, cQ, cP]) rfl ⟨rfl, by (repeat (first | (with_reducible exact Below.refl _ _) | (with_reducible assumption) | (with_reducible refine Near.up _ ?_) | (with_reducible refine Below.drew ?_) | (with_reducible refine below_alloc_on ?_ _) | (with_reducible refine below_set_on ?_ (by first | (simp; done) | (simp; omega) | omega) _)))⟩
  · have HE := Lib.hid (fun w h => ky_edited r v s f (-1) (.inr rfl) w h)
    rw [show tnF 2 f = f from rfl, show tnR 2 f r = edR f r (-1) from rfl, show tnV 2 f v = edV f v (-1) from rfl, show tnS 2 f s = edS f s (-1) from rfl]
    generalize edR f r (-1) = X at *
    generalize edV f v (-1) = Y at *
    generalize edS f s (-1) = Z at *
    go_enter Tryd.func45, Tryd.ntmps45
    go_wp2_with (fail)
    refine (HE.out _ (HT.out.below (by (repeat (first | (with_reducible exact Below.refl _ _) | (with_reducible assumption) | (with_reducible refine Near.up _ ?_) | (with_reducible refine Below.drew ?_) | (with_reducible refine below_alloc_on ?_ _) | (with_reducible refine below_set_on ?_ (by first | (simp; done) | (simp; omega) | omega) _)))))).mono ?_
    rintro e w1 ⟨rfl, hb⟩
    replace A : Below w.heap.size w w1 := by (refine below_call ?_ hb; (repeat (first | (with_reducible exact Below.refl _ _) | (with_reducible assumption) | (with_reducible refine Near.up _ ?_) | (with_reducible refine Below.drew ?_) | (with_reducible refine below_alloc_on ?_ _) | (with_reducible refine below_set_on ?_ (by first | (simp; done) | (simp; omega) | omega) _))))
    replace P := Box.below (g := w.heap.size) (by (repeat (first | (with_reducible assumption) | (with_reducible exact box_new _ _ _) | ((with_reducible apply box_at); (first | (with_reducible rfl) | (simp <;> omega))) | (with_reducible apply Box.drew) | (with_reducible apply Box.drewN) | (with_reducible apply Box.near) | (with_reducible apply Box.alloc) | ((with_reducible apply box_far); (first | assumption | omega | (simp <;> omega))) | ((with_reducible apply Box.one_set); (with_reducible assumption)) | ((with_reducible apply Box.two_set); (with_reducible assumption)) | ((with_reducible apply Box.three_set); (with_reducible assumption)) | (with_reducible apply Box.set) | (simp only [List.size_toArray, List.length_cons, List.length_nil, Array.size_setIfInBounds] <;> omega)))) hb
    (try simp only [List.setIfInBounds_toArray, List.set_cons_zero, List.set_cons_succ] at P)
    (try clear cP fP)
    replace Q := Box.below (g := w.heap.size + 1) (by (repeat (first | (with_reducible assumption) | (with_reducible exact box_new _ _ _) | ((with_reducible apply box_at); (first | (with_reducible rfl) | (simp <;> omega))) | (with_reducible apply Box.drew) | (with_reducible apply Box.drewN) | (with_reducible apply Box.near) | (with_reducible apply Box.alloc) | ((with_reducible apply box_far); (first | assumption | omega | (simp <;> omega))) | ((with_reducible apply Box.one_set); (with_reducible assumption)) | ((with_reducible apply Box.two_set); (with_reducible assumption)) | ((with_reducible apply Box.three_set); (with_reducible assumption)) | (with_reducible apply Box.set) | (simp only [List.size_toArray, List.length_cons, List.length_nil, Array.size_setIfInBounds] <;> omega)))) hb
    (try simp only [List.setIfInBounds_toArray, List.set_cons_zero, List.set_cons_succ] at Q)
    (try clear cQ fQ)
    clear hb
    have z_w1 : w.heap.size ≤ w1.heap.size := A.size
    obtain ⟨lP_w1, cP, fP⟩ := id P
    obtain ⟨lQ_w1, cQ, fQ⟩ := id Q
    go_wp2
    refine bodyPost_ret (v := .agg #[.int .i64 f, .int .i64 X, .int .i64 Y, .int .i64 Z, .bool a]) (by simp [results, Tryd.results45, go_sem, cQ, cP]) rfl ⟨rfl, by (repeat (first | (with_reducible exact Below.refl _ _) | (with_reducible assumption) | (with_reducible refine Near.up _ ?_) | (with_reducible refine Below.drew ?_) | (with_reducible refine below_alloc_on ?_ _) | (with_reducible refine below_set_on ?_ (by first | (simp; done) | (simp; omega) | omega) _)))⟩
  · have HF := Lib.hid (fun w => ky_following f w)
    rw [show tnF 3 f = foV f from rfl, show tnR 3 f r = r from rfl, show tnV 3 f v = v from rfl, show tnS 3 f s = s from rfl]
    generalize foV f = X at *
    go_enter Tryd.func45, Tryd.ntmps45
    go_wp2_with (go_at_call 56; refine (HF.out _).mono ?_; rintro e w' ⟨rfl, rfl⟩)
    refine bodyPost_ret (v := .agg #[.int .i64 X, .int .i64 r, .int .i64 v, .int .i64 s, .bool a]) (by simp [results, Tryd.results45, go_sem]) rfl ⟨rfl, by (repeat (first | (with_reducible exact Below.refl _ _) | (with_reducible assumption) | (with_reducible refine Near.up _ ?_) | (with_reducible refine Below.drew ?_) | (with_reducible refine below_alloc_on ?_ _) | (with_reducible refine below_set_on ?_ (by first | (simp; done) | (simp; omega) | omega) _)))⟩
  · rw [show tnF k f = f from if_neg h2, show tnR k f r = r by unfold tnR; rw [if_neg h0, if_neg h1], show tnV k f v = v by unfold tnV; rw [if_neg h0, if_neg h1], show tnS k f s = s by unfold tnS; rw [if_neg h0, if_neg h1]]
    have u0 : (k == 1) = false := by simpa using h0
    have u1 : (k == 2) = false := by simpa using h1
    have u2 : (k == 3) = false := by simpa using h2
    clear h0 h1 h2
    go_enter Tryd.func45, Tryd.ntmps45
    go_wp2
    refine bodyPost_ret (v := .agg #[.int .i64 f, .int .i64 r, .int .i64 v, .int .i64 s, .bool a]) (by simp [results, Tryd.results45, go_sem]) rfl ⟨rfl, by (repeat (first | (with_reducible exact Below.refl _ _) | (with_reducible assumption) | (with_reducible refine Near.up _ ?_) | (with_reducible refine Below.drew ?_) | (with_reducible refine below_alloc_on ?_ _) | (with_reducible refine below_set_on ?_ (by first | (simp; done) | (simp; omega) | omega) _)))⟩
theorem cf_ways (m l r v s : Int) : (m ≠ 1 ∧ m ≠ 4 ∧ m ≠ 3 ∧ cfB m l r v s = false) ∨ ((m = 1 ∨ m = 4 ∨ m = 3) ∧ l ≠ 0 ∧ cfB m l r v s = false) ∨ ((m = 1 ∨ m = 4 ∨ m = 3) ∧ l = 0 ∧ ckV r v s ≠ 0 ∧ cfB m l r v s = false) ∨ ((m = 1 ∨ m = 4 ∨ m = 3) ∧ l = 0 ∧ ckV r v s = 0 ∧ cfB m l r v s = true) := by
  unfold cfB
  generalize ckV r v s = E
  by_cases hm : m = 1 ∨ m = 4 ∨ m = 3
  · by_cases hl : l = 0
    · by_cases hE : E = 0
      · exact .inr (.inr (.inr ⟨hm, hl, hE, decide_eq_true ⟨hm, hl, hE⟩⟩))
      · exact .inr (.inr (.inl ⟨hm, hl, hE, decide_eq_false (fun h => hE h.2.2)⟩))
    · exact .inr (.inl ⟨hm, hl, decide_eq_false (fun h => hl h.2.1)⟩)
  · exact .inl ⟨by omega, by omega, by omega, decide_eq_false (fun h => hm h.1)⟩
theorem ky_conf (f r v s : Int) (a : Bool) (m l : Int) (w : World) : Calls Tryd.prog 44 #[.agg #[.int .i64 f, .int .i64 r, .int .i64 v, .int .i64 s, .bool a], .int .i64 m, .int .i64 l] w fun e w' => e = .returned (.bool (cfB m l r v s)) ∧ Below w.heap.size w w' := by
  have A : Below w.heap.size w w := Below.refl _ _
  have HC := Lib.hid (fun w => pr_check r v s w)
  rcases cf_ways m l r v s with ⟨m1, m2, m3, e⟩ | ⟨hm, hl, e⟩ | ⟨hm, rfl, hE, e⟩ | ⟨hm, rfl, hE, e⟩
  · rw [e]
    have u0 : (m == 1) = false := by simpa using m1
    have u1 : (m == 4) = false := by simpa using m2
    have u2 : (m == 3) = false := by simpa using m3
    clear e m1 m2 m3
    go_enter Tryd.func44, Tryd.ntmps44
    go_wp2
    all_goals go_ret
    all_goals exact ⟨rfl, by (repeat (first | (with_reducible exact Below.refl _ _) | (with_reducible assumption) | (with_reducible refine Near.up _ ?_) | (with_reducible refine Below.drew ?_) | (with_reducible refine below_alloc_on ?_ _) | (with_reducible refine below_set_on ?_ (by first | (simp; done) | (simp; omega) | omega) _)))⟩
  · rw [e]
    have u0 : (l == 0) = false := by simpa using hl
    clear e hl
    rcases hm with rfl | rfl | rfl
    all_goals go_enter Tryd.func44, Tryd.ntmps44
    all_goals go_wp2
    all_goals go_ret
    all_goals exact ⟨rfl, by (repeat (first | (with_reducible exact Below.refl _ _) | (with_reducible assumption) | (with_reducible refine Near.up _ ?_) | (with_reducible refine Below.drew ?_) | (with_reducible refine below_alloc_on ?_ _) | (with_reducible refine below_set_on ?_ (by first | (simp; done) | (simp; omega) | omega) _)))⟩
  · rw [e]
    generalize ckV r v s = E at *
    have u0 : (E == 0) = false := by simpa using hE
    clear e hE
    rcases hm with rfl | rfl | rfl
    all_goals
      go_enter Tryd.func44, Tryd.ntmps44
      go_wp2_with (fail)
      refine (HC.out _).mono ?_
      rintro e w1 ⟨rfl, hb⟩
      replace A : Below w.heap.size w w1 := by (refine below_call ?_ hb; (repeat (first | (with_reducible exact Below.refl _ _) | (with_reducible assumption) | (with_reducible refine Near.up _ ?_) | (with_reducible refine Below.drew ?_) | (with_reducible refine below_alloc_on ?_ _) | (with_reducible refine below_set_on ?_ (by first | (simp; done) | (simp; omega) | omega) _))))
      clear hb
      have z_w1 : w.heap.size ≤ w1.heap.size := A.size
      go_wp2
      all_goals go_ret
      all_goals exact ⟨rfl, by (repeat (first | (with_reducible exact Below.refl _ _) | (with_reducible assumption) | (with_reducible refine Near.up _ ?_) | (with_reducible refine Below.drew ?_) | (with_reducible refine below_alloc_on ?_ _) | (with_reducible refine below_set_on ?_ (by first | (simp; done) | (simp; omega) | omega) _)))⟩
  · rw [e]
    rw [hE] at HC
    clear e hE
    rcases hm with rfl | rfl | rfl
    all_goals
      go_enter Tryd.func44, Tryd.ntmps44
      go_wp2_with (fail)
      refine (HC.out _).mono ?_
      rintro e w1 ⟨rfl, hb⟩
      replace A : Below w.heap.size w w1 := by (refine below_call ?_ hb; (repeat (first | (with_reducible exact Below.refl _ _) | (with_reducible assumption) | (with_reducible refine Near.up _ ?_) | (with_reducible refine Below.drew ?_) | (with_reducible refine below_alloc_on ?_ _) | (with_reducible refine below_set_on ?_ (by first | (simp; done) | (simp; omega) | omega) _))))
      clear hb
      have z_w1 : w.heap.size ≤ w1.heap.size := A.size
      go_wp2
      all_goals go_ret
      all_goals exact ⟨rfl, by (repeat (first | (with_reducible exact Below.refl _ _) | (with_reducible assumption) | (with_reducible refine Near.up _ ?_) | (with_reducible refine Below.drew ?_) | (with_reducible refine below_alloc_on ?_ _) | (with_reducible refine below_set_on ?_ (by first | (simp; done) | (simp; omega) | omega) _)))⟩
theorem ky_wished (f r v s : Int) (a : Bool) (k : Int) (c : Bool) (w : World) : Calls Tryd.prog 46 #[.agg #[.int .i64 f, .int .i64 r, .int .i64 v, .int .i64 s, .bool a], .int .i64 k, .bool c] w fun e w' =>
    e = .returned (.agg #[.int .i64 (wiK k (a && c)), .int .i64 (wiP k (a && c) r), .int .i64 (wiP k (a && c) v), .int .i64 (wiP k (a && c) s)]) ∧ Below w.heap.size w w' := by
  rcases (by omega : k = 5 ∨ k = 6 ∨ k = 7 ∨ k = 8 ∨ k = 9 ∨ k = 10 ∨ (k ≠ 5 ∧ k ≠ 6 ∧ k ≠ 7 ∧ k ≠ 8 ∧ k ≠ 9 ∧ k ≠ 10)) with rfl | rfl | rfl | rfl | rfl | rfl | ⟨h5, h6, h7, h8, h9, h10⟩
  · cases a
    · go_enter Tryd.func46, Tryd.ntmps46
      go_wp2
      refine bodyPost_ret (v := .agg #[.int .i64 0, .int .i64 0, .int .i64 0, .int .i64 0]) (by simp [results, Tryd.results46, go_sem]) rfl ⟨rfl, by (repeat (first | (with_reducible exact Below.refl _ _) | (with_reducible assumption) | (with_reducible refine Near.up _ ?_) | (with_reducible refine Below.drew ?_) | (with_reducible refine below_alloc_on ?_ _) | (with_reducible refine below_set_on ?_ (by first | (simp; done) | (simp; omega) | omega) _)))⟩
    · cases c
      · go_enter Tryd.func46, Tryd.ntmps46
        go_wp2
        refine bodyPost_ret (v := .agg #[.int .i64 0, .int .i64 0, .int .i64 0, .int .i64 0]) (by simp [results, Tryd.results46, go_sem]) rfl ⟨rfl, by (repeat (first | (with_reducible exact Below.refl _ _) | (with_reducible assumption) | (with_reducible refine Near.up _ ?_) | (with_reducible refine Below.drew ?_) | (with_reducible refine below_alloc_on ?_ _) | (with_reducible refine below_set_on ?_ (by first | (simp; done) | (simp; omega) | omega) _)))⟩
      · go_enter Tryd.func46, Tryd.ntmps46
        go_wp2
        refine bodyPost_ret (v := .agg #[.int .i64 1, .int .i64 r, .int .i64 v, .int .i64 s]) (by simp [results, Tryd.results46, go_sem]) rfl ⟨rfl, by (repeat (first | (with_reducible exact Below.refl _ _) | (with_reducible assumption) | (with_reducible refine Near.up _ ?_) | (with_reducible refine Below.drew ?_) | (with_reducible refine below_alloc_on ?_ _) | (with_reducible refine below_set_on ?_ (by first | (simp; done) | (simp; omega) | omega) _)))⟩
  · go_enter Tryd.func46, Tryd.ntmps46
    go_wp2
    refine bodyPost_ret (v := .agg #[.int .i64 2, .int .i64 0, .int .i64 0, .int .i64 0]) (by simp [results, Tryd.results46, go_sem]) rfl ⟨rfl, by (repeat (first | (with_reducible exact Below.refl _ _) | (with_reducible assumption) | (with_reducible refine Near.up _ ?_) | (with_reducible refine Below.drew ?_) | (with_reducible refine below_alloc_on ?_ _) | (with_reducible refine below_set_on ?_ (by first | (simp; done) | (simp; omega) | omega) _)))⟩
  · go_enter Tryd.func46, Tryd.ntmps46
    go_wp2
    refine bodyPost_ret (v := .agg #[.int .i64 3, .int .i64 0, .int .i64 0, .int .i64 0]) (by simp [results, Tryd.results46, go_sem]) rfl ⟨rfl, by (repeat (first | (with_reducible exact Below.refl _ _) | (with_reducible assumption) | (with_reducible refine Near.up _ ?_) | (with_reducible refine Below.drew ?_) | (with_reducible refine below_alloc_on ?_ _) | (with_reducible refine below_set_on ?_ (by first | (simp; done) | (simp; omega) | omega) _)))⟩
  · go_enter Tryd.func46, Tryd.ntmps46
    go_wp2
    refine bodyPost_ret (v := .agg #[.int .i64 4, .int .i64 0, .int .i64 0, .int .i64 0]) (by simp [results, Tryd.results46, go_sem]) rfl ⟨rfl, by (repeat (first | (with_reducible exact Below.refl _ _) | (with_reducible assumption) | (with_reducible refine Near.up _ ?_) | (with_reducible refine Below.drew ?_) | (with_reducible refine below_alloc_on ?_ _) | (with_reducible refine below_set_on ?_ (by first | (simp; done) | (simp; omega) | omega) _)))⟩
  · go_enter Tryd.func46, Tryd.ntmps46
    go_wp2
    refine bodyPost_ret (v := .agg #[.int .i64 5, .int .i64 0, .int .i64 0, .int .i64 0]) (by simp [results, Tryd.results46, go_sem]) rfl ⟨rfl, by (repeat (first | (with_reducible exact Below.refl _ _) | (with_reducible assumption) | (with_reducible refine Near.up _ ?_) | (with_reducible refine Below.drew ?_) | (with_reducible refine below_alloc_on ?_ _) | (with_reducible refine below_set_on ?_ (by first | (simp; done) | (simp; omega) | omega) _)))⟩
  · go_enter Tryd.func46, Tryd.ntmps46
    go_wp2
    refine bodyPost_ret (v := .agg #[.int .i64 6, .int .i64 0, .int .i64 0, .int .i64 0]) (by simp [results, Tryd.results46, go_sem]) rfl ⟨rfl, by (repeat (first | (with_reducible exact Below.refl _ _) | (with_reducible assumption) | (with_reducible refine Near.up _ ?_) | (with_reducible refine Below.drew ?_) | (with_reducible refine below_alloc_on ?_ _) | (with_reducible refine below_set_on ?_ (by first | (simp; done) | (simp; omega) | omega) _)))⟩
  · rw [show wiK k (a && c) = 0 by unfold wiK; rw [if_neg h5, if_neg (by omega)], show ∀ x, wiP k (a && c) x = 0 from fun x => if_neg (fun h => h5 h.1), show ∀ x, wiP k (a && c) x = 0 from fun x => if_neg (fun h => h5 h.1), show ∀ x, wiP k (a && c) x = 0 from fun x => if_neg (fun h => h5 h.1)]
    have u5 : (k == 5) = false := by simpa using h5
    have u6 : (k == 6) = false := by simpa using h6
    have u7 : (k == 7) = false := by simpa using h7
    have u8 : (k == 8) = false := by simpa using h8
    have u9 : (k == 9) = false := by simpa using h9
    have u10 : (k == 10) = false := by simpa using h10
    clear h5 h6 h7 h8 h9 h10
    go_enter Tryd.func46, Tryd.ntmps46
    go_wp2
    refine bodyPost_ret (v := .agg #[.int .i64 0, .int .i64 0, .int .i64 0, .int .i64 0]) (by simp [results, Tryd.results46, go_sem]) rfl ⟨rfl, by (repeat (first | (with_reducible exact Below.refl _ _) | (with_reducible assumption) | (with_reducible refine Near.up _ ?_) | (with_reducible refine Below.drew ?_) | (with_reducible refine below_alloc_on ?_ _) | (with_reducible refine below_set_on ?_ (by first | (simp; done) | (simp; omega) | omega) _)))⟩
end Go.Proofs.YthghangoagponaaDoor
