/- The document's key. -/
import Derived.Test.YthghangoagponaaDoorRef42
import Derived.Deep.CutBlock
namespace Go.Proofs.YthghangoagponaaDoor
open Go.RowKit
set_option linter.unusedVariables false
set_option linter.unusedSimpArgs false
attribute [local go_sem] cell_set_ite Near.cell Near.frozen

/-- A world is forgotten, but for what is said of it. -/
theorem at_world {c : Code} {P : Program} {Q : Exit → Act → World → Prop} {a : Act} {w : World} (C : World → Prop) (h : C w) (k : ∀ W', C W' → c.wp P Q a W') : c.wp P Q a w := k w h
theorem box_cast {w : World} {g : Nat} {cs cs' : Array Value} (h : Box w g cs) (e : cs = cs') : Box w g cs' := e ▸ h

set_option maxHeartbeats 4000000 in
theorem rk_step (f r v s : Int) (a : Bool) (k m l : Int) (w : World) : Calls Tryd.prog 31 #[.agg #[.int .i64 f, .int .i64 r, .int .i64 v, .int .i64 s, .bool a], .int .i64 k, .int .i64 m, .int .i64 l] w fun e w' =>
    e = .returned (.tuple #[.agg #[.int .i64 (tnF k f), .int .i64 (tnR k f r), .int .i64 (tnV k f v), .int .i64 (tnS k f s), .bool (stA k a (cfB m l r v s))],
      .agg #[.int .i64 (wiK k (a && cfB m l r v s)), .int .i64 (wiP k (a && cfB m l r v s) r), .int .i64 (wiP k (a && cfB m l r v s) v), .int .i64 (wiP k (a && cfB m l r v s) s)]]) ∧ Below w.heap.size w w' := by
  have A : Below w.heap.size w w := Below.refl _ _
  have HW := Lib.hid (fun w => rk_wish k w)
  have HC := Lib.hid (fun w => rk_asks f r v s a m l w)
  generalize cfB m l r v s = c at *
  rcases (by omega : k = 0 ∨ k = 1 ∨ k = 2 ∨ k = 3 ∨ k = 4 ∨ k = 5 ∨ (k ≠ 0 ∧ k ≠ 1 ∧ k ≠ 2 ∧ k ≠ 3 ∧ k ≠ 4 ∧ k ≠ 5)) with rfl | rfl | rfl | rfl | rfl | rfl | ⟨h0, h1, h2, h3, h4, h5⟩
  · clear HW HC
    rw [show tnF 0 f = f from rfl, show tnR 0 f r = r from rfl, show tnV 0 f v = v from rfl, show tnS 0 f s = s from rfl, show stA 0 a c = a from rfl, show wiK 0 (a && c) = 0 from rfl, show ∀ x, wiP 0 (a && c) x = 0 from fun _ => rfl, show ∀ x, wiP 0 (a && c) x = 0 from fun _ => rfl, show ∀ x, wiP 0 (a && c) x = 0 from fun _ => rfl]
    go_enter Tryd.func31, Tryd.ntmps31
    go_wp2
    refine bodyPost_ret (v := .tuple #[.agg #[.int .i64 f, .int .i64 r, .int .i64 v, .int .i64 s, .bool a], .agg #[.int .i64 0, .int .i64 0, .int .i64 0, .int .i64 0]]) (by simp [results, Tryd.results31, go_sem]) rfl ⟨rfl, by (repeat (first | (with_reducible exact Below.refl _ _) | (with_reducible assumption) | (with_reducible refine Near.up _ ?_) | (with_reducible refine Below.drew ?_) | (with_reducible refine below_alloc_on ?_ _) | (with_reducible refine below_set_on ?_ (by first | (simp; done) | (simp; omega) | omega) _)))⟩
  · have HT := Lib.hid (fun w => rk_turn r v s f (1) (Or.inl rfl) w)
    clear HC
    rw [show wiN 1 = 0 from rfl] at HW
    rw [show tnF 1 f = f from rfl, show tnR 1 f r = edR f r (1) from rfl, show tnV 1 f v = edV f v (1) from rfl, show tnS 1 f s = edS f s (1) from rfl, show stA 1 a c = false from rfl, show wiK 1 (a && c) = 0 from rfl, show ∀ x, wiP 1 (a && c) x = 0 from fun _ => rfl, show ∀ x, wiP 1 (a && c) x = 0 from fun _ => rfl, show ∀ x, wiP 1 (a && c) x = 0 from fun _ => rfl]
    generalize edR f r (1) = R at *
    generalize edV f v (1) = V at *
    generalize edS f s (1) = S at *
    go_enter Tryd.func31, Tryd.ntmps31
    go_wp2_with (fail)
    refine (HT.out _).mono ?_
    rintro e w1 ⟨rfl, hb⟩
    replace A : Below w.heap.size w w1 := by (refine below_call ?_ hb; (repeat (first | (with_reducible exact Below.refl _ _) | (with_reducible assumption) | (with_reducible refine Near.up _ ?_) | (with_reducible refine Below.drew ?_) | (with_reducible refine below_alloc_on ?_ _) | (with_reducible refine below_set_on ?_ (by first | (simp; done) | (simp; omega) | omega) _))))
    replace P := Box.below (g := w.heap.size) (by (repeat (first | (with_reducible assumption) | (with_reducible exact box_new _ _ _) | ((with_reducible apply box_at); (first | (with_reducible rfl) | (simp <;> omega))) | (with_reducible apply Box.drew) | (with_reducible apply Box.drewN) | (with_reducible apply Box.near) | (with_reducible apply Box.alloc) | ((with_reducible apply box_far); (first | assumption | omega | (simp <;> omega))) | ((with_reducible apply Box.one_set); (with_reducible assumption)) | ((with_reducible apply Box.two_set); (with_reducible assumption)) | ((with_reducible apply Box.three_set); (with_reducible assumption)) | (with_reducible apply Box.set) | (simp only [List.size_toArray, List.length_cons, List.length_nil, Array.size_setIfInBounds] <;> omega)))) hb
    (try simp only [List.setIfInBounds_toArray, List.set_cons_zero, List.set_cons_succ] at P)
    (try clear cP fP)
    replace Q := Box.below (g := w.heap.size + 1) (by (repeat (first | (with_reducible assumption) | (with_reducible exact box_new _ _ _) | ((with_reducible apply box_at); (first | (with_reducible rfl) | (simp <;> omega))) | (with_reducible apply Box.drew) | (with_reducible apply Box.drewN) | (with_reducible apply Box.near) | (with_reducible apply Box.alloc) | ((with_reducible apply box_far); (first | assumption | omega | (simp <;> omega))) | ((with_reducible apply Box.one_set); (with_reducible assumption)) | ((with_reducible apply Box.two_set); (with_reducible assumption)) | ((with_reducible apply Box.three_set); (with_reducible assumption)) | (with_reducible apply Box.set) | (simp only [List.size_toArray, List.length_cons, List.length_nil, Array.size_setIfInBounds] <;> omega)))) hb
    (try simp only [List.setIfInBounds_toArray, List.set_cons_zero, List.set_cons_succ] at Q)
    (try clear cQ fQ)
    replace N := Box.below (g := w.heap.size + 1 + 1) (by (repeat (first | (with_reducible assumption) | (with_reducible exact box_new _ _ _) | ((with_reducible apply box_at); (first | (with_reducible rfl) | (simp <;> omega))) | (with_reducible apply Box.drew) | (with_reducible apply Box.drewN) | (with_reducible apply Box.near) | (with_reducible apply Box.alloc) | ((with_reducible apply box_far); (first | assumption | omega | (simp <;> omega))) | ((with_reducible apply Box.one_set); (with_reducible assumption)) | ((with_reducible apply Box.two_set); (with_reducible assumption)) | ((with_reducible apply Box.three_set); (with_reducible assumption)) | (with_reducible apply Box.set) | (simp only [List.size_toArray, List.length_cons, List.length_nil, Array.size_setIfInBounds] <;> omega)))) hb
    (try simp only [List.setIfInBounds_toArray, List.set_cons_zero, List.set_cons_succ] at N)
    (try clear cN fN)
    replace O := Box.below (g := w.heap.size + 1 + 1 + 1) (by (repeat (first | (with_reducible assumption) | (with_reducible exact box_new _ _ _) | ((with_reducible apply box_at); (first | (with_reducible rfl) | (simp <;> omega))) | (with_reducible apply Box.drew) | (with_reducible apply Box.drewN) | (with_reducible apply Box.near) | (with_reducible apply Box.alloc) | ((with_reducible apply box_far); (first | assumption | omega | (simp <;> omega))) | ((with_reducible apply Box.one_set); (with_reducible assumption)) | ((with_reducible apply Box.two_set); (with_reducible assumption)) | ((with_reducible apply Box.three_set); (with_reducible assumption)) | (with_reducible apply Box.set) | (simp only [List.size_toArray, List.length_cons, List.length_nil, Array.size_setIfInBounds] <;> omega)))) hb
    (try simp only [List.setIfInBounds_toArray, List.set_cons_zero, List.set_cons_succ] at O)
    (try clear cO fO)
    clear hb
    have z_w1 : w.heap.size ≤ w1.heap.size := A.size
    obtain ⟨lP_w1, cP, fP⟩ := id P
    obtain ⟨lQ_w1, cQ, fQ⟩ := id Q
    obtain ⟨lN_w1, cN, fN⟩ := id N
    obtain ⟨lO_w1, cO, fO⟩ := id O
    go_wp2
    go_upto_region 16 with fail
    refine at_world (fun W => Below w.heap.size w W ∧ Box W (w.heap.size + 1) #[.int .i64 0, .int .i64 0, .int .i64 0, .int .i64 0, .bool false] ∧ Box W (w.heap.size + 1 + 1) #[.int .i64 0, .int .i64 0, .int .i64 0, .int .i64 0] ∧ Box W (w.heap.size + 1 + 1 + 1) #[.int .i64 f, .int .i64 R, .int .i64 V, .int .i64 S, .bool false]) ⟨by (repeat (first | (with_reducible exact Below.refl _ _) | (with_reducible assumption) | (with_reducible refine Near.up _ ?_) | (with_reducible refine Below.drew ?_) | (with_reducible refine below_alloc_on ?_ _) | (with_reducible refine below_set_on ?_ (by first | (simp; done) | (simp; omega) | omega) _))), box_cast (by (repeat (first | (with_reducible assumption) | (with_reducible exact box_new _ _ _) | ((with_reducible apply box_at); (first | (with_reducible rfl) | (simp <;> omega))) | (with_reducible apply Box.drew) | (with_reducible apply Box.drewN) | (with_reducible apply Box.near) | (with_reducible apply Box.alloc) | ((with_reducible apply box_far); (first | assumption | omega | (simp <;> omega))) | ((with_reducible apply Box.one_set); (with_reducible assumption)) | ((with_reducible apply Box.two_set); (with_reducible assumption)) | ((with_reducible apply Box.three_set); (with_reducible assumption)) | (with_reducible apply Box.set) | (simp only [List.size_toArray, List.length_cons, List.length_nil, Array.size_setIfInBounds] <;> omega)))) (by first | rfl | simp), box_cast (by (repeat (first | (with_reducible assumption) | (with_reducible exact box_new _ _ _) | ((with_reducible apply box_at); (first | (with_reducible rfl) | (simp <;> omega))) | (with_reducible apply Box.drew) | (with_reducible apply Box.drewN) | (with_reducible apply Box.near) | (with_reducible apply Box.alloc) | ((with_reducible apply box_far); (first | assumption | omega | (simp <;> omega))) | ((with_reducible apply Box.one_set); (with_reducible assumption)) | ((with_reducible apply Box.two_set); (with_reducible assumption)) | ((with_reducible apply Box.three_set); (with_reducible assumption)) | (with_reducible apply Box.set) | (simp only [List.size_toArray, List.length_cons, List.length_nil, Array.size_setIfInBounds] <;> omega)))) (by first | rfl | simp), box_cast (by (repeat (first | (with_reducible assumption) | (with_reducible exact box_new _ _ _) | ((with_reducible apply box_at); (first | (with_reducible rfl) | (simp <;> omega))) | (with_reducible apply Box.drew) | (with_reducible apply Box.drewN) | (with_reducible apply Box.near) | (with_reducible apply Box.alloc) | ((with_reducible apply box_far); (first | assumption | omega | (simp <;> omega))) | ((with_reducible apply Box.one_set); (with_reducible assumption)) | ((with_reducible apply Box.two_set); (with_reducible assumption)) | ((with_reducible apply Box.three_set); (with_reducible assumption)) | (with_reducible apply Box.set) | (simp only [List.size_toArray, List.length_cons, List.length_nil, Array.size_setIfInBounds] <;> omega)))) (by first | rfl | simp)⟩ ?_
    rintro w3 ⟨A3, Q3, N3, O3⟩
    have B3 : Bx w (w.heap.size + 1 + 1 + 1) #[.int .i64 f, .int .i64 R, .int .i64 V, .int .i64 S, .bool false] w3 := ⟨O3, A3, by omega⟩
    generalize ho : w.heap.size + 1 + 1 + 1 = o at *
    generalize hn : w.heap.size + 1 + 1 = n at *
    generalize hq : w.heap.size + 1 = q at *
    obtain ⟨lQ3, cQ3, fQ3⟩ := id Q3
    obtain ⟨lN3, cN3, fN3⟩ := id N3
    obtain ⟨lO3, cO3, fO3⟩ := id O3
    have nq : n ≠ q := by omega
    have oq : o ≠ q := by omega
    have on : o ≠ n := by omega
    clear A B3
    go_region_with (go_at_call 49; refine (HW.out _).mono ?_; rintro e w4 ⟨rfl, rfl⟩)
    all_goals go_wp2
    all_goals refine bodyPost_ret (v := .tuple #[.agg #[.int .i64 f, .int .i64 R, .int .i64 V, .int .i64 S, .bool false], .agg #[.int .i64 0, .int .i64 0, .int .i64 0, .int .i64 0]]) (by simp [results, Tryd.results31, go_sem, cQ3, cN3]) rfl ⟨rfl, by (repeat (first | (with_reducible exact Below.refl _ _) | (with_reducible assumption) | (with_reducible refine Near.up _ ?_) | (with_reducible refine Below.drew ?_) | (with_reducible refine below_alloc_on ?_ _) | (with_reducible refine below_set_on ?_ (by first | (simp; done) | (simp; omega) | omega) _)))⟩
  · have HT := Lib.hid (fun w => rk_turn r v s f (-1) (Or.inr rfl) w)
    clear HC
    rw [show wiN 2 = 0 from rfl] at HW
    rw [show tnF 2 f = f from rfl, show tnR 2 f r = edR f r (-1) from rfl, show tnV 2 f v = edV f v (-1) from rfl, show tnS 2 f s = edS f s (-1) from rfl, show stA 2 a c = false from rfl, show wiK 2 (a && c) = 0 from rfl, show ∀ x, wiP 2 (a && c) x = 0 from fun _ => rfl, show ∀ x, wiP 2 (a && c) x = 0 from fun _ => rfl, show ∀ x, wiP 2 (a && c) x = 0 from fun _ => rfl]
    generalize edR f r (-1) = R at *
    generalize edV f v (-1) = V at *
    generalize edS f s (-1) = S at *
    go_enter Tryd.func31, Tryd.ntmps31
    go_wp2_with (fail)
    refine (HT.out _).mono ?_
    rintro e w1 ⟨rfl, hb⟩
    replace A : Below w.heap.size w w1 := by (refine below_call ?_ hb; (repeat (first | (with_reducible exact Below.refl _ _) | (with_reducible assumption) | (with_reducible refine Near.up _ ?_) | (with_reducible refine Below.drew ?_) | (with_reducible refine below_alloc_on ?_ _) | (with_reducible refine below_set_on ?_ (by first | (simp; done) | (simp; omega) | omega) _))))
    replace P := Box.below (g := w.heap.size) (by (repeat (first | (with_reducible assumption) | (with_reducible exact box_new _ _ _) | ((with_reducible apply box_at); (first | (with_reducible rfl) | (simp <;> omega))) | (with_reducible apply Box.drew) | (with_reducible apply Box.drewN) | (with_reducible apply Box.near) | (with_reducible apply Box.alloc) | ((with_reducible apply box_far); (first | assumption | omega | (simp <;> omega))) | ((with_reducible apply Box.one_set); (with_reducible assumption)) | ((with_reducible apply Box.two_set); (with_reducible assumption)) | ((with_reducible apply Box.three_set); (with_reducible assumption)) | (with_reducible apply Box.set) | (simp only [List.size_toArray, List.length_cons, List.length_nil, Array.size_setIfInBounds] <;> omega)))) hb
    (try simp only [List.setIfInBounds_toArray, List.set_cons_zero, List.set_cons_succ] at P)
    (try clear cP fP)
    replace Q := Box.below (g := w.heap.size + 1) (by (repeat (first | (with_reducible assumption) | (with_reducible exact box_new _ _ _) | ((with_reducible apply box_at); (first | (with_reducible rfl) | (simp <;> omega))) | (with_reducible apply Box.drew) | (with_reducible apply Box.drewN) | (with_reducible apply Box.near) | (with_reducible apply Box.alloc) | ((with_reducible apply box_far); (first | assumption | omega | (simp <;> omega))) | ((with_reducible apply Box.one_set); (with_reducible assumption)) | ((with_reducible apply Box.two_set); (with_reducible assumption)) | ((with_reducible apply Box.three_set); (with_reducible assumption)) | (with_reducible apply Box.set) | (simp only [List.size_toArray, List.length_cons, List.length_nil, Array.size_setIfInBounds] <;> omega)))) hb
    (try simp only [List.setIfInBounds_toArray, List.set_cons_zero, List.set_cons_succ] at Q)
    (try clear cQ fQ)
    replace N := Box.below (g := w.heap.size + 1 + 1) (by (repeat (first | (with_reducible assumption) | (with_reducible exact box_new _ _ _) | ((with_reducible apply box_at); (first | (with_reducible rfl) | (simp <;> omega))) | (with_reducible apply Box.drew) | (with_reducible apply Box.drewN) | (with_reducible apply Box.near) | (with_reducible apply Box.alloc) | ((with_reducible apply box_far); (first | assumption | omega | (simp <;> omega))) | ((with_reducible apply Box.one_set); (with_reducible assumption)) | ((with_reducible apply Box.two_set); (with_reducible assumption)) | ((with_reducible apply Box.three_set); (with_reducible assumption)) | (with_reducible apply Box.set) | (simp only [List.size_toArray, List.length_cons, List.length_nil, Array.size_setIfInBounds] <;> omega)))) hb
    (try simp only [List.setIfInBounds_toArray, List.set_cons_zero, List.set_cons_succ] at N)
    (try clear cN fN)
    replace O := Box.below (g := w.heap.size + 1 + 1 + 1) (by (repeat (first | (with_reducible assumption) | (with_reducible exact box_new _ _ _) | ((with_reducible apply box_at); (first | (with_reducible rfl) | (simp <;> omega))) | (with_reducible apply Box.drew) | (with_reducible apply Box.drewN) | (with_reducible apply Box.near) | (with_reducible apply Box.alloc) | ((with_reducible apply box_far); (first | assumption | omega | (simp <;> omega))) | ((with_reducible apply Box.one_set); (with_reducible assumption)) | ((with_reducible apply Box.two_set); (with_reducible assumption)) | ((with_reducible apply Box.three_set); (with_reducible assumption)) | (with_reducible apply Box.set) | (simp only [List.size_toArray, List.length_cons, List.length_nil, Array.size_setIfInBounds] <;> omega)))) hb
    (try simp only [List.setIfInBounds_toArray, List.set_cons_zero, List.set_cons_succ] at O)
    (try clear cO fO)
    clear hb
    have z_w1 : w.heap.size ≤ w1.heap.size := A.size
    obtain ⟨lP_w1, cP, fP⟩ := id P
    obtain ⟨lQ_w1, cQ, fQ⟩ := id Q
    obtain ⟨lN_w1, cN, fN⟩ := id N
    obtain ⟨lO_w1, cO, fO⟩ := id O
    go_wp2
    go_upto_region 16 with fail
    refine at_world (fun W => Below w.heap.size w W ∧ Box W (w.heap.size + 1) #[.int .i64 0, .int .i64 0, .int .i64 0, .int .i64 0, .bool false] ∧ Box W (w.heap.size + 1 + 1) #[.int .i64 0, .int .i64 0, .int .i64 0, .int .i64 0] ∧ Box W (w.heap.size + 1 + 1 + 1) #[.int .i64 f, .int .i64 R, .int .i64 V, .int .i64 S, .bool false]) ⟨by (repeat (first | (with_reducible exact Below.refl _ _) | (with_reducible assumption) | (with_reducible refine Near.up _ ?_) | (with_reducible refine Below.drew ?_) | (with_reducible refine below_alloc_on ?_ _) | (with_reducible refine below_set_on ?_ (by first | (simp; done) | (simp; omega) | omega) _))), box_cast (by (repeat (first | (with_reducible assumption) | (with_reducible exact box_new _ _ _) | ((with_reducible apply box_at); (first | (with_reducible rfl) | (simp <;> omega))) | (with_reducible apply Box.drew) | (with_reducible apply Box.drewN) | (with_reducible apply Box.near) | (with_reducible apply Box.alloc) | ((with_reducible apply box_far); (first | assumption | omega | (simp <;> omega))) | ((with_reducible apply Box.one_set); (with_reducible assumption)) | ((with_reducible apply Box.two_set); (with_reducible assumption)) | ((with_reducible apply Box.three_set); (with_reducible assumption)) | (with_reducible apply Box.set) | (simp only [List.size_toArray, List.length_cons, List.length_nil, Array.size_setIfInBounds] <;> omega)))) (by first | rfl | simp), box_cast (by (repeat (first | (with_reducible assumption) | (with_reducible exact box_new _ _ _) | ((with_reducible apply box_at); (first | (with_reducible rfl) | (simp <;> omega))) | (with_reducible apply Box.drew) | (with_reducible apply Box.drewN) | (with_reducible apply Box.near) | (with_reducible apply Box.alloc) | ((with_reducible apply box_far); (first | assumption | omega | (simp <;> omega))) | ((with_reducible apply Box.one_set); (with_reducible assumption)) | ((with_reducible apply Box.two_set); (with_reducible assumption)) | ((with_reducible apply Box.three_set); (with_reducible assumption)) | (with_reducible apply Box.set) | (simp only [List.size_toArray, List.length_cons, List.length_nil, Array.size_setIfInBounds] <;> omega)))) (by first | rfl | simp), box_cast (by (repeat (first | (with_reducible assumption) | (with_reducible exact box_new _ _ _) | ((with_reducible apply box_at); (first | (with_reducible rfl) | (simp <;> omega))) | (with_reducible apply Box.drew) | (with_reducible apply Box.drewN) | (with_reducible apply Box.near) | (with_reducible apply Box.alloc) | ((with_reducible apply box_far); (first | assumption | omega | (simp <;> omega))) | ((with_reducible apply Box.one_set); (with_reducible assumption)) | ((with_reducible apply Box.two_set); (with_reducible assumption)) | ((with_reducible apply Box.three_set); (with_reducible assumption)) | (with_reducible apply Box.set) | (simp only [List.size_toArray, List.length_cons, List.length_nil, Array.size_setIfInBounds] <;> omega)))) (by first | rfl | simp)⟩ ?_
    rintro w3 ⟨A3, Q3, N3, O3⟩
    have B3 : Bx w (w.heap.size + 1 + 1 + 1) #[.int .i64 f, .int .i64 R, .int .i64 V, .int .i64 S, .bool false] w3 := ⟨O3, A3, by omega⟩
    generalize ho : w.heap.size + 1 + 1 + 1 = o at *
    generalize hn : w.heap.size + 1 + 1 = n at *
    generalize hq : w.heap.size + 1 = q at *
    obtain ⟨lQ3, cQ3, fQ3⟩ := id Q3
    obtain ⟨lN3, cN3, fN3⟩ := id N3
    obtain ⟨lO3, cO3, fO3⟩ := id O3
    have nq : n ≠ q := by omega
    have oq : o ≠ q := by omega
    have on : o ≠ n := by omega
    clear A B3
    go_region_with (go_at_call 49; refine (HW.out _).mono ?_; rintro e w4 ⟨rfl, rfl⟩)
    all_goals go_wp2
    all_goals refine bodyPost_ret (v := .tuple #[.agg #[.int .i64 f, .int .i64 R, .int .i64 V, .int .i64 S, .bool false], .agg #[.int .i64 0, .int .i64 0, .int .i64 0, .int .i64 0]]) (by simp [results, Tryd.results31, go_sem, cQ3, cN3]) rfl ⟨rfl, by (repeat (first | (with_reducible exact Below.refl _ _) | (with_reducible assumption) | (with_reducible refine Near.up _ ?_) | (with_reducible refine Below.drew ?_) | (with_reducible refine below_alloc_on ?_ _) | (with_reducible refine below_set_on ?_ (by first | (simp; done) | (simp; omega) | omega) _)))⟩
  · clear HC
    rw [show wiN 3 = 0 from rfl] at HW
    rw [show tnF 3 f = foV f from rfl, show tnR 3 f r = r from rfl, show tnV 3 f v = v from rfl, show tnS 3 f s = s from rfl, show stA 3 a c = false from rfl, show wiK 3 (a && c) = 0 from rfl, show ∀ x, wiP 3 (a && c) x = 0 from fun _ => rfl, show ∀ x, wiP 3 (a && c) x = 0 from fun _ => rfl, show ∀ x, wiP 3 (a && c) x = 0 from fun _ => rfl]
    obtain ⟨P, hP⟩ : ∃ P, max f 0 = P := ⟨_, rfl⟩
    obtain ⟨M, hM⟩ : ∃ M, min P 2 = M := ⟨_, rfl⟩
    have hM0 : 0 ≤ M := by omega
    have hM1 : M ≤ 2 := by omega
    obtain ⟨X, hX⟩ : ∃ X, foV f = X := ⟨_, rfl⟩
    have hX2 : (M + 1) % 3 = X := by rw [← hX]; unfold foV; split <;> omega
    have hX3 : Int.tmod (M + 1) 3 = X := by rw [Int.tmod_eq_emod_of_nonneg (by omega)]; exact hX2
    rw [hX]
    clear hX
    go_enter Tryd.func31, Tryd.ntmps31
    go_wp2
    go_upto_region 16 with fail
    refine at_world (fun W => Below w.heap.size w W ∧ Box W (w.heap.size + 1) #[.int .i64 0, .int .i64 0, .int .i64 0, .int .i64 0, .bool false] ∧ Box W (w.heap.size + 1 + 1) #[.int .i64 0, .int .i64 0, .int .i64 0, .int .i64 0] ∧ Box W (w.heap.size + 1 + 1 + 1) #[.int .i64 (X), .int .i64 r, .int .i64 v, .int .i64 s, .bool (false)]) ⟨by (repeat (first | (with_reducible exact Below.refl _ _) | (with_reducible assumption) | (with_reducible refine Near.up _ ?_) | (with_reducible refine Below.drew ?_) | (with_reducible refine below_alloc_on ?_ _) | (with_reducible refine below_set_on ?_ (by first | (simp; done) | (simp; omega) | omega) _))), box_cast (by (repeat (first | (with_reducible assumption) | (with_reducible exact box_new _ _ _) | ((with_reducible apply box_at); (first | (with_reducible rfl) | (simp <;> omega))) | (with_reducible apply Box.drew) | (with_reducible apply Box.drewN) | (with_reducible apply Box.near) | (with_reducible apply Box.alloc) | ((with_reducible apply box_far); (first | assumption | omega | (simp <;> omega))) | ((with_reducible apply Box.one_set); (with_reducible assumption)) | ((with_reducible apply Box.two_set); (with_reducible assumption)) | ((with_reducible apply Box.three_set); (with_reducible assumption)) | (with_reducible apply Box.set) | (simp only [List.size_toArray, List.length_cons, List.length_nil, Array.size_setIfInBounds] <;> omega)))) (by first | rfl | simp), box_cast (by (repeat (first | (with_reducible assumption) | (with_reducible exact box_new _ _ _) | ((with_reducible apply box_at); (first | (with_reducible rfl) | (simp <;> omega))) | (with_reducible apply Box.drew) | (with_reducible apply Box.drewN) | (with_reducible apply Box.near) | (with_reducible apply Box.alloc) | ((with_reducible apply box_far); (first | assumption | omega | (simp <;> omega))) | ((with_reducible apply Box.one_set); (with_reducible assumption)) | ((with_reducible apply Box.two_set); (with_reducible assumption)) | ((with_reducible apply Box.three_set); (with_reducible assumption)) | (with_reducible apply Box.set) | (simp only [List.size_toArray, List.length_cons, List.length_nil, Array.size_setIfInBounds] <;> omega)))) (by first | rfl | simp), box_cast (by (repeat (first | (with_reducible assumption) | (with_reducible exact box_new _ _ _) | ((with_reducible apply box_at); (first | (with_reducible rfl) | (simp <;> omega))) | (with_reducible apply Box.drew) | (with_reducible apply Box.drewN) | (with_reducible apply Box.near) | (with_reducible apply Box.alloc) | ((with_reducible apply box_far); (first | assumption | omega | (simp <;> omega))) | ((with_reducible apply Box.one_set); (with_reducible assumption)) | ((with_reducible apply Box.two_set); (with_reducible assumption)) | ((with_reducible apply Box.three_set); (with_reducible assumption)) | (with_reducible apply Box.set) | (simp only [List.size_toArray, List.length_cons, List.length_nil, Array.size_setIfInBounds] <;> omega)))) (by first | rfl | simp)⟩ ?_
    rintro w3 ⟨A3, Q3, N3, O3⟩
    have B3 : Bx w (w.heap.size + 1 + 1 + 1) #[.int .i64 (X), .int .i64 r, .int .i64 v, .int .i64 s, .bool (false)] w3 := ⟨O3, A3, by omega⟩
    generalize ho : w.heap.size + 1 + 1 + 1 = o at *
    generalize hn : w.heap.size + 1 + 1 = n at *
    generalize hq : w.heap.size + 1 = q at *
    obtain ⟨lQ3, cQ3, fQ3⟩ := id Q3
    obtain ⟨lN3, cN3, fN3⟩ := id N3
    obtain ⟨lO3, cO3, fO3⟩ := id O3
    have nq : n ≠ q := by omega
    have oq : o ≠ q := by omega
    have on : o ≠ n := by omega
    clear A B3
    go_region_with (go_at_call 49; refine (HW.out _).mono ?_; rintro e w4 ⟨rfl, rfl⟩)
    all_goals go_wp2
    all_goals refine bodyPost_ret (v := .tuple #[.agg #[.int .i64 (X), .int .i64 r, .int .i64 v, .int .i64 s, .bool (false)], .agg #[.int .i64 (0), .int .i64 0, .int .i64 0, .int .i64 0]]) (by simp [results, Tryd.results31, go_sem, cQ3, cN3]) rfl ⟨rfl, by (repeat (first | (with_reducible exact Below.refl _ _) | (with_reducible assumption) | (with_reducible refine Near.up _ ?_) | (with_reducible refine Below.drew ?_) | (with_reducible refine below_alloc_on ?_ _) | (with_reducible refine below_set_on ?_ (by first | (simp; done) | (simp; omega) | omega) _)))⟩
  · rw [show wiN 4 = 0 from rfl] at HW
    rw [show tnF 4 f = f from rfl, show tnR 4 f r = r from rfl, show tnV 4 f v = v from rfl, show tnS 4 f s = s from rfl, show stA 4 a c = c from rfl, show wiK 4 (a && c) = 0 from rfl, show ∀ x, wiP 4 (a && c) x = 0 from fun _ => rfl, show ∀ x, wiP 4 (a && c) x = 0 from fun _ => rfl, show ∀ x, wiP 4 (a && c) x = 0 from fun _ => rfl]
    go_enter Tryd.func31, Tryd.ntmps31
    go_wp2_with (fail)
    refine (HC.out _).mono ?_
    rintro e w1 ⟨rfl, hb⟩
    replace A : Below w.heap.size w w1 := by (refine below_call ?_ hb; (repeat (first | (with_reducible exact Below.refl _ _) | (with_reducible assumption) | (with_reducible refine Near.up _ ?_) | (with_reducible refine Below.drew ?_) | (with_reducible refine below_alloc_on ?_ _) | (with_reducible refine below_set_on ?_ (by first | (simp; done) | (simp; omega) | omega) _))))
    replace P := Box.below (g := w.heap.size) (by (repeat (first | (with_reducible assumption) | (with_reducible exact box_new _ _ _) | ((with_reducible apply box_at); (first | (with_reducible rfl) | (simp <;> omega))) | (with_reducible apply Box.drew) | (with_reducible apply Box.drewN) | (with_reducible apply Box.near) | (with_reducible apply Box.alloc) | ((with_reducible apply box_far); (first | assumption | omega | (simp <;> omega))) | ((with_reducible apply Box.one_set); (with_reducible assumption)) | ((with_reducible apply Box.two_set); (with_reducible assumption)) | ((with_reducible apply Box.three_set); (with_reducible assumption)) | (with_reducible apply Box.set) | (simp only [List.size_toArray, List.length_cons, List.length_nil, Array.size_setIfInBounds] <;> omega)))) hb
    (try simp only [List.setIfInBounds_toArray, List.set_cons_zero, List.set_cons_succ] at P)
    (try clear cP fP)
    replace Q := Box.below (g := w.heap.size + 1) (by (repeat (first | (with_reducible assumption) | (with_reducible exact box_new _ _ _) | ((with_reducible apply box_at); (first | (with_reducible rfl) | (simp <;> omega))) | (with_reducible apply Box.drew) | (with_reducible apply Box.drewN) | (with_reducible apply Box.near) | (with_reducible apply Box.alloc) | ((with_reducible apply box_far); (first | assumption | omega | (simp <;> omega))) | ((with_reducible apply Box.one_set); (with_reducible assumption)) | ((with_reducible apply Box.two_set); (with_reducible assumption)) | ((with_reducible apply Box.three_set); (with_reducible assumption)) | (with_reducible apply Box.set) | (simp only [List.size_toArray, List.length_cons, List.length_nil, Array.size_setIfInBounds] <;> omega)))) hb
    (try simp only [List.setIfInBounds_toArray, List.set_cons_zero, List.set_cons_succ] at Q)
    (try clear cQ fQ)
    replace N := Box.below (g := w.heap.size + 1 + 1) (by (repeat (first | (with_reducible assumption) | (with_reducible exact box_new _ _ _) | ((with_reducible apply box_at); (first | (with_reducible rfl) | (simp <;> omega))) | (with_reducible apply Box.drew) | (with_reducible apply Box.drewN) | (with_reducible apply Box.near) | (with_reducible apply Box.alloc) | ((with_reducible apply box_far); (first | assumption | omega | (simp <;> omega))) | ((with_reducible apply Box.one_set); (with_reducible assumption)) | ((with_reducible apply Box.two_set); (with_reducible assumption)) | ((with_reducible apply Box.three_set); (with_reducible assumption)) | (with_reducible apply Box.set) | (simp only [List.size_toArray, List.length_cons, List.length_nil, Array.size_setIfInBounds] <;> omega)))) hb
    (try simp only [List.setIfInBounds_toArray, List.set_cons_zero, List.set_cons_succ] at N)
    (try clear cN fN)
    replace O := Box.below (g := w.heap.size + 1 + 1 + 1) (by (repeat (first | (with_reducible assumption) | (with_reducible exact box_new _ _ _) | ((with_reducible apply box_at); (first | (with_reducible rfl) | (simp <;> omega))) | (with_reducible apply Box.drew) | (with_reducible apply Box.drewN) | (with_reducible apply Box.near) | (with_reducible apply Box.alloc) | ((with_reducible apply box_far); (first | assumption | omega | (simp <;> omega))) | ((with_reducible apply Box.one_set); (with_reducible assumption)) | ((with_reducible apply Box.two_set); (with_reducible assumption)) | ((with_reducible apply Box.three_set); (with_reducible assumption)) | (with_reducible apply Box.set) | (simp only [List.size_toArray, List.length_cons, List.length_nil, Array.size_setIfInBounds] <;> omega)))) hb
    (try simp only [List.setIfInBounds_toArray, List.set_cons_zero, List.set_cons_succ] at O)
    (try clear cO fO)
    clear hb
    have z_w1 : w.heap.size ≤ w1.heap.size := A.size
    obtain ⟨lP_w1, cP, fP⟩ := id P
    obtain ⟨lQ_w1, cQ, fQ⟩ := id Q
    obtain ⟨lN_w1, cN, fN⟩ := id N
    obtain ⟨lO_w1, cO, fO⟩ := id O
    go_wp2
    go_upto_region 16 with fail
    refine at_world (fun W => Below w.heap.size w W ∧ Box W (w.heap.size + 1) #[.int .i64 0, .int .i64 0, .int .i64 0, .int .i64 0, .bool false] ∧ Box W (w.heap.size + 1 + 1) #[.int .i64 0, .int .i64 0, .int .i64 0, .int .i64 0] ∧ Box W (w.heap.size + 1 + 1 + 1) #[.int .i64 (f), .int .i64 r, .int .i64 v, .int .i64 s, .bool (c)]) ⟨by (repeat (first | (with_reducible exact Below.refl _ _) | (with_reducible assumption) | (with_reducible refine Near.up _ ?_) | (with_reducible refine Below.drew ?_) | (with_reducible refine below_alloc_on ?_ _) | (with_reducible refine below_set_on ?_ (by first | (simp; done) | (simp; omega) | omega) _))), box_cast (by (repeat (first | (with_reducible assumption) | (with_reducible exact box_new _ _ _) | ((with_reducible apply box_at); (first | (with_reducible rfl) | (simp <;> omega))) | (with_reducible apply Box.drew) | (with_reducible apply Box.drewN) | (with_reducible apply Box.near) | (with_reducible apply Box.alloc) | ((with_reducible apply box_far); (first | assumption | omega | (simp <;> omega))) | ((with_reducible apply Box.one_set); (with_reducible assumption)) | ((with_reducible apply Box.two_set); (with_reducible assumption)) | ((with_reducible apply Box.three_set); (with_reducible assumption)) | (with_reducible apply Box.set) | (simp only [List.size_toArray, List.length_cons, List.length_nil, Array.size_setIfInBounds] <;> omega)))) (by first | rfl | simp), box_cast (by (repeat (first | (with_reducible assumption) | (with_reducible exact box_new _ _ _) | ((with_reducible apply box_at); (first | (with_reducible rfl) | (simp <;> omega))) | (with_reducible apply Box.drew) | (with_reducible apply Box.drewN) | (with_reducible apply Box.near) | (with_reducible apply Box.alloc) | ((with_reducible apply box_far); (first | assumption | omega | (simp <;> omega))) | ((with_reducible apply Box.one_set); (with_reducible assumption)) | ((with_reducible apply Box.two_set); (with_reducible assumption)) | ((with_reducible apply Box.three_set); (with_reducible assumption)) | (with_reducible apply Box.set) | (simp only [List.size_toArray, List.length_cons, List.length_nil, Array.size_setIfInBounds] <;> omega)))) (by first | rfl | simp), box_cast (by (repeat (first | (with_reducible assumption) | (with_reducible exact box_new _ _ _) | ((with_reducible apply box_at); (first | (with_reducible rfl) | (simp <;> omega))) | (with_reducible apply Box.drew) | (with_reducible apply Box.drewN) | (with_reducible apply Box.near) | (with_reducible apply Box.alloc) | ((with_reducible apply box_far); (first | assumption | omega | (simp <;> omega))) | ((with_reducible apply Box.one_set); (with_reducible assumption)) | ((with_reducible apply Box.two_set); (with_reducible assumption)) | ((with_reducible apply Box.three_set); (with_reducible assumption)) | (with_reducible apply Box.set) | (simp only [List.size_toArray, List.length_cons, List.length_nil, Array.size_setIfInBounds] <;> omega)))) (by first | rfl | simp)⟩ ?_
    rintro w3 ⟨A3, Q3, N3, O3⟩
    have B3 : Bx w (w.heap.size + 1 + 1 + 1) #[.int .i64 (f), .int .i64 r, .int .i64 v, .int .i64 s, .bool (c)] w3 := ⟨O3, A3, by omega⟩
    generalize ho : w.heap.size + 1 + 1 + 1 = o at *
    generalize hn : w.heap.size + 1 + 1 = n at *
    generalize hq : w.heap.size + 1 = q at *
    obtain ⟨lQ3, cQ3, fQ3⟩ := id Q3
    obtain ⟨lN3, cN3, fN3⟩ := id N3
    obtain ⟨lO3, cO3, fO3⟩ := id O3
    have nq : n ≠ q := by omega
    have oq : o ≠ q := by omega
    have on : o ≠ n := by omega
    clear A B3
    go_region_with (go_at_call 49; refine (HW.out _).mono ?_; rintro e w4 ⟨rfl, rfl⟩)
    all_goals go_wp2
    all_goals refine bodyPost_ret (v := .tuple #[.agg #[.int .i64 (f), .int .i64 r, .int .i64 v, .int .i64 s, .bool (c)], .agg #[.int .i64 (0), .int .i64 0, .int .i64 0, .int .i64 0]]) (by simp [results, Tryd.results31, go_sem, cQ3, cN3]) rfl ⟨rfl, by (repeat (first | (with_reducible exact Below.refl _ _) | (with_reducible assumption) | (with_reducible refine Near.up _ ?_) | (with_reducible refine Below.drew ?_) | (with_reducible refine below_alloc_on ?_ _) | (with_reducible refine below_set_on ?_ (by first | (simp; done) | (simp; omega) | omega) _)))⟩
  · rw [show wiN 5 = 0 from rfl] at HW
    rw [show tnF 5 f = f from rfl, show tnR 5 f r = r from rfl, show tnV 5 f v = v from rfl, show tnS 5 f s = s from rfl, show stA 5 a c = false from rfl]
    cases a
    · rw [show wiK 5 (false && c) = 0 from rfl, show ∀ x, wiP 5 (false && c) x = 0 from fun _ => rfl, show ∀ x, wiP 5 (false && c) x = 0 from fun _ => rfl, show ∀ x, wiP 5 (false && c) x = 0 from fun _ => rfl]
      go_enter Tryd.func31, Tryd.ntmps31
      go_wp2
      go_upto_region 16 with fail
      refine at_world (fun W => Below w.heap.size w W ∧ Box W (w.heap.size + 1) #[.int .i64 0, .int .i64 0, .int .i64 0, .int .i64 0, .bool false] ∧ Box W (w.heap.size + 1 + 1) #[.int .i64 0, .int .i64 0, .int .i64 0, .int .i64 0] ∧ Box W (w.heap.size + 1 + 1 + 1) #[.int .i64 (f), .int .i64 r, .int .i64 v, .int .i64 s, .bool (false)]) ⟨by (repeat (first | (with_reducible exact Below.refl _ _) | (with_reducible assumption) | (with_reducible refine Near.up _ ?_) | (with_reducible refine Below.drew ?_) | (with_reducible refine below_alloc_on ?_ _) | (with_reducible refine below_set_on ?_ (by first | (simp; done) | (simp; omega) | omega) _))), box_cast (by (repeat (first | (with_reducible assumption) | (with_reducible exact box_new _ _ _) | ((with_reducible apply box_at); (first | (with_reducible rfl) | (simp <;> omega))) | (with_reducible apply Box.drew) | (with_reducible apply Box.drewN) | (with_reducible apply Box.near) | (with_reducible apply Box.alloc) | ((with_reducible apply box_far); (first | assumption | omega | (simp <;> omega))) | ((with_reducible apply Box.one_set); (with_reducible assumption)) | ((with_reducible apply Box.two_set); (with_reducible assumption)) | ((with_reducible apply Box.three_set); (with_reducible assumption)) | (with_reducible apply Box.set) | (simp only [List.size_toArray, List.length_cons, List.length_nil, Array.size_setIfInBounds] <;> omega)))) (by first | rfl | simp), box_cast (by (repeat (first | (with_reducible assumption) | (with_reducible exact box_new _ _ _) | ((with_reducible apply box_at); (first | (with_reducible rfl) | (simp <;> omega))) | (with_reducible apply Box.drew) | (with_reducible apply Box.drewN) | (with_reducible apply Box.near) | (with_reducible apply Box.alloc) | ((with_reducible apply box_far); (first | assumption | omega | (simp <;> omega))) | ((with_reducible apply Box.one_set); (with_reducible assumption)) | ((with_reducible apply Box.two_set); (with_reducible assumption)) | ((with_reducible apply Box.three_set); (with_reducible assumption)) | (with_reducible apply Box.set) | (simp only [List.size_toArray, List.length_cons, List.length_nil, Array.size_setIfInBounds] <;> omega)))) (by first | rfl | simp), box_cast (by (repeat (first | (with_reducible assumption) | (with_reducible exact box_new _ _ _) | ((with_reducible apply box_at); (first | (with_reducible rfl) | (simp <;> omega))) | (with_reducible apply Box.drew) | (with_reducible apply Box.drewN) | (with_reducible apply Box.near) | (with_reducible apply Box.alloc) | ((with_reducible apply box_far); (first | assumption | omega | (simp <;> omega))) | ((with_reducible apply Box.one_set); (with_reducible assumption)) | ((with_reducible apply Box.two_set); (with_reducible assumption)) | ((with_reducible apply Box.three_set); (with_reducible assumption)) | (with_reducible apply Box.set) | (simp only [List.size_toArray, List.length_cons, List.length_nil, Array.size_setIfInBounds] <;> omega)))) (by first | rfl | simp)⟩ ?_
      rintro w3 ⟨A3, Q3, N3, O3⟩
      have B3 : Bx w (w.heap.size + 1 + 1 + 1) #[.int .i64 (f), .int .i64 r, .int .i64 v, .int .i64 s, .bool (false)] w3 := ⟨O3, A3, by omega⟩
      generalize ho : w.heap.size + 1 + 1 + 1 = o at *
      generalize hn : w.heap.size + 1 + 1 = n at *
      generalize hq : w.heap.size + 1 = q at *
      obtain ⟨lQ3, cQ3, fQ3⟩ := id Q3
      obtain ⟨lN3, cN3, fN3⟩ := id N3
      obtain ⟨lO3, cO3, fO3⟩ := id O3
      have nq : n ≠ q := by omega
      have oq : o ≠ q := by omega
      have on : o ≠ n := by omega
      clear A B3
      go_region_with (go_at_call 49; refine (HW.out _).mono ?_; rintro e w4 ⟨rfl, rfl⟩)
      all_goals go_wp2
      all_goals refine bodyPost_ret (v := .tuple #[.agg #[.int .i64 (f), .int .i64 r, .int .i64 v, .int .i64 s, .bool (false)], .agg #[.int .i64 (0), .int .i64 0, .int .i64 0, .int .i64 0]]) (by simp [results, Tryd.results31, go_sem, cQ3, cN3]) rfl ⟨rfl, by (repeat (first | (with_reducible exact Below.refl _ _) | (with_reducible assumption) | (with_reducible refine Near.up _ ?_) | (with_reducible refine Below.drew ?_) | (with_reducible refine below_alloc_on ?_ _) | (with_reducible refine below_set_on ?_ (by first | (simp; done) | (simp; omega) | omega) _)))⟩
    · cases c
      · rw [show wiK 5 (true && false) = 0 from rfl, show ∀ x, wiP 5 (true && false) x = 0 from fun _ => rfl, show ∀ x, wiP 5 (true && false) x = 0 from fun _ => rfl, show ∀ x, wiP 5 (true && false) x = 0 from fun _ => rfl]
        go_enter Tryd.func31, Tryd.ntmps31
        go_wp2_with (fail)
        refine (HC.out _).mono ?_
        rintro e w1 ⟨rfl, hb⟩
        replace A : Below w.heap.size w w1 := by (refine below_call ?_ hb; (repeat (first | (with_reducible exact Below.refl _ _) | (with_reducible assumption) | (with_reducible refine Near.up _ ?_) | (with_reducible refine Below.drew ?_) | (with_reducible refine below_alloc_on ?_ _) | (with_reducible refine below_set_on ?_ (by first | (simp; done) | (simp; omega) | omega) _))))
        replace P := Box.below (g := w.heap.size) (by (repeat (first | (with_reducible assumption) | (with_reducible exact box_new _ _ _) | ((with_reducible apply box_at); (first | (with_reducible rfl) | (simp <;> omega))) | (with_reducible apply Box.drew) | (with_reducible apply Box.drewN) | (with_reducible apply Box.near) | (with_reducible apply Box.alloc) | ((with_reducible apply box_far); (first | assumption | omega | (simp <;> omega))) | ((with_reducible apply Box.one_set); (with_reducible assumption)) | ((with_reducible apply Box.two_set); (with_reducible assumption)) | ((with_reducible apply Box.three_set); (with_reducible assumption)) | (with_reducible apply Box.set) | (simp only [List.size_toArray, List.length_cons, List.length_nil, Array.size_setIfInBounds] <;> omega)))) hb
        (try simp only [List.setIfInBounds_toArray, List.set_cons_zero, List.set_cons_succ] at P)
        (try clear cP fP)
        replace Q := Box.below (g := w.heap.size + 1) (by (repeat (first | (with_reducible assumption) | (with_reducible exact box_new _ _ _) | ((with_reducible apply box_at); (first | (with_reducible rfl) | (simp <;> omega))) | (with_reducible apply Box.drew) | (with_reducible apply Box.drewN) | (with_reducible apply Box.near) | (with_reducible apply Box.alloc) | ((with_reducible apply box_far); (first | assumption | omega | (simp <;> omega))) | ((with_reducible apply Box.one_set); (with_reducible assumption)) | ((with_reducible apply Box.two_set); (with_reducible assumption)) | ((with_reducible apply Box.three_set); (with_reducible assumption)) | (with_reducible apply Box.set) | (simp only [List.size_toArray, List.length_cons, List.length_nil, Array.size_setIfInBounds] <;> omega)))) hb
        (try simp only [List.setIfInBounds_toArray, List.set_cons_zero, List.set_cons_succ] at Q)
        (try clear cQ fQ)
        replace N := Box.below (g := w.heap.size + 1 + 1) (by (repeat (first | (with_reducible assumption) | (with_reducible exact box_new _ _ _) | ((with_reducible apply box_at); (first | (with_reducible rfl) | (simp <;> omega))) | (with_reducible apply Box.drew) | (with_reducible apply Box.drewN) | (with_reducible apply Box.near) | (with_reducible apply Box.alloc) | ((with_reducible apply box_far); (first | assumption | omega | (simp <;> omega))) | ((with_reducible apply Box.one_set); (with_reducible assumption)) | ((with_reducible apply Box.two_set); (with_reducible assumption)) | ((with_reducible apply Box.three_set); (with_reducible assumption)) | (with_reducible apply Box.set) | (simp only [List.size_toArray, List.length_cons, List.length_nil, Array.size_setIfInBounds] <;> omega)))) hb
        (try simp only [List.setIfInBounds_toArray, List.set_cons_zero, List.set_cons_succ] at N)
        (try clear cN fN)
        replace O := Box.below (g := w.heap.size + 1 + 1 + 1) (by (repeat (first | (with_reducible assumption) | (with_reducible exact box_new _ _ _) | ((with_reducible apply box_at); (first | (with_reducible rfl) | (simp <;> omega))) | (with_reducible apply Box.drew) | (with_reducible apply Box.drewN) | (with_reducible apply Box.near) | (with_reducible apply Box.alloc) | ((with_reducible apply box_far); (first | assumption | omega | (simp <;> omega))) | ((with_reducible apply Box.one_set); (with_reducible assumption)) | ((with_reducible apply Box.two_set); (with_reducible assumption)) | ((with_reducible apply Box.three_set); (with_reducible assumption)) | (with_reducible apply Box.set) | (simp only [List.size_toArray, List.length_cons, List.length_nil, Array.size_setIfInBounds] <;> omega)))) hb
        (try simp only [List.setIfInBounds_toArray, List.set_cons_zero, List.set_cons_succ] at O)
        (try clear cO fO)
        clear hb
        have z_w1 : w.heap.size ≤ w1.heap.size := A.size
        obtain ⟨lP_w1, cP, fP⟩ := id P
        obtain ⟨lQ_w1, cQ, fQ⟩ := id Q
        obtain ⟨lN_w1, cN, fN⟩ := id N
        obtain ⟨lO_w1, cO, fO⟩ := id O
        go_wp2
        go_upto_region 16 with fail
        refine at_world (fun W => Below w.heap.size w W ∧ Box W (w.heap.size + 1) #[.int .i64 0, .int .i64 0, .int .i64 0, .int .i64 0, .bool false] ∧ Box W (w.heap.size + 1 + 1) #[.int .i64 0, .int .i64 0, .int .i64 0, .int .i64 0] ∧ Box W (w.heap.size + 1 + 1 + 1) #[.int .i64 (f), .int .i64 r, .int .i64 v, .int .i64 s, .bool (false)]) ⟨by (repeat (first | (with_reducible exact Below.refl _ _) | (with_reducible assumption) | (with_reducible refine Near.up _ ?_) | (with_reducible refine Below.drew ?_) | (with_reducible refine below_alloc_on ?_ _) | (with_reducible refine below_set_on ?_ (by first | (simp; done) | (simp; omega) | omega) _))), box_cast (by (repeat (first | (with_reducible assumption) | (with_reducible exact box_new _ _ _) | ((with_reducible apply box_at); (first | (with_reducible rfl) | (simp <;> omega))) | (with_reducible apply Box.drew) | (with_reducible apply Box.drewN) | (with_reducible apply Box.near) | (with_reducible apply Box.alloc) | ((with_reducible apply box_far); (first | assumption | omega | (simp <;> omega))) | ((with_reducible apply Box.one_set); (with_reducible assumption)) | ((with_reducible apply Box.two_set); (with_reducible assumption)) | ((with_reducible apply Box.three_set); (with_reducible assumption)) | (with_reducible apply Box.set) | (simp only [List.size_toArray, List.length_cons, List.length_nil, Array.size_setIfInBounds] <;> omega)))) (by first | rfl | simp), box_cast (by (repeat (first | (with_reducible assumption) | (with_reducible exact box_new _ _ _) | ((with_reducible apply box_at); (first | (with_reducible rfl) | (simp <;> omega))) | (with_reducible apply Box.drew) | (with_reducible apply Box.drewN) | (with_reducible apply Box.near) | (with_reducible apply Box.alloc) | ((with_reducible apply box_far); (first | assumption | omega | (simp <;> omega))) | ((with_reducible apply Box.one_set); (with_reducible assumption)) | ((with_reducible apply Box.two_set); (with_reducible assumption)) | ((with_reducible apply Box.three_set); (with_reducible assumption)) | (with_reducible apply Box.set) | (simp only [List.size_toArray, List.length_cons, List.length_nil, Array.size_setIfInBounds] <;> omega)))) (by first | rfl | simp), box_cast (by (repeat (first | (with_reducible assumption) | (with_reducible exact box_new _ _ _) | ((with_reducible apply box_at); (first | (with_reducible rfl) | (simp <;> omega))) | (with_reducible apply Box.drew) | (with_reducible apply Box.drewN) | (with_reducible apply Box.near) | (with_reducible apply Box.alloc) | ((with_reducible apply box_far); (first | assumption | omega | (simp <;> omega))) | ((with_reducible apply Box.one_set); (with_reducible assumption)) | ((with_reducible apply Box.two_set); (with_reducible assumption)) | ((with_reducible apply Box.three_set); (with_reducible assumption)) | (with_reducible apply Box.set) | (simp only [List.size_toArray, List.length_cons, List.length_nil, Array.size_setIfInBounds] <;> omega)))) (by first | rfl | simp)⟩ ?_
        rintro w3 ⟨A3, Q3, N3, O3⟩
        have B3 : Bx w (w.heap.size + 1 + 1 + 1) #[.int .i64 (f), .int .i64 r, .int .i64 v, .int .i64 s, .bool (false)] w3 := ⟨O3, A3, by omega⟩
        generalize ho : w.heap.size + 1 + 1 + 1 = o at *
        generalize hn : w.heap.size + 1 + 1 = n at *
        generalize hq : w.heap.size + 1 = q at *
        obtain ⟨lQ3, cQ3, fQ3⟩ := id Q3
        obtain ⟨lN3, cN3, fN3⟩ := id N3
        obtain ⟨lO3, cO3, fO3⟩ := id O3
        have nq : n ≠ q := by omega
        have oq : o ≠ q := by omega
        have on : o ≠ n := by omega
        clear A B3
        go_region_with (go_at_call 49; refine (HW.out _).mono ?_; rintro e w4 ⟨rfl, rfl⟩)
        all_goals go_wp2
        all_goals refine bodyPost_ret (v := .tuple #[.agg #[.int .i64 (f), .int .i64 r, .int .i64 v, .int .i64 s, .bool (false)], .agg #[.int .i64 (0), .int .i64 0, .int .i64 0, .int .i64 0]]) (by simp [results, Tryd.results31, go_sem, cQ3, cN3]) rfl ⟨rfl, by (repeat (first | (with_reducible exact Below.refl _ _) | (with_reducible assumption) | (with_reducible refine Near.up _ ?_) | (with_reducible refine Below.drew ?_) | (with_reducible refine below_alloc_on ?_ _) | (with_reducible refine below_set_on ?_ (by first | (simp; done) | (simp; omega) | omega) _)))⟩
      · rw [show wiK 5 (true && true) = 1 from rfl, show ∀ x, wiP 5 (true && true) x = x from fun _ => rfl, show ∀ x, wiP 5 (true && true) x = x from fun _ => rfl, show ∀ x, wiP 5 (true && true) x = x from fun _ => rfl]
        go_enter Tryd.func31, Tryd.ntmps31
        go_wp2_with (fail)
        refine (HC.out _).mono ?_
        rintro e w1 ⟨rfl, hb⟩
        replace A : Below w.heap.size w w1 := by (refine below_call ?_ hb; (repeat (first | (with_reducible exact Below.refl _ _) | (with_reducible assumption) | (with_reducible refine Near.up _ ?_) | (with_reducible refine Below.drew ?_) | (with_reducible refine below_alloc_on ?_ _) | (with_reducible refine below_set_on ?_ (by first | (simp; done) | (simp; omega) | omega) _))))
        replace P := Box.below (g := w.heap.size) (by (repeat (first | (with_reducible assumption) | (with_reducible exact box_new _ _ _) | ((with_reducible apply box_at); (first | (with_reducible rfl) | (simp <;> omega))) | (with_reducible apply Box.drew) | (with_reducible apply Box.drewN) | (with_reducible apply Box.near) | (with_reducible apply Box.alloc) | ((with_reducible apply box_far); (first | assumption | omega | (simp <;> omega))) | ((with_reducible apply Box.one_set); (with_reducible assumption)) | ((with_reducible apply Box.two_set); (with_reducible assumption)) | ((with_reducible apply Box.three_set); (with_reducible assumption)) | (with_reducible apply Box.set) | (simp only [List.size_toArray, List.length_cons, List.length_nil, Array.size_setIfInBounds] <;> omega)))) hb
        (try simp only [List.setIfInBounds_toArray, List.set_cons_zero, List.set_cons_succ] at P)
        (try clear cP fP)
        replace Q := Box.below (g := w.heap.size + 1) (by (repeat (first | (with_reducible assumption) | (with_reducible exact box_new _ _ _) | ((with_reducible apply box_at); (first | (with_reducible rfl) | (simp <;> omega))) | (with_reducible apply Box.drew) | (with_reducible apply Box.drewN) | (with_reducible apply Box.near) | (with_reducible apply Box.alloc) | ((with_reducible apply box_far); (first | assumption | omega | (simp <;> omega))) | ((with_reducible apply Box.one_set); (with_reducible assumption)) | ((with_reducible apply Box.two_set); (with_reducible assumption)) | ((with_reducible apply Box.three_set); (with_reducible assumption)) | (with_reducible apply Box.set) | (simp only [List.size_toArray, List.length_cons, List.length_nil, Array.size_setIfInBounds] <;> omega)))) hb
        (try simp only [List.setIfInBounds_toArray, List.set_cons_zero, List.set_cons_succ] at Q)
        (try clear cQ fQ)
        replace N := Box.below (g := w.heap.size + 1 + 1) (by (repeat (first | (with_reducible assumption) | (with_reducible exact box_new _ _ _) | ((with_reducible apply box_at); (first | (with_reducible rfl) | (simp <;> omega))) | (with_reducible apply Box.drew) | (with_reducible apply Box.drewN) | (with_reducible apply Box.near) | (with_reducible apply Box.alloc) | ((with_reducible apply box_far); (first | assumption | omega | (simp <;> omega))) | ((with_reducible apply Box.one_set); (with_reducible assumption)) | ((with_reducible apply Box.two_set); (with_reducible assumption)) | ((with_reducible apply Box.three_set); (with_reducible assumption)) | (with_reducible apply Box.set) | (simp only [List.size_toArray, List.length_cons, List.length_nil, Array.size_setIfInBounds] <;> omega)))) hb
        (try simp only [List.setIfInBounds_toArray, List.set_cons_zero, List.set_cons_succ] at N)
        (try clear cN fN)
        replace O := Box.below (g := w.heap.size + 1 + 1 + 1) (by (repeat (first | (with_reducible assumption) | (with_reducible exact box_new _ _ _) | ((with_reducible apply box_at); (first | (with_reducible rfl) | (simp <;> omega))) | (with_reducible apply Box.drew) | (with_reducible apply Box.drewN) | (with_reducible apply Box.near) | (with_reducible apply Box.alloc) | ((with_reducible apply box_far); (first | assumption | omega | (simp <;> omega))) | ((with_reducible apply Box.one_set); (with_reducible assumption)) | ((with_reducible apply Box.two_set); (with_reducible assumption)) | ((with_reducible apply Box.three_set); (with_reducible assumption)) | (with_reducible apply Box.set) | (simp only [List.size_toArray, List.length_cons, List.length_nil, Array.size_setIfInBounds] <;> omega)))) hb
        (try simp only [List.setIfInBounds_toArray, List.set_cons_zero, List.set_cons_succ] at O)
        (try clear cO fO)
        clear hb
        have z_w1 : w.heap.size ≤ w1.heap.size := A.size
        obtain ⟨lP_w1, cP, fP⟩ := id P
        obtain ⟨lQ_w1, cQ, fQ⟩ := id Q
        obtain ⟨lN_w1, cN, fN⟩ := id N
        obtain ⟨lO_w1, cO, fO⟩ := id O
        go_wp2
        go_region
        all_goals go_wp2
        all_goals refine bodyPost_ret (v := .tuple #[.agg #[.int .i64 f, .int .i64 r, .int .i64 v, .int .i64 s, .bool false], .agg #[.int .i64 1, .int .i64 r, .int .i64 v, .int .i64 s]]) (by simp [results, Tryd.results31, go_sem, cQ, cN]) rfl ⟨rfl, by (repeat (first | (with_reducible exact Below.refl _ _) | (with_reducible assumption) | (with_reducible refine Near.up _ ?_) | (with_reducible refine Below.drew ?_) | (with_reducible refine below_alloc_on ?_ _) | (with_reducible refine below_set_on ?_ (by first | (simp; done) | (simp; omega) | omega) _)))⟩
  · rw [show tnF k f = f from if_neg h3, show tnR k f r = r by unfold tnR; rw [if_neg h1, if_neg h2], show tnV k f v = v by unfold tnV; rw [if_neg h1, if_neg h2], show tnS k f s = s by unfold tnS; rw [if_neg h1, if_neg h2], show stA k a c = false by unfold stA; rw [if_neg h0]; simp [h4], show wiK k (a && c) = wiN k by unfold wiK wiN; rw [if_neg h5], show ∀ x, wiP k (a && c) x = 0 from fun x => if_neg (fun h => h5 h.1), show ∀ x, wiP k (a && c) x = 0 from fun x => if_neg (fun h => h5 h.1), show ∀ x, wiP k (a && c) x = 0 from fun x => if_neg (fun h => h5 h.1)]
    generalize wiN k = X at *
    have u0 : (k == 0) = false := by simpa using h0
    have u1 : (k == 1) = false := by simpa using h1
    have u2 : (k == 2) = false := by simpa using h2
    have u3 : (k == 3) = false := by simpa using h3
    have u4 : (k == 4) = false := by simpa using h4
    have u5 : (k == 5) = false := by simpa using h5
    clear h0 h1 h2 h3 h4 h5 HC
    go_enter Tryd.func31, Tryd.ntmps31
    go_wp2
    go_upto_region 16 with fail
    refine at_world (fun W => Below w.heap.size w W ∧ Box W (w.heap.size + 1) #[.int .i64 0, .int .i64 0, .int .i64 0, .int .i64 0, .bool false] ∧ Box W (w.heap.size + 1 + 1) #[.int .i64 0, .int .i64 0, .int .i64 0, .int .i64 0] ∧ Box W (w.heap.size + 1 + 1 + 1) #[.int .i64 (f), .int .i64 r, .int .i64 v, .int .i64 s, .bool (false)]) ⟨by (repeat (first | (with_reducible exact Below.refl _ _) | (with_reducible assumption) | (with_reducible refine Near.up _ ?_) | (with_reducible refine Below.drew ?_) | (with_reducible refine below_alloc_on ?_ _) | (with_reducible refine below_set_on ?_ (by first | (simp; done) | (simp; omega) | omega) _))), box_cast (by (repeat (first | (with_reducible assumption) | (with_reducible exact box_new _ _ _) | ((with_reducible apply box_at); (first | (with_reducible rfl) | (simp <;> omega))) | (with_reducible apply Box.drew) | (with_reducible apply Box.drewN) | (with_reducible apply Box.near) | (with_reducible apply Box.alloc) | ((with_reducible apply box_far); (first | assumption | omega | (simp <;> omega))) | ((with_reducible apply Box.one_set); (with_reducible assumption)) | ((with_reducible apply Box.two_set); (with_reducible assumption)) | ((with_reducible apply Box.three_set); (with_reducible assumption)) | (with_reducible apply Box.set) | (simp only [List.size_toArray, List.length_cons, List.length_nil, Array.size_setIfInBounds] <;> omega)))) (by first | rfl | simp), box_cast (by (repeat (first | (with_reducible assumption) | (with_reducible exact box_new _ _ _) | ((with_reducible apply box_at); (first | (with_reducible rfl) | (simp <;> omega))) | (with_reducible apply Box.drew) | (with_reducible apply Box.drewN) | (with_reducible apply Box.near) | (with_reducible apply Box.alloc) | ((with_reducible apply box_far); (first | assumption | omega | (simp <;> omega))) | ((with_reducible apply Box.one_set); (with_reducible assumption)) | ((with_reducible apply Box.two_set); (with_reducible assumption)) | ((with_reducible apply Box.three_set); (with_reducible assumption)) | (with_reducible apply Box.set) | (simp only [List.size_toArray, List.length_cons, List.length_nil, Array.size_setIfInBounds] <;> omega)))) (by first | rfl | simp), box_cast (by (repeat (first | (with_reducible assumption) | (with_reducible exact box_new _ _ _) | ((with_reducible apply box_at); (first | (with_reducible rfl) | (simp <;> omega))) | (with_reducible apply Box.drew) | (with_reducible apply Box.drewN) | (with_reducible apply Box.near) | (with_reducible apply Box.alloc) | ((with_reducible apply box_far); (first | assumption | omega | (simp <;> omega))) | ((with_reducible apply Box.one_set); (with_reducible assumption)) | ((with_reducible apply Box.two_set); (with_reducible assumption)) | ((with_reducible apply Box.three_set); (with_reducible assumption)) | (with_reducible apply Box.set) | (simp only [List.size_toArray, List.length_cons, List.length_nil, Array.size_setIfInBounds] <;> omega)))) (by first | rfl | simp)⟩ ?_
    rintro w3 ⟨A3, Q3, N3, O3⟩
    have B3 : Bx w (w.heap.size + 1 + 1 + 1) #[.int .i64 (f), .int .i64 r, .int .i64 v, .int .i64 s, .bool (false)] w3 := ⟨O3, A3, by omega⟩
    generalize ho : w.heap.size + 1 + 1 + 1 = o at *
    generalize hn : w.heap.size + 1 + 1 = n at *
    generalize hq : w.heap.size + 1 = q at *
    obtain ⟨lQ3, cQ3, fQ3⟩ := id Q3
    obtain ⟨lN3, cN3, fN3⟩ := id N3
    obtain ⟨lO3, cO3, fO3⟩ := id O3
    have nq : n ≠ q := by omega
    have oq : o ≠ q := by omega
    have on : o ≠ n := by omega
    clear A B3
    go_region_with (go_at_call 49; refine (HW.out _).mono ?_; rintro e w4 ⟨rfl, rfl⟩)
    all_goals go_wp2
    all_goals refine bodyPost_ret (v := .tuple #[.agg #[.int .i64 (f), .int .i64 r, .int .i64 v, .int .i64 s, .bool (false)], .agg #[.int .i64 (X), .int .i64 0, .int .i64 0, .int .i64 0]]) (by simp [results, Tryd.results31, go_sem, cQ3, cN3]) rfl ⟨rfl, by (repeat (first | (with_reducible exact Below.refl _ _) | (with_reducible assumption) | (with_reducible refine Near.up _ ?_) | (with_reducible refine Below.drew ?_) | (with_reducible refine below_alloc_on ?_ _) | (with_reducible refine below_set_on ?_ (by first | (simp; done) | (simp; omega) | omega) _)))⟩
end Go.Proofs.YthghangoagponaaDoor
