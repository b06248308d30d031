/- KeypadTurns holds of every programme, every field, and either way: what is turned up, and down again, is as it was, but at the ends; whatever is turned, a rate and a volume that may be stay so. No condition. -/
import Derived.Test.YthghangoagponaaDoorLaid
import Derived.Test.YthghangoagponaaDoorCards
import Derived.Test.YthghangoagponaaDoorTie
import Derived.Test.YthghangoagponaaDoorLaw42
import Derived.Test.YthghangoagponaaDoorLeaf
import Derived.Deep.CutBlock
namespace Go.Proofs.YthghangoagponaaDoor.keypadTurns
open Go.ChangeShapes Go.WideShapes Go.ChangeAt Go.RowKit
set_option linter.unusedVariables false
set_option linter.unusedSimpArgs false
attribute [local go_sem] cell_set_ite Near.cell Near.frozen

theorem sets {W : World} (h : laidMetH Tryd.prog Rows.keypadTurnsRow.laid W) : TabAt W 2 .i64 kySets :=
  tab_of (by kernel_rfl) (by kernel_rfl) Tryd.underlying75 Tryd.underlying3 (by kernel_rfl) (by kernel_rfl) (by decide) h
/-- Turned, and turned back. -/
theorem turns {f r v s b : Int} (hf : f = 0 ∨ f = 1 ∨ f = 2) (hb : b = 1 ∨ b = -1) (r0 : 5 ≤ r) (r1 : r ≤ 1000) (v0 : 1 ≤ v) (v1 : v ≤ 5000) (hs : Kn s) :
    ∃ R V S, edR f r b = R ∧ edV f v b = V ∧ edS f s b = S ∧ 5 ≤ R ∧ R ≤ 1000 ∧ 1 ≤ V ∧ V ≤ 5000 ∧ Kn S ∧
      ((R - r = 5 ∨ r - R = 5 ∨ V - v = 10 ∨ v - V = 10 ∨ S ≠ s) → edR f R (-b) = r ∧ edV f V (-b) = v ∧ edS f S (-b) = s) := by
  refine ⟨_, _, _, rfl, rfl, rfl, ?_⟩
  rcases hf with rfl | rfl | rfl
  · unfold edR edV edS mvV
    simp only [if_true, reduceIte, Int.reduceEq]
    rcases hb with rfl | rfl
    · refine ⟨by omega, by omega, v0, v1, hs, fun h => ⟨by omega, by trivial, by trivial⟩⟩
    · refine ⟨by omega, by omega, v0, v1, hs, fun h => ⟨by omega, by trivial, by trivial⟩⟩
  · unfold edR edV edS mvV
    simp only [if_true, reduceIte, Int.reduceEq]
    rcases hb with rfl | rfl
    · refine ⟨by omega, by omega, by omega, by omega, hs, fun h => ⟨by trivial, by omega, by trivial⟩⟩
    · refine ⟨by omega, by omega, by omega, by omega, hs, fun h => ⟨by trivial, by omega, by trivial⟩⟩
  · unfold edR edV edS
    simp only [if_true, reduceIte, Int.reduceEq]
    rcases hs with rfl | rfl | rfl | rfl <;> rcases hb with rfl | rfl <;> refine ⟨r0, r1, v0, v1, by unfold Kn; decide, fun h => ⟨by trivial, by trivial, ?_⟩⟩ <;> first | decide | (exfalso; revert h; simp [beV])
theorem tn_1 (k f r v s b : Int) (h : (k = 1 ∧ b = 1) ∨ (k = 2 ∧ b = -1)) : tnF k f = f ∧ tnR k f r = edR f r b ∧ tnV k f v = edV f v b ∧ tnS k f s = edS f s b := by
  rcases h with ⟨rfl, rfl⟩ | ⟨rfl, rfl⟩ <;> exact ⟨rfl, rfl, rfl, rfl⟩

set_option maxRecDepth 100000 in
set_option maxHeartbeats 4000000 in
theorem way (W : World) (f r v s k j b : Int) (dn : Bool) (hk : (k = 1 ∧ j = 2 ∧ b = 1 ∧ dn = false) ∨ (k = 2 ∧ j = 1 ∧ b = -1 ∧ dn = true)) (F : Int) (F0 : 0 ≤ F) (F1 : F ≤ 255) (hF : F % 3 = f) (r0 : 5 ≤ r) (r1 : r ≤ 1000) (v0 : 1 ≤ v) (v1 : v ≤ 5000) (hs : Kn s) (hT : TabAt W 2 .i64 kySets) :
    Calls Tryd.prog 10 #[.agg #[.int .i64 r, .int .i64 v, .int .i64 s], .int .u8 F, .bool dn] W fun e W' => e = .returned (.bool true) ∧ Below W.heap.size W W' := by
  have A : Below W.heap.size W W := Below.refl _ _
  have HT := Lib.hid hT
  clear hT
  have f0 : f = 0 ∨ f = 1 ∨ f = 2 := by omega
  obtain ⟨R, V, S, eR, eV, eS, R0, R1, V0, V1, hS, back⟩ := turns (b := b) f0 (by omega) r0 r1 v0 v1 hs
  have HK := Lib.hid (fun w => ds_knB s w)
  rw [show knB s = true by simpa [knB, Kn] using hs] at HK
  have HJ := Lib.hid (fun w => ds_knB S w)
  rw [show knB S = true by simpa [knB, Kn] using hS] at HJ
  have H1 := fun w h => ky_step f r v s false k 1 0 w h
  obtain ⟨e1, e2, e3, e4⟩ := tn_1 k f r v s b (by omega)
  rw [e1, e2, e3, e4, eR, eV, eS] at H1
  have hst : ∀ c, stA k false c = false := fun c => by
    unfold stA; rcases hk with ⟨rfl, _⟩ | ⟨rfl, _⟩ <;> rfl
  rw [hst] at H1
  have H2 := fun w h => ky_step f R V S false j 1 0 w h
  obtain ⟨d1, d2, d3, d4⟩ := tn_1 j f R V S (-b) (by omega)
  rw [d1, d2, d3, d4] at H2
  have H1 := Lib.hid H1
  have H2 := Lib.hid H2
  generalize wiK k (false && cfB 1 0 r v s) = K1 at *
  generalize wiP k (false && cfB 1 0 r v s) r = Pr at *
  generalize wiP k (false && cfB 1 0 r v s) v = Pv at *
  generalize wiP k (false && cfB 1 0 r v s) s = Ps at *
  generalize stA j false (cfB 1 0 R V S) = a2 at *
  generalize wiK j (false && cfB 1 0 R V S) = K2 at *
  generalize wiP j (false && cfB 1 0 R V S) R = Qr at *
  generalize wiP j (false && cfB 1 0 R V S) V = Qv at *
  generalize wiP j (false && cfB 1 0 R V S) S = Qs at *
  generalize edR f R (-b) = R2 at *
  generalize edV f V (-b) = V2 at *
  generalize edS f S (-b) = S2 at *
  clear e1 e2 e3 e4 d1 d2 d3 d4 hst eR eV eS
  have s0 : 10 ≤ s ∧ s ≤ 60 := by rcases hs with rfl | rfl | rfl | rfl <;> omega
  have S0 : 10 ≤ S ∧ S ≤ 60 := by rcases hS with rfl | rfl | rfl | rfl <;> omega
  obtain ⟨s0, s1⟩ := s0
  obtain ⟨S0, S1⟩ := S0
  have a0 : decide (r < 5) = false := decide_eq_false (by omega)
  have a1 : decide (1000 < r) = false := decide_eq_false (by omega)
  have a2' : decide (v < 1) = false := decide_eq_false (by omega)
  have a3 : decide (5000 < v) = false := decide_eq_false (by omega)
  have b0 : decide (R < 5) = false := decide_eq_false (by omega)
  have b1 : decide (1000 < R) = false := decide_eq_false (by omega)
  have b2 : decide (V < 1) = false := decide_eq_false (by omega)
  have b3 : decide (5000 < V) = false := decide_eq_false (by omega)
  have u1 : IntKind.i64.wrap (R - r) = R - r := IntWalk.i64_in _ (by omega)
  have u2 : IntKind.i64.wrap (r - R) = r - R := IntWalk.i64_in _ (by omega)
  have u3 : IntKind.i64.wrap (V - v) = V - v := IntWalk.i64_in _ (by omega)
  have u4 : IntKind.i64.wrap (v - V) = v - V := IntWalk.i64_in _ (by omega)
  have u5 : IntKind.i64.wrap f = f := IntWalk.i64_in _ (by omega)
  by_cases hfar : R - r = 5 ∨ r - R = 5 ∨ V - v = 10 ∨ v - V = 10 ∨ S ≠ s
  · obtain ⟨rfl, rfl, rfl⟩ := back hfar
    clear back
    rcases (by omega : R - R2 = 5 ∨ (R - R2 ≠ 5 ∧ R2 - R = 5) ∨ (R - R2 ≠ 5 ∧ R2 - R ≠ 5 ∧ V - V2 = 10) ∨ (R - R2 ≠ 5 ∧ R2 - R ≠ 5 ∧ V - V2 ≠ 10 ∧ V2 - V = 10) ∨ (R - R2 ≠ 5 ∧ R2 - R ≠ 5 ∧ V - V2 ≠ 10 ∧ V2 - V ≠ 10 ∧ S ≠ S2)) with h | ⟨g1, h⟩ | ⟨g1, g2, h⟩ | ⟨g1, g2, g3, h⟩ | ⟨g1, g2, g3, g4, h⟩
    all_goals (try have z1 : (R - R2 == 5) = false := by simpa using g1)
    all_goals (try have z2 : (R2 - R == 5) = false := by simpa using g2)
    all_goals (try have z3 : (V - V2 == 10) = false := by simpa using g3)
    all_goals (try have z4 : (V2 - V == 10) = false := by simpa using g4)
    all_goals (try have z5 : (R - R2 == 5) = true := by simpa using h)
    all_goals (try have z6 : (R2 - R == 5) = true := by simpa using h)
    all_goals (try have z7 : (V - V2 == 10) = true := by simpa using h)
    all_goals (try have z8 : (V2 - V == 10) = true := by simpa using h)
    all_goals (try have z9 : (S != S2) = true := by simpa using h)
    all_goals clear hfar
    all_goals rcases hk with ⟨rfl, rfl, rfl, rfl⟩ | ⟨rfl, rfl, rfl, rfl⟩
    all_goals
      go_enter Tryd.func10, Tryd.ntmps10
      go_wp2_with ((go_at_call 36; (with_reducible refine (HK.out _).mono ?_); rintro e w' ⟨rfl, rfl⟩))
      refine (H1.out _ (HT.out.below (by (repeat (first | (with_reducible exact Below.refl _ _) | (with_reducible assumption) | (with_reducible refine Near.up _ ?_) | (with_reducible refine Below.drew ?_) | (with_reducible refine below_alloc_on ?_ _) | (with_reducible refine below_set_on ?_ (by first | (simp; done) | (simp; omega) | omega) _)))))).mono ?_
      rintro e w1 ⟨rfl, hb⟩
      replace A : Below W.heap.size W w1 := by (refine below_call ?_ hb; (repeat (first | (with_reducible exact Below.refl _ _) | (with_reducible assumption) | (with_reducible refine Near.up _ ?_) | (with_reducible refine Below.drew ?_) | (with_reducible refine below_alloc_on ?_ _) | (with_reducible refine below_set_on ?_ (by first | (simp; done) | (simp; omega) | omega) _))))
      replace P := Box.below (g := W.heap.size) (by (repeat (first | (with_reducible assumption) | (with_reducible exact box_new _ _ _) | ((with_reducible apply box_at); (first | (with_reducible rfl) | (simp <;> omega))) | (with_reducible apply Box.drew) | (with_reducible apply Box.drewN) | (with_reducible apply Box.near) | (with_reducible apply Box.alloc) | ((with_reducible apply box_far); (first | assumption | omega | (simp <;> omega))) | ((with_reducible apply Box.one_set); (with_reducible assumption)) | ((with_reducible apply Box.two_set); (with_reducible assumption)) | ((with_reducible apply Box.three_set); (with_reducible assumption)) | (with_reducible apply Box.set) | (simp only [List.size_toArray, List.length_cons, List.length_nil, Array.size_setIfInBounds] <;> omega)))) hb
      (try simp only [List.setIfInBounds_toArray, List.set_cons_zero, List.set_cons_succ] at P)
      (try clear cP fP)
      replace X := Box.below (g := W.heap.size + 1) (by (repeat (first | (with_reducible assumption) | (with_reducible exact box_new _ _ _) | ((with_reducible apply box_at); (first | (with_reducible rfl) | (simp <;> omega))) | (with_reducible apply Box.drew) | (with_reducible apply Box.drewN) | (with_reducible apply Box.near) | (with_reducible apply Box.alloc) | ((with_reducible apply box_far); (first | assumption | omega | (simp <;> omega))) | ((with_reducible apply Box.one_set); (with_reducible assumption)) | ((with_reducible apply Box.two_set); (with_reducible assumption)) | ((with_reducible apply Box.three_set); (with_reducible assumption)) | (with_reducible apply Box.set) | (simp only [List.size_toArray, List.length_cons, List.length_nil, Array.size_setIfInBounds] <;> omega)))) hb
      (try simp only [List.setIfInBounds_toArray, List.set_cons_zero, List.set_cons_succ] at X)
      (try clear cX fX)
      clear hb
      have z_w1 : W.heap.size ≤ w1.heap.size := A.size
      obtain ⟨lP_w1, cP, fP⟩ := id P
      obtain ⟨lX_w1, cX, fX⟩ := id X
      go_wp2_with (fail)
      refine (H2.out _ (HT.out.below (by (repeat (first | (with_reducible exact Below.refl _ _) | (with_reducible assumption) | (with_reducible refine Near.up _ ?_) | (with_reducible refine Below.drew ?_) | (with_reducible refine below_alloc_on ?_ _) | (with_reducible refine below_set_on ?_ (by first | (simp; done) | (simp; omega) | omega) _)))))).mono ?_
      rintro e w2 ⟨rfl, hb⟩
      replace A : Below W.heap.size W w2 := by (refine below_call ?_ hb; (repeat (first | (with_reducible exact Below.refl _ _) | (with_reducible assumption) | (with_reducible refine Near.up _ ?_) | (with_reducible refine Below.drew ?_) | (with_reducible refine below_alloc_on ?_ _) | (with_reducible refine below_set_on ?_ (by first | (simp; done) | (simp; omega) | omega) _))))
      replace P := Box.below (g := W.heap.size) (by (repeat (first | (with_reducible assumption) | (with_reducible exact box_new _ _ _) | ((with_reducible apply box_at); (first | (with_reducible rfl) | (simp <;> omega))) | (with_reducible apply Box.drew) | (with_reducible apply Box.drewN) | (with_reducible apply Box.near) | (with_reducible apply Box.alloc) | ((with_reducible apply box_far); (first | assumption | omega | (simp <;> omega))) | ((with_reducible apply Box.one_set); (with_reducible assumption)) | ((with_reducible apply Box.two_set); (with_reducible assumption)) | ((with_reducible apply Box.three_set); (with_reducible assumption)) | (with_reducible apply Box.set) | (simp only [List.size_toArray, List.length_cons, List.length_nil, Array.size_setIfInBounds] <;> omega)))) hb
      (try simp only [List.setIfInBounds_toArray, List.set_cons_zero, List.set_cons_succ] at P)
      (try clear cP fP)
      replace X := Box.below (g := W.heap.size + 1) (by (repeat (first | (with_reducible assumption) | (with_reducible exact box_new _ _ _) | ((with_reducible apply box_at); (first | (with_reducible rfl) | (simp <;> omega))) | (with_reducible apply Box.drew) | (with_reducible apply Box.drewN) | (with_reducible apply Box.near) | (with_reducible apply Box.alloc) | ((with_reducible apply box_far); (first | assumption | omega | (simp <;> omega))) | ((with_reducible apply Box.one_set); (with_reducible assumption)) | ((with_reducible apply Box.two_set); (with_reducible assumption)) | ((with_reducible apply Box.three_set); (with_reducible assumption)) | (with_reducible apply Box.set) | (simp only [List.size_toArray, List.length_cons, List.length_nil, Array.size_setIfInBounds] <;> omega)))) hb
      (try simp only [List.setIfInBounds_toArray, List.set_cons_zero, List.set_cons_succ] at X)
      (try clear cX fX)
      replace Q := Box.below (g := w1.heap.size) (by (repeat (first | (with_reducible assumption) | (with_reducible exact box_new _ _ _) | ((with_reducible apply box_at); (first | (with_reducible rfl) | (simp <;> omega))) | (with_reducible apply Box.drew) | (with_reducible apply Box.drewN) | (with_reducible apply Box.near) | (with_reducible apply Box.alloc) | ((with_reducible apply box_far); (first | assumption | omega | (simp <;> omega))) | ((with_reducible apply Box.one_set); (with_reducible assumption)) | ((with_reducible apply Box.two_set); (with_reducible assumption)) | ((with_reducible apply Box.three_set); (with_reducible assumption)) | (with_reducible apply Box.set) | (simp only [List.size_toArray, List.length_cons, List.length_nil, Array.size_setIfInBounds] <;> omega)))) hb
      (try simp only [List.setIfInBounds_toArray, List.set_cons_zero, List.set_cons_succ] at Q)
      (try clear cQ fQ)
      clear hb
      have z_w2 : W.heap.size ≤ w2.heap.size := A.size
      obtain ⟨lP_w2, cP, fP⟩ := id P
      obtain ⟨lX_w2, cX, fX⟩ := id X
      obtain ⟨lQ_w2, cQ, fQ⟩ := id Q
      go_upto_region 10 with fail
      have A3 : Below W.heap.size W (((w2.alloc (.cells #[.int .i64 f, .int .i64 R2, .int .i64 V2, .int .i64 S2, .bool a2] 41)).alloc (.cells #[.int .i64 K2, .int .i64 Qr, .int .i64 Qv, .int .i64 Qs] 44)).alloc (.cells #[.int .i64 R, .int .i64 V, .int .i64 S] 39)) := by (repeat (first | (with_reducible exact Below.refl _ _) | (with_reducible assumption) | (with_reducible refine Near.up _ ?_) | (with_reducible refine Below.drew ?_) | (with_reducible refine below_alloc_on ?_ _) | (with_reducible refine below_set_on ?_ (by first | (simp; done) | (simp; omega) | omega) _)))
      have P3 : Box (((w2.alloc (.cells #[.int .i64 f, .int .i64 R2, .int .i64 V2, .int .i64 S2, .bool a2] 41)).alloc (.cells #[.int .i64 K2, .int .i64 Qr, .int .i64 Qv, .int .i64 Qs] 44)).alloc (.cells #[.int .i64 R, .int .i64 V, .int .i64 S] 39)) W.heap.size #[.int .i64 R2, .int .i64 V2, .int .i64 S2] := by (repeat (first | (with_reducible assumption) | (with_reducible exact box_new _ _ _) | ((with_reducible apply box_at); (first | (with_reducible rfl) | (simp <;> omega))) | (with_reducible apply Box.drew) | (with_reducible apply Box.drewN) | (with_reducible apply Box.near) | (with_reducible apply Box.alloc) | ((with_reducible apply box_far); (first | assumption | omega | (simp <;> omega))) | ((with_reducible apply Box.one_set); (with_reducible assumption)) | ((with_reducible apply Box.two_set); (with_reducible assumption)) | ((with_reducible apply Box.three_set); (with_reducible assumption)) | (with_reducible apply Box.set) | (simp only [List.size_toArray, List.length_cons, List.length_nil, Array.size_setIfInBounds] <;> omega)))
      have X3 : Box (((w2.alloc (.cells #[.int .i64 f, .int .i64 R2, .int .i64 V2, .int .i64 S2, .bool a2] 41)).alloc (.cells #[.int .i64 K2, .int .i64 Qr, .int .i64 Qv, .int .i64 Qs] 44)).alloc (.cells #[.int .i64 R, .int .i64 V, .int .i64 S] 39)) (W.heap.size + 1) #[.int .i64 f, .int .i64 R2, .int .i64 V2, .int .i64 S2, .bool false] := by (repeat (first | (with_reducible assumption) | (with_reducible exact box_new _ _ _) | ((with_reducible apply box_at); (first | (with_reducible rfl) | (simp <;> omega))) | (with_reducible apply Box.drew) | (with_reducible apply Box.drewN) | (with_reducible apply Box.near) | (with_reducible apply Box.alloc) | ((with_reducible apply box_far); (first | assumption | omega | (simp <;> omega))) | ((with_reducible apply Box.one_set); (with_reducible assumption)) | ((with_reducible apply Box.two_set); (with_reducible assumption)) | ((with_reducible apply Box.three_set); (with_reducible assumption)) | (with_reducible apply Box.set) | (simp only [List.size_toArray, List.length_cons, List.length_nil, Array.size_setIfInBounds] <;> omega)))
      have Q3 : Box (((w2.alloc (.cells #[.int .i64 f, .int .i64 R2, .int .i64 V2, .int .i64 S2, .bool a2] 41)).alloc (.cells #[.int .i64 K2, .int .i64 Qr, .int .i64 Qv, .int .i64 Qs] 44)).alloc (.cells #[.int .i64 R, .int .i64 V, .int .i64 S] 39)) w1.heap.size #[.int .i64 f, .int .i64 R, .int .i64 V, .int .i64 S, .bool false] := by (repeat (first | (with_reducible assumption) | (with_reducible exact box_new _ _ _) | ((with_reducible apply box_at); (first | (with_reducible rfl) | (simp <;> omega))) | (with_reducible apply Box.drew) | (with_reducible apply Box.drewN) | (with_reducible apply Box.near) | (with_reducible apply Box.alloc) | ((with_reducible apply box_far); (first | assumption | omega | (simp <;> omega))) | ((with_reducible apply Box.one_set); (with_reducible assumption)) | ((with_reducible apply Box.two_set); (with_reducible assumption)) | ((with_reducible apply Box.three_set); (with_reducible assumption)) | (with_reducible apply Box.set) | (simp only [List.size_toArray, List.length_cons, List.length_nil, Array.size_setIfInBounds] <;> omega)))
      have Y3 : Box (((w2.alloc (.cells #[.int .i64 f, .int .i64 R2, .int .i64 V2, .int .i64 S2, .bool a2] 41)).alloc (.cells #[.int .i64 K2, .int .i64 Qr, .int .i64 Qv, .int .i64 Qs] 44)).alloc (.cells #[.int .i64 R, .int .i64 V, .int .i64 S] 39)) w2.heap.size #[.int .i64 f, .int .i64 R2, .int .i64 V2, .int .i64 S2, .bool a2] := by (repeat (first | (with_reducible assumption) | (with_reducible exact box_new _ _ _) | ((with_reducible apply box_at); (first | (with_reducible rfl) | (simp <;> omega))) | (with_reducible apply Box.drew) | (with_reducible apply Box.drewN) | (with_reducible apply Box.near) | (with_reducible apply Box.alloc) | ((with_reducible apply box_far); (first | assumption | omega | (simp <;> omega))) | ((with_reducible apply Box.one_set); (with_reducible assumption)) | ((with_reducible apply Box.two_set); (with_reducible assumption)) | ((with_reducible apply Box.three_set); (with_reducible assumption)) | (with_reducible apply Box.set) | (simp only [List.size_toArray, List.length_cons, List.length_nil, Array.size_setIfInBounds] <;> omega)))
      have Z3 : Box (((w2.alloc (.cells #[.int .i64 f, .int .i64 R2, .int .i64 V2, .int .i64 S2, .bool a2] 41)).alloc (.cells #[.int .i64 K2, .int .i64 Qr, .int .i64 Qv, .int .i64 Qs] 44)).alloc (.cells #[.int .i64 R, .int .i64 V, .int .i64 S] 39)) (w2.heap.size + 1 + 1) #[.int .i64 R, .int .i64 V, .int .i64 S] := by (repeat (first | (with_reducible assumption) | (with_reducible exact box_new _ _ _) | ((with_reducible apply box_at); (first | (with_reducible rfl) | (simp <;> omega))) | (with_reducible apply Box.drew) | (with_reducible apply Box.drewN) | (with_reducible apply Box.near) | (with_reducible apply Box.alloc) | ((with_reducible apply box_far); (first | assumption | omega | (simp <;> omega))) | ((with_reducible apply Box.one_set); (with_reducible assumption)) | ((with_reducible apply Box.two_set); (with_reducible assumption)) | ((with_reducible apply Box.three_set); (with_reducible assumption)) | (with_reducible apply Box.set) | (simp only [List.size_toArray, List.length_cons, List.length_nil, Array.size_setIfInBounds] <;> omega)))
      generalize ((w2.alloc (.cells #[.int .i64 f, .int .i64 R2, .int .i64 V2, .int .i64 S2, .bool a2] 41)).alloc (.cells #[.int .i64 K2, .int .i64 Qr, .int .i64 Qv, .int .i64 Qs] 44)).alloc (.cells #[.int .i64 R, .int .i64 V, .int .i64 S] 39) = w3 at *
      clear A P X Q cP fP cX fX cQ fQ lP_w2 lX_w2 lQ_w2
      have A := A3
      obtain ⟨lP, cP, fP⟩ := id P3
      obtain ⟨lX, cX, fX⟩ := id X3
      obtain ⟨lQ, cQ, fQ⟩ := id Q3
      obtain ⟨lY, cY, fY⟩ := id Y3
      obtain ⟨lZ, cZ, fZ⟩ := id Z3
      go_wp2_with ((go_at_call 36; (with_reducible refine (HJ.out _).mono ?_); rintro e w' ⟨rfl, rfl⟩))
      refine (law42_awake _ (HT.out.below (by (repeat (first | (with_reducible exact Below.refl _ _) | (with_reducible assumption) | (with_reducible refine Near.up _ ?_) | (with_reducible refine Below.drew ?_) | (with_reducible refine below_alloc_on ?_ _) | (with_reducible refine below_set_on ?_ (by first | (simp; done) | (simp; omega) | omega) _)))))).mono ?_
      rintro e w4 ⟨rfl, hb⟩
      replace A : Below W.heap.size W w4 := by (refine below_call ?_ hb; (repeat (first | (with_reducible exact Below.refl _ _) | (with_reducible assumption) | (with_reducible refine Near.up _ ?_) | (with_reducible refine Below.drew ?_) | (with_reducible refine below_alloc_on ?_ _) | (with_reducible refine below_set_on ?_ (by first | (simp; done) | (simp; omega) | omega) _))))
      clear hb
      have z_w4 : W.heap.size ≤ w4.heap.size := A.size
      go_wp2
      all_goals go_ret
      all_goals exact ⟨rfl, A⟩
  · have h1 : R - r ≠ 5 := fun h => hfar (.inl h)
    have h2 : r - R ≠ 5 := fun h => hfar (.inr (.inl h))
    have h3 : V - v ≠ 10 := fun h => hfar (.inr (.inr (.inl h)))
    have h4 : v - V ≠ 10 := fun h => hfar (.inr (.inr (.inr (.inl h))))
    have h5 : S = s := Classical.byContradiction (fun h => hfar (.inr (.inr (.inr (.inr h)))))
    subst h5
    have z1 : (R - r == 5) = false := by simpa using h1
    have z2 : (r - R == 5) = false := by simpa using h2
    have z3 : (V - v == 10) = false := by simpa using h3
    have z4 : (v - V == 10) = false := by simpa using h4
    clear hfar back h1 h2 h3 h4
    rcases hk with ⟨rfl, rfl, rfl, rfl⟩ | ⟨rfl, rfl, rfl, rfl⟩
    all_goals
      go_enter Tryd.func10, Tryd.ntmps10
      go_wp2_with ((go_at_call 36; (with_reducible refine (HK.out _).mono ?_); rintro e w' ⟨rfl, rfl⟩))
      refine (H1.out _ (HT.out.below (by (repeat (first | (with_reducible exact Below.refl _ _) | (with_reducible assumption) | (with_reducible refine Near.up _ ?_) | (with_reducible refine Below.drew ?_) | (with_reducible refine below_alloc_on ?_ _) | (with_reducible refine below_set_on ?_ (by first | (simp; done) | (simp; omega) | omega) _)))))).mono ?_
      rintro e w1 ⟨rfl, hb⟩
      replace A : Below W.heap.size W w1 := by (refine below_call ?_ hb; (repeat (first | (with_reducible exact Below.refl _ _) | (with_reducible assumption) | (with_reducible refine Near.up _ ?_) | (with_reducible refine Below.drew ?_) | (with_reducible refine below_alloc_on ?_ _) | (with_reducible refine below_set_on ?_ (by first | (simp; done) | (simp; omega) | omega) _))))
      replace P := Box.below (g := W.heap.size) (by (repeat (first | (with_reducible assumption) | (with_reducible exact box_new _ _ _) | ((with_reducible apply box_at); (first | (with_reducible rfl) | (simp <;> omega))) | (with_reducible apply Box.drew) | (with_reducible apply Box.drewN) | (with_reducible apply Box.near) | (with_reducible apply Box.alloc) | ((with_reducible apply box_far); (first | assumption | omega | (simp <;> omega))) | ((with_reducible apply Box.one_set); (with_reducible assumption)) | ((with_reducible apply Box.two_set); (with_reducible assumption)) | ((with_reducible apply Box.three_set); (with_reducible assumption)) | (with_reducible apply Box.set) | (simp only [List.size_toArray, List.length_cons, List.length_nil, Array.size_setIfInBounds] <;> omega)))) hb
      (try simp only [List.setIfInBounds_toArray, List.set_cons_zero, List.set_cons_succ] at P)
      (try clear cP fP)
      replace X := Box.below (g := W.heap.size + 1) (by (repeat (first | (with_reducible assumption) | (with_reducible exact box_new _ _ _) | ((with_reducible apply box_at); (first | (with_reducible rfl) | (simp <;> omega))) | (with_reducible apply Box.drew) | (with_reducible apply Box.drewN) | (with_reducible apply Box.near) | (with_reducible apply Box.alloc) | ((with_reducible apply box_far); (first | assumption | omega | (simp <;> omega))) | ((with_reducible apply Box.one_set); (with_reducible assumption)) | ((with_reducible apply Box.two_set); (with_reducible assumption)) | ((with_reducible apply Box.three_set); (with_reducible assumption)) | (with_reducible apply Box.set) | (simp only [List.size_toArray, List.length_cons, List.length_nil, Array.size_setIfInBounds] <;> omega)))) hb
      (try simp only [List.setIfInBounds_toArray, List.set_cons_zero, List.set_cons_succ] at X)
      (try clear cX fX)
      clear hb
      have z_w1 : W.heap.size ≤ w1.heap.size := A.size
      obtain ⟨lP_w1, cP, fP⟩ := id P
      obtain ⟨lX_w1, cX, fX⟩ := id X
      go_wp2_with (fail)
      refine (H2.out _ (HT.out.below (by (repeat (first | (with_reducible exact Below.refl _ _) | (with_reducible assumption) | (with_reducible refine Near.up _ ?_) | (with_reducible refine Below.drew ?_) | (with_reducible refine below_alloc_on ?_ _) | (with_reducible refine below_set_on ?_ (by first | (simp; done) | (simp; omega) | omega) _)))))).mono ?_
      rintro e w2 ⟨rfl, hb⟩
      replace A : Below W.heap.size W w2 := by (refine below_call ?_ hb; (repeat (first | (with_reducible exact Below.refl _ _) | (with_reducible assumption) | (with_reducible refine Near.up _ ?_) | (with_reducible refine Below.drew ?_) | (with_reducible refine below_alloc_on ?_ _) | (with_reducible refine below_set_on ?_ (by first | (simp; done) | (simp; omega) | omega) _))))
      replace P := Box.below (g := W.heap.size) (by (repeat (first | (with_reducible assumption) | (with_reducible exact box_new _ _ _) | ((with_reducible apply box_at); (first | (with_reducible rfl) | (simp <;> omega))) | (with_reducible apply Box.drew) | (with_reducible apply Box.drewN) | (with_reducible apply Box.near) | (with_reducible apply Box.alloc) | ((with_reducible apply box_far); (first | assumption | omega | (simp <;> omega))) | ((with_reducible apply Box.one_set); (with_reducible assumption)) | ((with_reducible apply Box.two_set); (with_reducible assumption)) | ((with_reducible apply Box.three_set); (with_reducible assumption)) | (with_reducible apply Box.set) | (simp only [List.size_toArray, List.length_cons, List.length_nil, Array.size_setIfInBounds] <;> omega)))) hb
      (try simp only [List.setIfInBounds_toArray, List.set_cons_zero, List.set_cons_succ] at P)
      (try clear cP fP)
      replace X := Box.below (g := W.heap.size + 1) (by (repeat (first | (with_reducible assumption) | (with_reducible exact box_new _ _ _) | ((with_reducible apply box_at); (first | (with_reducible rfl) | (simp <;> omega))) | (with_reducible apply Box.drew) | (with_reducible apply Box.drewN) | (with_reducible apply Box.near) | (with_reducible apply Box.alloc) | ((with_reducible apply box_far); (first | assumption | omega | (simp <;> omega))) | ((with_reducible apply Box.one_set); (with_reducible assumption)) | ((with_reducible apply Box.two_set); (with_reducible assumption)) | ((with_reducible apply Box.three_set); (with_reducible assumption)) | (with_reducible apply Box.set) | (simp only [List.size_toArray, List.length_cons, List.length_nil, Array.size_setIfInBounds] <;> omega)))) hb
      (try simp only [List.setIfInBounds_toArray, List.set_cons_zero, List.set_cons_succ] at X)
      (try clear cX fX)
      replace Q := Box.below (g := w1.heap.size) (by (repeat (first | (with_reducible assumption) | (with_reducible exact box_new _ _ _) | ((with_reducible apply box_at); (first | (with_reducible rfl) | (simp <;> omega))) | (with_reducible apply Box.drew) | (with_reducible apply Box.drewN) | (with_reducible apply Box.near) | (with_reducible apply Box.alloc) | ((with_reducible apply box_far); (first | assumption | omega | (simp <;> omega))) | ((with_reducible apply Box.one_set); (with_reducible assumption)) | ((with_reducible apply Box.two_set); (with_reducible assumption)) | ((with_reducible apply Box.three_set); (with_reducible assumption)) | (with_reducible apply Box.set) | (simp only [List.size_toArray, List.length_cons, List.length_nil, Array.size_setIfInBounds] <;> omega)))) hb
      (try simp only [List.setIfInBounds_toArray, List.set_cons_zero, List.set_cons_succ] at Q)
      (try clear cQ fQ)
      clear hb
      have z_w2 : W.heap.size ≤ w2.heap.size := A.size
      obtain ⟨lP_w2, cP, fP⟩ := id P
      obtain ⟨lX_w2, cX, fX⟩ := id X
      obtain ⟨lQ_w2, cQ, fQ⟩ := id Q
      go_upto_region 10 with fail
      have A3 : Below W.heap.size W (((w2.alloc (.cells #[.int .i64 f, .int .i64 R2, .int .i64 V2, .int .i64 S2, .bool a2] 41)).alloc (.cells #[.int .i64 K2, .int .i64 Qr, .int .i64 Qv, .int .i64 Qs] 44)).alloc (.cells #[.int .i64 R, .int .i64 V, .int .i64 S] 39)) := by (repeat (first | (with_reducible exact Below.refl _ _) | (with_reducible assumption) | (with_reducible refine Near.up _ ?_) | (with_reducible refine Below.drew ?_) | (with_reducible refine below_alloc_on ?_ _) | (with_reducible refine below_set_on ?_ (by first | (simp; done) | (simp; omega) | omega) _)))
      have P3 : Box (((w2.alloc (.cells #[.int .i64 f, .int .i64 R2, .int .i64 V2, .int .i64 S2, .bool a2] 41)).alloc (.cells #[.int .i64 K2, .int .i64 Qr, .int .i64 Qv, .int .i64 Qs] 44)).alloc (.cells #[.int .i64 R, .int .i64 V, .int .i64 S] 39)) W.heap.size #[.int .i64 r, .int .i64 v, .int .i64 S] := by (repeat (first | (with_reducible assumption) | (with_reducible exact box_new _ _ _) | ((with_reducible apply box_at); (first | (with_reducible rfl) | (simp <;> omega))) | (with_reducible apply Box.drew) | (with_reducible apply Box.drewN) | (with_reducible apply Box.near) | (with_reducible apply Box.alloc) | ((with_reducible apply box_far); (first | assumption | omega | (simp <;> omega))) | ((with_reducible apply Box.one_set); (with_reducible assumption)) | ((with_reducible apply Box.two_set); (with_reducible assumption)) | ((with_reducible apply Box.three_set); (with_reducible assumption)) | (with_reducible apply Box.set) | (simp only [List.size_toArray, List.length_cons, List.length_nil, Array.size_setIfInBounds] <;> omega)))
      have X3 : Box (((w2.alloc (.cells #[.int .i64 f, .int .i64 R2, .int .i64 V2, .int .i64 S2, .bool a2] 41)).alloc (.cells #[.int .i64 K2, .int .i64 Qr, .int .i64 Qv, .int .i64 Qs] 44)).alloc (.cells #[.int .i64 R, .int .i64 V, .int .i64 S] 39)) (W.heap.size + 1) #[.int .i64 f, .int .i64 r, .int .i64 v, .int .i64 S, .bool false] := by (repeat (first | (with_reducible assumption) | (with_reducible exact box_new _ _ _) | ((with_reducible apply box_at); (first | (with_reducible rfl) | (simp <;> omega))) | (with_reducible apply Box.drew) | (with_reducible apply Box.drewN) | (with_reducible apply Box.near) | (with_reducible apply Box.alloc) | ((with_reducible apply box_far); (first | assumption | omega | (simp <;> omega))) | ((with_reducible apply Box.one_set); (with_reducible assumption)) | ((with_reducible apply Box.two_set); (with_reducible assumption)) | ((with_reducible apply Box.three_set); (with_reducible assumption)) | (with_reducible apply Box.set) | (simp only [List.size_toArray, List.length_cons, List.length_nil, Array.size_setIfInBounds] <;> omega)))
      have Q3 : Box (((w2.alloc (.cells #[.int .i64 f, .int .i64 R2, .int .i64 V2, .int .i64 S2, .bool a2] 41)).alloc (.cells #[.int .i64 K2, .int .i64 Qr, .int .i64 Qv, .int .i64 Qs] 44)).alloc (.cells #[.int .i64 R, .int .i64 V, .int .i64 S] 39)) w1.heap.size #[.int .i64 f, .int .i64 R, .int .i64 V, .int .i64 S, .bool false] := by (repeat (first | (with_reducible assumption) | (with_reducible exact box_new _ _ _) | ((with_reducible apply box_at); (first | (with_reducible rfl) | (simp <;> omega))) | (with_reducible apply Box.drew) | (with_reducible apply Box.drewN) | (with_reducible apply Box.near) | (with_reducible apply Box.alloc) | ((with_reducible apply box_far); (first | assumption | omega | (simp <;> omega))) | ((with_reducible apply Box.one_set); (with_reducible assumption)) | ((with_reducible apply Box.two_set); (with_reducible assumption)) | ((with_reducible apply Box.three_set); (with_reducible assumption)) | (with_reducible apply Box.set) | (simp only [List.size_toArray, List.length_cons, List.length_nil, Array.size_setIfInBounds] <;> omega)))
      have Y3 : Box (((w2.alloc (.cells #[.int .i64 f, .int .i64 R2, .int .i64 V2, .int .i64 S2, .bool a2] 41)).alloc (.cells #[.int .i64 K2, .int .i64 Qr, .int .i64 Qv, .int .i64 Qs] 44)).alloc (.cells #[.int .i64 R, .int .i64 V, .int .i64 S] 39)) w2.heap.size #[.int .i64 f, .int .i64 R2, .int .i64 V2, .int .i64 S2, .bool a2] := by (repeat (first | (with_reducible assumption) | (with_reducible exact box_new _ _ _) | ((with_reducible apply box_at); (first | (with_reducible rfl) | (simp <;> omega))) | (with_reducible apply Box.drew) | (with_reducible apply Box.drewN) | (with_reducible apply Box.near) | (with_reducible apply Box.alloc) | ((with_reducible apply box_far); (first | assumption | omega | (simp <;> omega))) | ((with_reducible apply Box.one_set); (with_reducible assumption)) | ((with_reducible apply Box.two_set); (with_reducible assumption)) | ((with_reducible apply Box.three_set); (with_reducible assumption)) | (with_reducible apply Box.set) | (simp only [List.size_toArray, List.length_cons, List.length_nil, Array.size_setIfInBounds] <;> omega)))
      have Z3 : Box (((w2.alloc (.cells #[.int .i64 f, .int .i64 R2, .int .i64 V2, .int .i64 S2, .bool a2] 41)).alloc (.cells #[.int .i64 K2, .int .i64 Qr, .int .i64 Qv, .int .i64 Qs] 44)).alloc (.cells #[.int .i64 R, .int .i64 V, .int .i64 S] 39)) (w2.heap.size + 1 + 1) #[.int .i64 R, .int .i64 V, .int .i64 S] := by (repeat (first | (with_reducible assumption) | (with_reducible exact box_new _ _ _) | ((with_reducible apply box_at); (first | (with_reducible rfl) | (simp <;> omega))) | (with_reducible apply Box.drew) | (with_reducible apply Box.drewN) | (with_reducible apply Box.near) | (with_reducible apply Box.alloc) | ((with_reducible apply box_far); (first | assumption | omega | (simp <;> omega))) | ((with_reducible apply Box.one_set); (with_reducible assumption)) | ((with_reducible apply Box.two_set); (with_reducible assumption)) | ((with_reducible apply Box.three_set); (with_reducible assumption)) | (with_reducible apply Box.set) | (simp only [List.size_toArray, List.length_cons, List.length_nil, Array.size_setIfInBounds] <;> omega)))
      generalize ((w2.alloc (.cells #[.int .i64 f, .int .i64 R2, .int .i64 V2, .int .i64 S2, .bool a2] 41)).alloc (.cells #[.int .i64 K2, .int .i64 Qr, .int .i64 Qv, .int .i64 Qs] 44)).alloc (.cells #[.int .i64 R, .int .i64 V, .int .i64 S] 39) = w3 at *
      clear A P X Q cP fP cX fX cQ fQ lP_w2 lX_w2 lQ_w2
      have A := A3
      obtain ⟨lP, cP, fP⟩ := id P3
      obtain ⟨lX, cX, fX⟩ := id X3
      obtain ⟨lQ, cQ, fQ⟩ := id Q3
      obtain ⟨lY, cY, fY⟩ := id Y3
      obtain ⟨lZ, cZ, fZ⟩ := id Z3
      go_wp2_with ((go_at_call 36; (with_reducible refine (HJ.out _).mono ?_); rintro e w' ⟨rfl, rfl⟩))
      refine (law42_awake _ (HT.out.below (by (repeat (first | (with_reducible exact Below.refl _ _) | (with_reducible assumption) | (with_reducible refine Near.up _ ?_) | (with_reducible refine Below.drew ?_) | (with_reducible refine below_alloc_on ?_ _) | (with_reducible refine below_set_on ?_ (by first | (simp; done) | (simp; omega) | omega) _)))))).mono ?_
      rintro e w4 ⟨rfl, hb⟩
      replace A : Below W.heap.size W w4 := by (refine below_call ?_ hb; (repeat (first | (with_reducible exact Below.refl _ _) | (with_reducible assumption) | (with_reducible refine Near.up _ ?_) | (with_reducible refine Below.drew ?_) | (with_reducible refine below_alloc_on ?_ _) | (with_reducible refine below_set_on ?_ (by first | (simp; done) | (simp; omega) | omega) _))))
      clear hb
      have z_w4 : W.heap.size ≤ w4.heap.size := A.size
      go_wp2
      all_goals go_ret
      all_goals exact ⟨rfl, A⟩
theorem walk (r : Int) (wr : (Lit.int .i64 r).wf = true) (v : Int) (wv : (Lit.int .i64 v).wf = true) (s : Int) (ws : (Lit.int .i64 s).wf = true) (F : Int) (wF : (Lit.int .u8 F).wf = true) (dn : Bool) (W : World) (hL : laidMetH Tryd.prog Rows.keypadTurnsRow.laid W) :
    Calls Tryd.prog 10 #[.agg #[.int .i64 r, .int .i64 v, .int .i64 s], .int .u8 F, .bool dn] W fun e W' => e = .returned (.bool true) ∧ Below W.heap.size W W' := by
  have hT := sets hL
  simp only [Lit.wf, IntKind.min, IntKind.max, IntKind.signed, IntKind.bits, Bool.and_eq_true] at wF
  simp at wF
  clear hL wr wv ws
  have A : Below W.heap.size W W := Below.refl _ _
  have HT := Lib.hid hT
  rcases (by omega : r < 5 ∨ (5 ≤ r ∧ 1000 < r) ∨ (5 ≤ r ∧ r ≤ 1000 ∧ v < 1) ∨ (5 ≤ r ∧ r ≤ 1000 ∧ 1 ≤ v ∧ 5000 < v) ∨ (5 ≤ r ∧ r ≤ 1000 ∧ 1 ≤ v ∧ v ≤ 5000)) with h | ⟨h, h2⟩ | ⟨h, h2, h3⟩ | ⟨h, h2, h3, h4⟩ | ⟨h, h2, h3, h4⟩
  · have a0 := decide_eq_true h
    go_enter Tryd.func10, Tryd.ntmps10
    go_wp2_with (fail)
    refine (law42_awake _ (HT.out.below (by (repeat (first | (with_reducible exact Below.refl _ _) | (with_reducible assumption) | (with_reducible refine Near.up _ ?_) | (with_reducible refine Below.drew ?_) | (with_reducible refine below_alloc_on ?_ _) | (with_reducible refine below_set_on ?_ (by first | (simp; done) | (simp; omega) | omega) _)))))).mono ?_
    rintro e w3 ⟨rfl, hb⟩
    replace A : Below W.heap.size W w3 := by (refine below_call ?_ hb; (repeat (first | (with_reducible exact Below.refl _ _) | (with_reducible assumption) | (with_reducible refine Near.up _ ?_) | (with_reducible refine Below.drew ?_) | (with_reducible refine below_alloc_on ?_ _) | (with_reducible refine below_set_on ?_ (by first | (simp; done) | (simp; omega) | omega) _))))
    clear hb
    have z_w3 : W.heap.size ≤ w3.heap.size := A.size
    go_wp2
    all_goals go_ret
    all_goals exact ⟨rfl, A⟩
  · have a0 : decide (r < 5) = false := decide_eq_false (by omega)
    have a1 := decide_eq_true h2
    go_enter Tryd.func10, Tryd.ntmps10
    go_wp2_with (fail)
    refine (law42_awake _ (HT.out.below (by (repeat (first | (with_reducible exact Below.refl _ _) | (with_reducible assumption) | (with_reducible refine Near.up _ ?_) | (with_reducible refine Below.drew ?_) | (with_reducible refine below_alloc_on ?_ _) | (with_reducible refine below_set_on ?_ (by first | (simp; done) | (simp; omega) | omega) _)))))).mono ?_
    rintro e w3 ⟨rfl, hb⟩
    replace A : Below W.heap.size W w3 := by (refine below_call ?_ hb; (repeat (first | (with_reducible exact Below.refl _ _) | (with_reducible assumption) | (with_reducible refine Near.up _ ?_) | (with_reducible refine Below.drew ?_) | (with_reducible refine below_alloc_on ?_ _) | (with_reducible refine below_set_on ?_ (by first | (simp; done) | (simp; omega) | omega) _))))
    clear hb
    have z_w3 : W.heap.size ≤ w3.heap.size := A.size
    go_wp2
    all_goals go_ret
    all_goals exact ⟨rfl, A⟩
  · have a0 : decide (r < 5) = false := decide_eq_false (by omega)
    have a1 : decide (1000 < r) = false := decide_eq_false (by omega)
    have a2 := decide_eq_true h3
    go_enter Tryd.func10, Tryd.ntmps10
    go_wp2_with (fail)
    refine (law42_awake _ (HT.out.below (by (repeat (first | (with_reducible exact Below.refl _ _) | (with_reducible assumption) | (with_reducible refine Near.up _ ?_) | (with_reducible refine Below.drew ?_) | (with_reducible refine below_alloc_on ?_ _) | (with_reducible refine below_set_on ?_ (by first | (simp; done) | (simp; omega) | omega) _)))))).mono ?_
    rintro e w3 ⟨rfl, hb⟩
    replace A : Below W.heap.size W w3 := by (refine below_call ?_ hb; (repeat (first | (with_reducible exact Below.refl _ _) | (with_reducible assumption) | (with_reducible refine Near.up _ ?_) | (with_reducible refine Below.drew ?_) | (with_reducible refine below_alloc_on ?_ _) | (with_reducible refine below_set_on ?_ (by first | (simp; done) | (simp; omega) | omega) _))))
    clear hb
    have z_w3 : W.heap.size ≤ w3.heap.size := A.size
    go_wp2
    all_goals go_ret
    all_goals exact ⟨rfl, A⟩
  · have a0 : decide (r < 5) = false := decide_eq_false (by omega)
    have a1 : decide (1000 < r) = false := decide_eq_false (by omega)
    have a2 : decide (v < 1) = false := decide_eq_false (by omega)
    have a3 := decide_eq_true h4
    go_enter Tryd.func10, Tryd.ntmps10
    go_wp2_with (fail)
    refine (law42_awake _ (HT.out.below (by (repeat (first | (with_reducible exact Below.refl _ _) | (with_reducible assumption) | (with_reducible refine Near.up _ ?_) | (with_reducible refine Below.drew ?_) | (with_reducible refine below_alloc_on ?_ _) | (with_reducible refine below_set_on ?_ (by first | (simp; done) | (simp; omega) | omega) _)))))).mono ?_
    rintro e w3 ⟨rfl, hb⟩
    replace A : Below W.heap.size W w3 := by (refine below_call ?_ hb; (repeat (first | (with_reducible exact Below.refl _ _) | (with_reducible assumption) | (with_reducible refine Near.up _ ?_) | (with_reducible refine Below.drew ?_) | (with_reducible refine below_alloc_on ?_ _) | (with_reducible refine below_set_on ?_ (by first | (simp; done) | (simp; omega) | omega) _))))
    clear hb
    have z_w3 : W.heap.size ≤ w3.heap.size := A.size
    go_wp2
    all_goals go_ret
    all_goals exact ⟨rfl, A⟩
  · by_cases hk : knB s = true
    · cases dn
      · exact way W (F % 3) r v s 1 2 1 false (.inl ⟨rfl, rfl, rfl, rfl⟩) F (by omega) (by omega) rfl h h2 h3 h4 (kn_of hk) hT
      · exact way W (F % 3) r v s 2 1 (-1) true (.inr ⟨rfl, rfl, rfl, rfl⟩) F (by omega) (by omega) rfl h h2 h3 h4 (kn_of hk) hT
    · have HK := Lib.hid (fun w => ds_knB s w)
      rw [show knB s = false by simpa using hk] at HK
      have a0 : decide (r < 5) = false := decide_eq_false (by omega)
      have a1 : decide (1000 < r) = false := decide_eq_false (by omega)
      have a2 : decide (v < 1) = false := decide_eq_false (by omega)
      have a3 : decide (5000 < v) = false := decide_eq_false (by omega)
      clear hT hk
      go_enter Tryd.func10, Tryd.ntmps10
      go_wp2_with ((go_at_call 36; (with_reducible refine (HK.out _).mono ?_); rintro e w' ⟨rfl, rfl⟩))
      refine (law42_awake _ (HT.out.below (by (repeat (first | (with_reducible exact Below.refl _ _) | (with_reducible assumption) | (with_reducible refine Near.up _ ?_) | (with_reducible refine Below.drew ?_) | (with_reducible refine below_alloc_on ?_ _) | (with_reducible refine below_set_on ?_ (by first | (simp; done) | (simp; omega) | omega) _)))))).mono ?_
      rintro e w3 ⟨rfl, hb⟩
      replace A : Below W.heap.size W w3 := by (refine below_call ?_ hb; (repeat (first | (with_reducible exact Below.refl _ _) | (with_reducible assumption) | (with_reducible refine Near.up _ ?_) | (with_reducible refine Below.drew ?_) | (with_reducible refine below_alloc_on ?_ _) | (with_reducible refine below_set_on ?_ (by first | (simp; done) | (simp; omega) | omega) _))))
      clear hb
      have z_w3 : W.heap.size ≤ w3.heap.size := A.size
      go_wp2
      all_goals go_ret
      all_goals exact ⟨rfl, A⟩

theorem door_met (os : Os) (args : Array Value) : laidMetH Tryd.prog Rows.keypadTurnsRow.laid ((World.doorLaid Tryd.prog 39 os).forCall (fun _ _ => 0) ⟨#[], args, []⟩).memory :=
  laidMetH_of_parts3 (fuel := 8) (laidMet_of_run' 8 (by kernel_rfl) (by kernel_rfl)) (by kernel_rfl) (by kernel_rfl)
set_option maxRecDepth 100000 in
theorem lifted (os : Os) (started : os.Started) (H : Type) (enc : TypeId × Value → H) :
    ReturnsInHanded {} Tryd.checked os 10 .any (fun w args => (Rows.keypadTurnsSpec.pre enc Tryd.prog Tryd.f10 [] false w args ∧ laidMetH Tryd.prog Rows.keypadTurnsRow.laid w) ∧ sizedMet enc Tryd.prog Tryd.f10 (OpenSpec.ofChange Rows.keypadTurnsSpec) false w args) (Rows.keypadTurnsSpec.post enc Tryd.prog Tryd.f10 false true false false) := by
  refine law_lift_laid (laid := Rows.keypadTurnsRow.laid) started (by kernel_rfl) Tryd.func10 rfl rfl ?_ (by kernel_rfl)
    (ChangeSpec.witness_shaped (enc := enc) (C := Tryd.checked) (os := os) (X := fun w _ => laidMetH Tryd.prog Rows.keypadTurnsRow.laid w) false (World.doorLaid Tryd.prog 39 os) #[.agg #[.int .i64 0, .int .i64 0, .int .i64 0], .int .u8 0, .bool false] 8 rfl (World.shaped_of_RefB (by kernel_rfl) (by kernel_rfl)) (by kernel_rfl) (by kernel_rfl) (by kernel_rfl) (door_met os _)) ?_
  · intro ds hl
    match ds, hl with
    | [_, _, _], _ => exact ⟨rfl, rfl, rfl⟩
  · intro W base args ds p hval hA hlt hwt hL
    rw [Tryd.params10] at hA hval hwt
    obtain ⟨v0, vs0, d0, ds0, p0, q0, hargs, rfl, rfl, h0, r0⟩ := trodAll_cons hA
    obtain ⟨v1, vs1, d1, ds1, p1, q1, rfl, rfl, rfl, h1, r1⟩ := trodAll_cons r0
    obtain ⟨v2, vs2, d2, ds2, p2, q2, rfl, rfl, rfl, h2, r2⟩ := trodAll_cons r1
    obtain ⟨rfl, rfl, rfl⟩ := trodAll_nil r2
    obtain rfl : args = #[v0, v1, v2] := by cases args; simp_all
    obtain ⟨cs0, rfl, l0, k0⟩ := open_leaves 5 [.int .i64, .int .i64, .int .i64] (by kernel_rfl) (by kernel_rfl) (hval 0 39 v0 rfl rfl) h0
    match cs0, l0, k0 with
    | [y0_0, y0_1, y0_2], _, k0 =>
    obtain ⟨x0_0, e0_0, w0_0⟩ : leafIs (.int .i64) y0_0 := k0 0 _ rfl
    subst e0_0
    obtain ⟨x0_1, e0_1, w0_1⟩ : leafIs (.int .i64) y0_1 := k0 1 _ rfl
    subst e0_1
    obtain ⟨x0_2, e0_2, w0_2⟩ : leafIs (.int .i64) y0_2 := k0 2 _ rfl
    subst e0_2
    obtain ⟨a1, rfl, rfl, rfl, w1⟩ := open_int Tryd.underlying5 (hval 1 5 v1 rfl rfl) h1
    obtain ⟨a2, rfl, rfl, rfl⟩ := open_bool Tryd.underlying4 (hval 2 4 v2 rfl rfl) h2
    exact walk x0_0 w0_0 x0_1 w0_1 x0_2 w0_2 a1 w1 a2 W hL

theorem over : Rows.keypadTurnsRow.holds Tryd.pinned (OpenSpec.ofChange Rows.keypadTurnsSpec) :=
  OpenClaim.holds_of_wide 10 Tryd.f10 rfl rfl rfl rfl rfl rfl rfl ⟨rfl, rfl, rfl, rfl, rfl⟩ rfl rfl rfl rfl rfl (by kernel_rfl) Tryd.func10 (by kernel_rfl)
    (of_decide_eq_true (by kernel_rfl)) (by unfold Func.isWrapper; first | (rw [if_pos (by decide +kernel)]; kernel_rfl) | (rw [if_neg (by decide +kernel)]; exact ⟨rfl, rfl⟩))
    (fun os started H enc _ => lifted os started H enc)

theorem plain (f : FuncId) (fn : Func) (hf : Tryd.pinned.checked.prog.funcNamed "pinchcock/pinchcocklaw42.KeypadTurns" = some f) (hfn : Tryd.pinned.checked.prog.funcs[f]? = some fn) :
    false = Tryd.pinned.checked.prog.looks [] ∧ ∀ (j : Nat) t, fn.params[j]? = some t → Tryd.pinned.checked.prog.wantsStandIn t = false := by
  obtain rfl : f = 10 := Option.some.inj ((show Tryd.prog.funcNamed "pinchcock/pinchcocklaw42.KeypadTurns" = some 10 by kernel_rfl).symm.trans hf) |>.symm
  obtain rfl : fn = Tryd.f10 := (Option.some.inj (Tryd.func10.symm.trans hfn)).symm
  refine ⟨by kernel_rfl, fun j t ht => ?_⟩
  rw [Tryd.params10] at ht
  have hm : t ∈ [39, 5, 4] := by simpa using Array.mem_of_getElem? ht
  have hall : ([39, 5, 4].all fun u => !Tryd.prog.wantsStandIn u) = true := by kernel_rfl
  exact (show Tryd.prog.wantsStandIn t = false by simpa using List.all_eq_true.1 hall t hm)
theorem proved : Rows.KeypadTurnsCardSaid :=
  Claim7.holds_tied_plain_at .later [] _ _ _ _ over (fun _ h => by cases h) (by kernel_rfl) (fun _ h => by cases h) keypadTurns_row_tie rfl ⟨rfl, rfl⟩ (by kernel_rfl) rfl plain (by kernel_rfl)
#print axioms proved
end Go.Proofs.YthghangoagponaaDoor.keypadTurns
