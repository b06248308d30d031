/- The document's tick of a plant, and the law package's own check. -/
import Derived.Test.YtmgbegmhanbcnaaPlantS
namespace Go.Proofs.Ytmgbegmhanbcnaa
set_option maxRecDepth 100000
open Go.RowKit
set_option linter.unusedVariables false
set_option linter.unusedSimpArgs false
attribute [local go_sem] cell_set_ite Near.cell Near.frozen

set_option maxRecDepth 100000 in
theorem law48_awake (w : World) : Calls Try.prog 18 #[] w fun e w' => e = .returned (.bool true) ∧ Below w.heap.size w w' := by
  have A : Below w.heap.size w w := Below.refl _ _
  have H1 := fun w => pl_step 9 5999999 0 0 1 1 60 (by omega) (by omega) w
  rw [show plL 9 5999999 60 1 1 = 8 by decide +kernel, show plP 9 5999999 60 1 1 = 7 by decide +kernel, show plS 9 5999999 0 60 1 1 = 2 by decide +kernel, show plF 9 5999999 0 60 1 1 = 1 by decide +kernel, show plX 9 5999999 0 60 1 1 = 2000 by decide +kernel] at H1
  have H2 := fun w => pl_step 0 5 0 0 300 256 60 (by omega) (by omega) w
  rw [show plL 0 5 60 300 256 = 0 by decide +kernel, show plP 0 5 60 300 256 = 5 by decide +kernel, show plS 0 5 0 60 300 256 = 0 by decide +kernel, show plF 0 5 0 60 300 256 = 0 by decide +kernel, show plX 0 5 0 60 300 256 = 3000 by decide +kernel] at H2
  have H1 := Lib.hid H1
  have H2 := Lib.hid H2
  have e1 : unV 60 = 6000000 := by decide +kernel
  have e2 : unV 7 = 0 := by decide +kernel
  have e3 : fwV 300 256 = 614400 := by decide +kernel
  go_enter Try.func18, Try.ntmps18
  go_wp2_with (fail)
  refine (H1.out _).mono ?_
  rintro e w1 ⟨rfl, hb⟩
  replace A : Below w.heap.size w w1 := by (refine below_call ?_ hb; (repeat (first | (with_reducible exact Below.refl _ _) | (with_reducible assumption) | (with_reducible refine Near.up _ ?_) | (with_reducible refine Below.drew ?_) | (with_reducible refine below_alloc_on ?_ _) | (with_reducible refine below_set_on ?_ (by first | (simp; done) | (simp; omega) | omega) _))))
  clear hb
  have z_w1 : w.heap.size ≤ w1.heap.size := A.size
  go_wp2_with (fail)
  refine (H2.out _).mono ?_
  rintro e w2 ⟨rfl, hb⟩
  have A2 : Below w.heap.size w w2 := below_call (by (repeat (first | (with_reducible exact Below.refl _ _) | (with_reducible assumption) | (with_reducible refine Near.up _ ?_) | (with_reducible refine Below.drew ?_) | (with_reducible refine below_alloc_on ?_ _) | (with_reducible refine below_set_on ?_ (by first | (simp; done) | (simp; omega) | omega) _)))) hb
  have Q2 := Box.below (g := w1.heap.size) (by (repeat (first | (with_reducible assumption) | (with_reducible exact box_new _ _ _) | ((with_reducible apply box_at); (first | (with_reducible rfl) | (simp <;> omega))) | (with_reducible apply Box.drew) | (with_reducible apply Box.drewN) | (with_reducible apply Box.near) | (with_reducible apply Box.alloc) | ((with_reducible apply box_far); (first | assumption | omega | (simp <;> omega))) | ((with_reducible apply Box.one_set); (with_reducible assumption)) | ((with_reducible apply Box.two_set); (with_reducible assumption)) | ((with_reducible apply Box.three_set); (with_reducible assumption)) | (with_reducible apply Box.set) | (simp only [List.size_toArray, List.length_cons, List.length_nil, Array.size_setIfInBounds] <;> omega)))) hb (cs := #[.int .i64 8, .int .i64 7, .int .i64 2, .int .i64 1])
  clear hb
  obtain ⟨lQ, cQ, fQ⟩ := id Q2
  go_wp2_with (first | (go_at_call 21; refine (pl_unit _ _).mono ?_; rintro e w' ⟨rfl, rfl⟩) | (go_at_call 20; refine (pl_flow _ _ _).mono ?_; rintro e w' ⟨rfl, rfl⟩))
  all_goals go_ret
  all_goals exact ⟨rfl, by (repeat (first | (with_reducible exact Below.refl _ _) | (with_reducible assumption) | (with_reducible refine Near.up _ ?_) | (with_reducible refine Below.drew ?_) | (with_reducible refine below_alloc_on ?_ _) | (with_reducible refine below_set_on ?_ (by first | (simp; done) | (simp; omega) | omega) _)))⟩
end Go.Proofs.Ytmgbegmhanbcnaa
