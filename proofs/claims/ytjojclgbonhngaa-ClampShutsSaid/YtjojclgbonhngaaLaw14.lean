/- The law package's own check of the clamp. -/
import Derived.Test.YtjojclgbonhngaaClamp
namespace Go.Proofs.Ytjojclgbonhngaa
open Go.RowKit
set_option linter.unusedVariables false
attribute [local go_sem] cell_set_ite

theorem Box.four_set {w : World} {g : Nat} {a b c d : Value} (h : Box w g #[a, b, c, d]) (x y z u : Value) :
    Box ((((w.setCell ⟨g, 0, none⟩ x).setCell ⟨g, 1, none⟩ y).setCell ⟨g, 2, none⟩ z).setCell ⟨g, 3, none⟩ u) g #[x, y, z, u] :=
  (((h.set (i := 0) (by simp) x).set (i := 1) (by simp) y).set (i := 2) (by simp) z).set (i := 3) (by simp) u
set_option maxRecDepth 100000 in
theorem law14_awake (w : World) : Calls Try.prog 13 #[] w fun e w' => e = .returned (.bool true) ∧ Below w.heap.size w w' := by
  have e1 : stP 50 0 (waV 300 false) = 51 := by decide +kernel
  have e2 : stH 0 = 0 := by decide +kernel
  have e3 : apV 39 50 0 10 = 40 := by decide +kernel
  have e4 : waV 300 false = 300 := by decide +kernel
  have e5 : slB 40 = true := by decide +kernel
  have e6 : stP 51 0 (waV 300 true) = 50 := by decide +kernel
  have e7 : apV 40 51 0 50 = 0 := by decide +kernel
  have e8 : waV 300 true = 0 := by decide +kernel
  have e9 : slB 0 = false := by decide +kernel
  have e10 : cdB 300 320 = false := by decide +kernel
  have e11 : cdB 0 0 = true := by decide +kernel
  have h1 := fun w => cl_step 50 0 39 0 300 false 10 w
  have h2 := fun w => cl_step 51 0 40 300 300 true 50 w
  rw [e1, e2, e3, e4, e5] at h1
  rw [e6, e2, e7, e8, e9] at h2
  have H1 := Lib.hid h1
  have H2 := Lib.hid h2
  clear e1 e2 e3 e4 e5 e6 e7 e8 e9 h1 h2
  have A0 : Below w.heap.size w w := Below.refl _ _
  go_enter Try.func13, Try.ntmps13
  go_wp2_with (fail)
  refine (cl_start _).mono ?_
  rintro e w1 ⟨rfl, hb⟩
  have A1 := below_call A0 hb
  clear hb A0
  go_wp2_with (fail)
  refine (H1.out _).mono ?_
  rintro e w2 ⟨rfl, hb⟩
  have A2 := below_call (below_alloc_on A1 _) hb
  have B2 := (box_new w1 _ _).below hb
  have g0 := A1.size
  generalize w1.heap.size = g1 at *
  clear hb A1
  go_wp2_with (fail)
  refine (H2.out _).mono ?_
  rintro e w3 ⟨rfl, hb⟩
  have A3 := below_call (below_alloc_on A2 _) hb
  have B3 := (B2.alloc _).below hb
  have C3 := (box_new w2 _ _).below hb
  have n1 : ¬ g1 = w2.heap.size := by have := B2.1; omega
  generalize w2.heap.size = g2 at *
  clear hb A2 B2
  obtain ⟨b0, b1, b2, b3, bf, bl⟩ := B3.four
  obtain ⟨c0, c1, c2, c3, cf, cl⟩ := C3.four
  go_wp2_with (fail)
  refine (cl_shut _ _ _ _ _).mono ?_
  rintro e w4 ⟨rfl, hb⟩
  have A4 := below_call (below_alloc_on A3 _) hb
  have C4 := (C3.alloc _).below hb
  have D4 := (box_new w3 _ _).below hb
  generalize w3.heap.size = g3 at *
  clear hb A3 B3 C3 b0 b1 b2 b3 bf bl c0 c1 c2 c3 cf cl
  obtain ⟨c0, c1, c2, c3, cf, cl⟩ := C4.four
  obtain ⟨d0, d1, d2, d3, df, dl⟩ := D4.four
  go_wp2_with (fail)
  refine (cl_shut _ _ _ _ _).mono ?_
  rintro e w5 ⟨rfl, hb⟩
  have A5 := below_call A4 hb
  go_wp2
  all_goals go_ret
  all_goals exact ⟨rfl, A5⟩
end Go.Proofs.Ytjojclgbonhngaa
