/- The law package's own check of the flash. -/
import Derived.Test.YtidmoacjgbjlnaaFlash3
namespace Go.Proofs.Ytidmoacjgbjlnaa
open Go.RowKit
set_option linter.unusedVariables false
set_option linter.unusedSimpArgs false
attribute [local go_sem] cell_set_ite Near.cell Near.frozen

set_option maxRecDepth 100000 in
set_option maxHeartbeats 2000000 in
theorem law15_awake (w : World) : Calls Try.prog 37 #[] w fun e w' => e = .returned (.bool true) ∧ Below w.heap.size w w' := by
  have e1 : fst ⟨#[97, 98, 99, 100, 101, 102]⟩ 4 = ⟨#[97, 98, 99, 100]⟩ := by rfl
  have e2 : fst ⟨#[122, 122]⟩ 64 = ⟨#[122, 122]⟩ := fst_all _ (by decide)
  have h1 : ∀ w, Calls Try.prog 38 #[.agg #[.string ⟨#[]⟩, .string ⟨#[]⟩, .bool false, .int .i64 0, .string ⟨#[]⟩, .int .i64 0], .int .i64 1, .string ⟨#[97, 98, 99, 100, 101, 102]⟩] w fun x w' => x = .returned (.tuple #[.agg #[.string ⟨#[]⟩, .string ⟨#[]⟩, .bool true, .int .i64 1, .string ⟨#[97, 98, 99, 100, 101, 102]⟩, .int .i64 0], .int .i64 0]) ∧ Below w.heap.size w w' := fun w => fl_begin_ok _ _ _ _ _ 1 _ (.inr rfl) (by decide) (by decide) w
  have h2 : ∀ w, Calls Try.prog 39 #[.agg #[.string ⟨#[]⟩, .string ⟨#[]⟩, .bool true, .int .i64 1, .string ⟨#[97, 98, 99, 100, 101, 102]⟩, .int .i64 0], .bool true] w fun x w' => x = .returned (.tuple #[.agg #[.string ⟨#[]⟩, .string ⟨#[97, 98, 99, 100]⟩, .bool true, .int .i64 1, .string ⟨#[97, 98, 99, 100, 101, 102]⟩, .int .i64 4], .int .i64 0]) ∧ Below w.heap.size w w' := fun w => by
    have h := fl_step_goes ⟨#[]⟩ ⟨#[]⟩ 1 ⟨#[97, 98, 99, 100, 101, 102]⟩ 0 (by decide) w
    rw [show nxV 0 = 4 from rfl, e1] at h
    exact h
  have h3 : ∀ w, Calls Try.prog 39 #[.agg #[.string ⟨#[]⟩, .string ⟨#[97, 98, 99, 100]⟩, .bool true, .int .i64 1, .string ⟨#[97, 98, 99, 100, 101, 102]⟩, .int .i64 4], .bool true] w fun x w' => x = .returned (.tuple #[.agg #[.string ⟨#[]⟩, .string ⟨#[97, 98, 99, 100, 101, 102]⟩, .bool false, .int .i64 1, .string ⟨#[]⟩, .int .i64 0], .int .i64 1]) ∧ Below w.heap.size w w' := fun w => fl_step_done ⟨#[]⟩ ⟨#[97, 98, 99, 100]⟩ 1 ⟨#[97, 98, 99, 100, 101, 102]⟩ 4 (by decide) w
  have h4 : ∀ w, Calls Try.prog 38 #[.agg #[.string ⟨#[]⟩, .string ⟨#[97, 98, 99, 100]⟩, .bool true, .int .i64 1, .string ⟨#[97, 98, 99, 100, 101, 102]⟩, .int .i64 4], .int .i64 0, .string ⟨#[120]⟩] w fun x w' => x = .returned (.tuple #[.agg #[.string ⟨#[]⟩, .string ⟨#[]⟩, .bool false, .int .i64 0, .string ⟨#[]⟩, .int .i64 0], .int .i64 8]) ∧ Below w.heap.size w w' := fun w => fl_begin_busy _ _ _ _ _ _ _ w
  have h5 : ∀ w, Calls Try.prog 40 #[.agg #[.string ⟨#[]⟩, .string ⟨#[97, 98, 99, 100]⟩, .bool true, .int .i64 1, .string ⟨#[97, 98, 99, 100, 101, 102]⟩, .int .i64 4], .string ⟨#[122, 122]⟩] w fun x w' => x = .returned (.agg #[.string ⟨#[]⟩, .string ⟨#[122, 122]⟩, .bool false, .int .i64 1, .string ⟨#[]⟩, .int .i64 0]) ∧ Below w.heap.size w w' := fun w => by
    have h := fl_cut_busy ⟨#[]⟩ ⟨#[97, 98, 99, 100]⟩ 1 ⟨#[97, 98, 99, 100, 101, 102]⟩ 4 ⟨#[122, 122]⟩ w
    rw [e2] at h
    exact h
  have H1 := Lib.hid h1
  have H2 := Lib.hid h2
  have H3 := Lib.hid h3
  have H4 := Lib.hid h4
  have H5 := Lib.hid h5
  clear h1 h2 h3 h4 h5 e1 e2
  have A0 : Below w.heap.size w w := Below.refl _ _
  go_enter Try.func37, Try.ntmps37
  go_wp2_with (fail)
  refine (H1.out _).mono ?_
  rintro e w1 ⟨rfl, hb⟩
  have A1 := below_call A0 hb
  clear hb A0
  go_wp2_with (fail)
  refine (H2.out _).mono ?_
  rintro e w2 ⟨rfl, hb⟩
  have A2 := below_call (below_alloc_on A1 _) hb
  clear hb A1
  go_wp2_with (fail)
  refine (H3.out _).mono ?_
  rintro e w3 ⟨rfl, hb⟩
  have A3 := below_call (below_alloc_on A2 _) hb
  have G3 := (box_new w2 _ _).below hb
  generalize w2.heap.size = g2 at *
  clear hb A2
  obtain ⟨c0, c1, c2, c3, c4, c5, cf, cl⟩ := G3.six
  go_wp2_with (fail)
  refine (H4.out _).mono ?_
  rintro e w4 ⟨rfl, hb⟩
  have A4 := below_call (below_alloc_on A3 _) hb
  have G4 := (G3.alloc _).below hb
  have K4 := (box_new w3 _ _).below hb
  have n1 : ¬ g2 = w3.heap.size := by have := G3.1; omega
  generalize w3.heap.size = g3 at *
  clear hb A3 G3 c0 c1 c2 c3 c4 c5 cf cl
  obtain ⟨c0, c1, c2, c3, c4, c5, cf, cl⟩ := G4.six
  go_wp2_with (fail)
  refine (H5.out _).mono ?_
  rintro e w5 ⟨rfl, hb⟩
  have A5 := below_call (below_alloc_on A4 _) hb
  have G5 := (G4.alloc _).below hb
  have K5 := (K4.alloc _).below hb
  have n2 : ¬ g2 = w5.heap.size := by have := G5.1; omega
  have n3 : ¬ g3 = w5.heap.size := by have := K5.1; omega
  clear hb A4 G4 K4 c0 c1 c2 c3 c4 c5 cf cl
  obtain ⟨c0, c1, c2, c3, c4, c5, cf, cl⟩ := G5.six
  obtain ⟨d0, d1, d2, d3, d4, d5, df, dl⟩ := K5.six
  go_wp2
  all_goals go_ret
  all_goals exact ⟨rfl, below_alloc_on A5 _⟩
end Go.Proofs.Ytidmoacjgbjlnaa
