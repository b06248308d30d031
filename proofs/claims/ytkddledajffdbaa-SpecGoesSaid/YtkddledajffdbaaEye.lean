/- Contracts of package eye: a tick. -/
import Derived.Test.YtkddledajffdbaaEyeM
namespace Go.Proofs.Ytkddledajffdbaa
set_option maxRecDepth 100000
open Go.RowKit
set_option linter.unusedVariables false
set_option linter.unusedSimpArgs false
attribute [local go_sem] cell_set_ite Near.cell Near.frozen

set_option maxRecDepth 100000 in
set_option maxHeartbeats 4000000 in
theorem ey_step (bg : Bool) (ba : Int) (sh on : Bool) (rn wt ru ra a t2 t3 t4 : Int) (dr : Bool) (ky : Int) (wr : Bool) (bad : Int) (w : World) :
    Calls Try.prog 13 #[.agg #[.bool bg, .int .i64 ba, .bool sh, .bool on, .int .i64 rn, .int .i64 wt, .int .i64 ru, .int .i64 ra], .agg #[.int .i64 a, .int .i64 t2, .int .i64 t3, .int .i64 t4, .bool dr, .int .i64 ky, .bool wr, .int .i64 bad]] w fun e w' => e = .returned (.tuple #[.agg #[.bool true, .int .i64 (eyN (eyB bg ba a) a (eyS bg ba a sh)), .bool (eyS bg ba a sh), .bool (dbO on rn (eyS bg ba a sh)), .int .i64 (dbR on rn (eyS bg ba a sh)), .int .i64 (rfV wt (dbO on rn (eyS bg ba a sh) && !on)), .int .i64 (sgV ru (eyS bg ba a sh)), .int .i64 (raV ra a bad)], .agg #[.bool (rfB wt (dbO on rn (eyS bg ba a sh) && !on)), .bool (eyS bg ba a sh), .bool (decide (12 ≤ sgV ru (eyS bg ba a sh))), .bool (faB (raV ra a bad) bad)]]) ∧ Below w.heap.size w w' := by
  have A0 : Below w.heap.size w w := Below.refl _ _
  have HB := Lib.hid (show ∀ w, Calls Try.prog 56 #[.int .i64 a] w fun e w' => e = .returned (.int .i64 (64 * lgV a)) ∧ w = w' from fun w => am_start a w)
  obtain ⟨B0, hB0⟩ : ∃ B0, eyB bg ba a = B0 := ⟨_, rfl⟩
  rw [hB0]
  obtain ⟨SH, hSH⟩ : ∃ SH, eyS bg ba a sh = SH := ⟨_, rfl⟩
  have H1 := Lib.hid (fun w => am_level B0 w)
  have H2 := Lib.hid (show ∀ w, Calls Try.prog 57 #[.int .i64 (cbV B0 / 64), .int .i64 a, .bool sh] w fun e w' => e = .returned (.bool SH) ∧ w = w' from fun w => by
    have := cp_shaded (cbV B0 / 64) a sh w
    rwa [show shdB (cbV B0 / 64) a sh = SH by rw [← hSH, ← hB0]; rfl] at this)
  rw [hSH]
  have H3 := Lib.hid (fun w => am_any B0 a SH w)
  have H4 := Lib.hid (fun w => bm_step ru SH w)
  have H5 := Lib.hid (fun w => db_step on rn SH w)
  have H6 := Lib.hid (fun w => rf_step wt (dbO on rn SH && !on) w)
  have H7 := Lib.hid (fun w => ra_step ra a bad w)
  have H8 := Lib.hid (fun w => ra_fault (raV ra a bad) bad w)
  have hB := hB0
  clear hB0 hSH
  generalize eyN B0 a SH = B1 at *
  generalize sgV ru SH = RU at *
  generalize rfV wt (dbO on rn SH && !on) = WT at *
  generalize rfB wt (dbO on rn SH && !on) = DR at *
  generalize dbR on rn SH = RN at *
  obtain ⟨ST, hST⟩ : ∃ ST, decide (12 ≤ RU) = ST := ⟨_, rfl⟩
  rw [hST]
  generalize faB (raV ra a bad) bad = FA at *
  generalize raV ra a bad = RA at *
  generalize dbO on rn SH = ON at *
  generalize cbV B0 / 64 = L0 at *
  have HST := Lib.hid hST
  clear hST
  obtain ⟨g, hg⟩ : ∃ g, w.heap.size = g := ⟨_, rfl⟩
  have BG : ∀ x, Box x (g + 1 + 1 + 1 + 1) #[.bool bg, .int .i64 ba, .bool sh, .bool on, .int .i64 rn, .int .i64 wt, .int .i64 ru, .int .i64 ra, .bool false, .bool false, .bool false, .bool false] → Calls Try.prog 36 #[.pointer (some ⟨g + 1 + 1 + 1 + 1, 0, none⟩), .int .i64 a] x fun e w' => (∃ v, e = .returned v) ∧ Box w' (g + 1 + 1 + 1 + 1) #[.bool true, .int .i64 B0, .bool sh, .bool on, .int .i64 rn, .int .i64 wt, .int .i64 ru, .int .i64 ra, .bool false, .bool false, .bool false, .bool false] ∧ Only (g + 1 + 1 + 1 + 1) x w' := by
    intro x hx
    cases bg
    · have := ey_begin_false (g + 1 + 1 + 1 + 1) ba sh on rn wt ru ra false false false false a x hx
      rwa [show B0 = 64 * lgV a by rw [← hB]; rfl]
    · have := ey_begin_true (g + 1 + 1 + 1 + 1) ba sh on rn wt ru ra false false false false a x hx
      rwa [show B0 = ba by rw [← hB]; rfl]
  have HBG := Lib.hid BG
  clear BG hB
  go_enter Try.func13, Try.ntmps13
  go_wp2_with (fail)
  have R5 := (((box_at (w.alloc (.cells #[.bool bg, .int .i64 ba, .bool sh, .bool on, .int .i64 rn, .int .i64 wt, .int .i64 ru, .int .i64 ra] 25)) #[.int .i64 a, .int .i64 t2, .int .i64 t3, .int .i64 t4, .bool dr, .int .i64 ky, .bool wr, .int .i64 bad] 27 (g := g + 1) (by simp [hg])).alloc (.cells #[.bool false, .int .i64 0, .bool false, .bool false, .int .i64 0, .int .i64 0, .int .i64 0, .int .i64 0] 25)).alloc (.cells #[.bool false, .bool false, .bool false, .bool false] 31)).alloc (.cells #[.bool bg, .int .i64 ba, .bool sh, .bool on, .int .i64 rn, .int .i64 wt, .int .i64 ru, .int .i64 ra, .bool false, .bool false, .bool false, .bool false] 69)
  have E5 := ((box_at ((w.alloc (.cells #[.bool bg, .int .i64 ba, .bool sh, .bool on, .int .i64 rn, .int .i64 wt, .int .i64 ru, .int .i64 ra] 25)).alloc (.cells #[.int .i64 a, .int .i64 t2, .int .i64 t3, .int .i64 t4, .bool dr, .int .i64 ky, .bool wr, .int .i64 bad] 27)) #[.bool false, .int .i64 0, .bool false, .bool false, .int .i64 0, .int .i64 0, .int .i64 0, .int .i64 0] 25 (g := g + 1 + 1) (by simp [hg])).alloc (.cells #[.bool false, .bool false, .bool false, .bool false] 31)).alloc (.cells #[.bool bg, .int .i64 ba, .bool sh, .bool on, .int .i64 rn, .int .i64 wt, .int .i64 ru, .int .i64 ra, .bool false, .bool false, .bool false, .bool false] 69)
  have S5 := (box_at (((w.alloc (.cells #[.bool bg, .int .i64 ba, .bool sh, .bool on, .int .i64 rn, .int .i64 wt, .int .i64 ru, .int .i64 ra] 25)).alloc (.cells #[.int .i64 a, .int .i64 t2, .int .i64 t3, .int .i64 t4, .bool dr, .int .i64 ky, .bool wr, .int .i64 bad] 27)).alloc (.cells #[.bool false, .int .i64 0, .bool false, .bool false, .int .i64 0, .int .i64 0, .int .i64 0, .int .i64 0] 25)) #[.bool false, .bool false, .bool false, .bool false] 31 (g := g + 1 + 1 + 1) (by simp [hg])).alloc (.cells #[.bool bg, .int .i64 ba, .bool sh, .bool on, .int .i64 rn, .int .i64 wt, .int .i64 ru, .int .i64 ra, .bool false, .bool false, .bool false, .bool false] 69)
  have G5 := box_at ((((w.alloc (.cells #[.bool bg, .int .i64 ba, .bool sh, .bool on, .int .i64 rn, .int .i64 wt, .int .i64 ru, .int .i64 ra] 25)).alloc (.cells #[.int .i64 a, .int .i64 t2, .int .i64 t3, .int .i64 t4, .bool dr, .int .i64 ky, .bool wr, .int .i64 bad] 27)).alloc (.cells #[.bool false, .int .i64 0, .bool false, .bool false, .int .i64 0, .int .i64 0, .int .i64 0, .int .i64 0] 25)).alloc (.cells #[.bool false, .bool false, .bool false, .bool false] 31)) #[.bool bg, .int .i64 ba, .bool sh, .bool on, .int .i64 rn, .int .i64 wt, .int .i64 ru, .int .i64 ra, .bool false, .bool false, .bool false, .bool false] 69 (g := g + 1 + 1 + 1 + 1) (by simp [hg])
  have A5 : Below w.heap.size w (((((w.alloc (.cells #[.bool bg, .int .i64 ba, .bool sh, .bool on, .int .i64 rn, .int .i64 wt, .int .i64 ru, .int .i64 ra] 25)).alloc (.cells #[.int .i64 a, .int .i64 t2, .int .i64 t3, .int .i64 t4, .bool dr, .int .i64 ky, .bool wr, .int .i64 bad] 27)).alloc (.cells #[.bool false, .int .i64 0, .bool false, .bool false, .int .i64 0, .int .i64 0, .int .i64 0, .int .i64 0] 25)).alloc (.cells #[.bool false, .bool false, .bool false, .bool false] 31)).alloc (.cells #[.bool bg, .int .i64 ba, .bool sh, .bool on, .int .i64 rn, .int .i64 wt, .int .i64 ru, .int .i64 ra, .bool false, .bool false, .bool false, .bool false] 69)) := below_alloc_on (below_alloc_on (below_alloc_on (below_alloc_on (below_alloc_on A0 _) _) _) _) _
  generalize (((((w.alloc (.cells #[.bool bg, .int .i64 ba, .bool sh, .bool on, .int .i64 rn, .int .i64 wt, .int .i64 ru, .int .i64 ra] 25)).alloc (.cells #[.int .i64 a, .int .i64 t2, .int .i64 t3, .int .i64 t4, .bool dr, .int .i64 ky, .bool wr, .int .i64 bad] 27)).alloc (.cells #[.bool false, .int .i64 0, .bool false, .bool false, .int .i64 0, .int .i64 0, .int .i64 0, .int .i64 0] 25)).alloc (.cells #[.bool false, .bool false, .bool false, .bool false] 31)).alloc (.cells #[.bool bg, .int .i64 ba, .bool sh, .bool on, .int .i64 rn, .int .i64 wt, .int .i64 ru, .int .i64 ra, .bool false, .bool false, .bool false, .bool false] 69)) = w5 at *
  obtain ⟨x0, x1, x2, x3, x4, x5, x6, x7, xf, xl⟩ := R5.eight8
  go_wp2_with (fail)
  refine (HBG.out _ G5).mono ?_
  rintro e w6 ⟨⟨v6, rfl⟩, G6, O6⟩
  have R6 := R5.only O6 (by first | (simp; done) | (simp; omega) | omega)
  have E6 := E5.only O6 (by first | (simp; done) | (simp; omega) | omega)
  have S6 := S5.only O6 (by first | (simp; done) | (simp; omega) | omega)
  have A6 := below_only A5 O6 (by first | (rw [hg]; simp; done) | (rw [hg]; simp; omega) | omega)
  clear R5 E5 S5 A5 O6 x0 x1 x2 x3 x4 x5 x6 x7 xf xl
  obtain ⟨x0, x1, x2, x3, x4, x5, x6, x7, xf, xl⟩ := R6.eight8
  go_wp2_with (fail)
  refine (ey_shade (g + 1 + 1 + 1 + 1) true B0 sh on rn wt ru ra false false false false a _ G6 L0 SH B1 RU ST H1 H2 H3 H4 HST).mono ?_
  rintro e w7 ⟨⟨v7, rfl⟩, G7, O7⟩
  have R7 := R6.only O7 (by first | (simp; done) | (simp; omega) | omega)
  have E7 := E6.only O7 (by first | (simp; done) | (simp; omega) | omega)
  have S7 := S6.only O7 (by first | (simp; done) | (simp; omega) | omega)
  have A7 := below_only A6 O7 (by first | (rw [hg]; simp; done) | (rw [hg]; simp; omega) | omega)
  clear R6 E6 S6 A6 O7 x0 x1 x2 x3 x4 x5 x6 x7 xf xl
  obtain ⟨x0, x1, x2, x3, x4, x5, x6, x7, xf, xl⟩ := R7.eight8
  cases ON
  · have H6' := Lib.hid (show ∀ w, Calls Try.prog 62 #[.int .i64 wt, .bool false] w fun e w' => e = .returned (.tuple #[.int .i64 WT, .bool DR]) ∧ w = w' from H6.out)
    go_wp2_with (fail)
    refine (ey_count_false (g + 1 + 1 + 1 + 1) true B1 SH on rn wt RU ra false SH ST false _ G7 RN WT DR H5 H6').mono ?_
    rintro e w8 ⟨⟨v8, rfl⟩, G8, O8⟩
    have R8 := R7.only O8 (by first | (simp; done) | (simp; omega) | omega)
    have E8 := E7.only O8 (by first | (simp; done) | (simp; omega) | omega)
    have S8 := S7.only O8 (by first | (simp; done) | (simp; omega) | omega)
    have A8 := below_only A7 O8 (by first | (rw [hg]; simp; done) | (rw [hg]; simp; omega) | omega)
    clear R7 E7 S7 A7 O8 x0 x1 x2 x3 x4 x5 x6 x7 xf xl
    obtain ⟨x0, x1, x2, x3, x4, x5, x6, x7, xf, xl⟩ := R8.eight8
    go_wp2_with (fail)
    refine (ey_trust (g + 1 + 1 + 1 + 1) true B1 SH false RN WT RU ra DR SH ST false a t2 t3 t4 dr ky wr bad _ G8 RA FA H7 H8).mono ?_
    rintro e w9 ⟨⟨v9, rfl⟩, G9, O9⟩
    have R9 := R8.only O9 (by first | (simp; done) | (simp; omega) | omega)
    have E9 := E8.only O9 (by first | (simp; done) | (simp; omega) | omega)
    have S9 := S8.only O9 (by first | (simp; done) | (simp; omega) | omega)
    have A9 := below_only A8 O9 (by first | (rw [hg]; simp; done) | (rw [hg]; simp; omega) | omega)
    clear R8 E8 S8 A8 O9 x0 x1 x2 x3 x4 x5 x6 x7 xf xl
    obtain ⟨x0, x1, x2, x3, x4, x5, x6, x7, xf, xl⟩ := R9.eight8
    obtain ⟨y0, y1, y2, y3, y4, y5, y6, y7, y8, y9, y10, y11, yf, yl⟩ := G9.twelve
    obtain ⟨e0, e1, e2, e3, e4, e5, e6, e7, ef, el⟩ := E9.eight8
    obtain ⟨s0, s1, s2, s3, sf, sl⟩ := S9.four
    go_wp2
    go_region
    have E10 : Box ((((((((((((w9.setCell ⟨g + 1 + 1, 0, none⟩ (.bool true)).setCell ⟨g + 1 + 1, 1, none⟩ (.int .i64 B1)).setCell ⟨g + 1 + 1, 2, none⟩ (.bool SH)).setCell ⟨g + 1 + 1, 3, none⟩ (.bool false)).setCell ⟨g + 1 + 1, 4, none⟩ (.int .i64 RN)).setCell ⟨g + 1 + 1, 5, none⟩ (.int .i64 WT)).setCell ⟨g + 1 + 1, 6, none⟩ (.int .i64 RU)).setCell ⟨g + 1 + 1, 7, none⟩ (.int .i64 RA)).setCell ⟨g + 1 + 1 + 1, 0, none⟩ (.bool DR)).setCell ⟨g + 1 + 1 + 1, 1, none⟩ (.bool SH)).setCell ⟨g + 1 + 1 + 1, 2, none⟩ (.bool ST)).setCell ⟨g + 1 + 1 + 1, 3, none⟩ (.bool FA)).drew (g + 1 + 1) #[.bool true, .int .i64 B1, .bool SH, .bool false, .int .i64 RN, .int .i64 WT, .int .i64 RU, .int .i64 RA] := ((((((((((((E9.set (i := 0) (by simp) (.bool true)).set (i := 1) (by simp) (.int .i64 B1)).set (i := 2) (by simp) (.bool SH)).set (i := 3) (by simp) (.bool false)).set (i := 4) (by simp) (.int .i64 RN)).set (i := 5) (by simp) (.int .i64 WT)).set (i := 6) (by simp) (.int .i64 RU)).set (i := 7) (by simp) (.int .i64 RA)).far (p := ⟨g + 1 + 1 + 1, 0, none⟩) (by first | (simp; done) | (simp; omega) | omega) (.bool DR)).far (p := ⟨g + 1 + 1 + 1, 1, none⟩) (by first | (simp; done) | (simp; omega) | omega) (.bool SH)).far (p := ⟨g + 1 + 1 + 1, 2, none⟩) (by first | (simp; done) | (simp; omega) | omega) (.bool ST)).far (p := ⟨g + 1 + 1 + 1, 3, none⟩) (by first | (simp; done) | (simp; omega) | omega) (.bool FA)).drew
    have S10 : Box ((((((((((((w9.setCell ⟨g + 1 + 1, 0, none⟩ (.bool true)).setCell ⟨g + 1 + 1, 1, none⟩ (.int .i64 B1)).setCell ⟨g + 1 + 1, 2, none⟩ (.bool SH)).setCell ⟨g + 1 + 1, 3, none⟩ (.bool false)).setCell ⟨g + 1 + 1, 4, none⟩ (.int .i64 RN)).setCell ⟨g + 1 + 1, 5, none⟩ (.int .i64 WT)).setCell ⟨g + 1 + 1, 6, none⟩ (.int .i64 RU)).setCell ⟨g + 1 + 1, 7, none⟩ (.int .i64 RA)).setCell ⟨g + 1 + 1 + 1, 0, none⟩ (.bool DR)).setCell ⟨g + 1 + 1 + 1, 1, none⟩ (.bool SH)).setCell ⟨g + 1 + 1 + 1, 2, none⟩ (.bool ST)).setCell ⟨g + 1 + 1 + 1, 3, none⟩ (.bool FA)).drew (g + 1 + 1 + 1) #[.bool DR, .bool SH, .bool ST, .bool FA] := ((((((((((((S9.far (p := ⟨g + 1 + 1, 0, none⟩) (by first | (simp; done) | (simp; omega) | omega) (.bool true)).far (p := ⟨g + 1 + 1, 1, none⟩) (by first | (simp; done) | (simp; omega) | omega) (.int .i64 B1)).far (p := ⟨g + 1 + 1, 2, none⟩) (by first | (simp; done) | (simp; omega) | omega) (.bool SH)).far (p := ⟨g + 1 + 1, 3, none⟩) (by first | (simp; done) | (simp; omega) | omega) (.bool false)).far (p := ⟨g + 1 + 1, 4, none⟩) (by first | (simp; done) | (simp; omega) | omega) (.int .i64 RN)).far (p := ⟨g + 1 + 1, 5, none⟩) (by first | (simp; done) | (simp; omega) | omega) (.int .i64 WT)).far (p := ⟨g + 1 + 1, 6, none⟩) (by first | (simp; done) | (simp; omega) | omega) (.int .i64 RU)).far (p := ⟨g + 1 + 1, 7, none⟩) (by first | (simp; done) | (simp; omega) | omega) (.int .i64 RA)).set (i := 0) (by simp) (.bool DR)).set (i := 1) (by simp) (.bool SH)).set (i := 2) (by simp) (.bool ST)).set (i := 3) (by simp) (.bool FA)).drew
    have A10 : Below w.heap.size w ((((((((((((w9.setCell ⟨g + 1 + 1, 0, none⟩ (.bool true)).setCell ⟨g + 1 + 1, 1, none⟩ (.int .i64 B1)).setCell ⟨g + 1 + 1, 2, none⟩ (.bool SH)).setCell ⟨g + 1 + 1, 3, none⟩ (.bool false)).setCell ⟨g + 1 + 1, 4, none⟩ (.int .i64 RN)).setCell ⟨g + 1 + 1, 5, none⟩ (.int .i64 WT)).setCell ⟨g + 1 + 1, 6, none⟩ (.int .i64 RU)).setCell ⟨g + 1 + 1, 7, none⟩ (.int .i64 RA)).setCell ⟨g + 1 + 1 + 1, 0, none⟩ (.bool DR)).setCell ⟨g + 1 + 1 + 1, 1, none⟩ (.bool SH)).setCell ⟨g + 1 + 1 + 1, 2, none⟩ (.bool ST)).setCell ⟨g + 1 + 1 + 1, 3, none⟩ (.bool FA)).drew := below_drewN (below_set_on (below_set_on (below_set_on (below_set_on (below_set_on (below_set_on (below_set_on (below_set_on (below_set_on (below_set_on (below_set_on (below_set_on A9 (p := ⟨g + 1 + 1, 0, none⟩) (by first | (rw [hg]; simp; done) | (rw [hg]; simp; omega) | omega) (.bool true)) (p := ⟨g + 1 + 1, 1, none⟩) (by first | (rw [hg]; simp; done) | (rw [hg]; simp; omega) | omega) (.int .i64 B1)) (p := ⟨g + 1 + 1, 2, none⟩) (by first | (rw [hg]; simp; done) | (rw [hg]; simp; omega) | omega) (.bool SH)) (p := ⟨g + 1 + 1, 3, none⟩) (by first | (rw [hg]; simp; done) | (rw [hg]; simp; omega) | omega) (.bool false)) (p := ⟨g + 1 + 1, 4, none⟩) (by first | (rw [hg]; simp; done) | (rw [hg]; simp; omega) | omega) (.int .i64 RN)) (p := ⟨g + 1 + 1, 5, none⟩) (by first | (rw [hg]; simp; done) | (rw [hg]; simp; omega) | omega) (.int .i64 WT)) (p := ⟨g + 1 + 1, 6, none⟩) (by first | (rw [hg]; simp; done) | (rw [hg]; simp; omega) | omega) (.int .i64 RU)) (p := ⟨g + 1 + 1, 7, none⟩) (by first | (rw [hg]; simp; done) | (rw [hg]; simp; omega) | omega) (.int .i64 RA)) (p := ⟨g + 1 + 1 + 1, 0, none⟩) (by first | (rw [hg]; simp; done) | (rw [hg]; simp; omega) | omega) (.bool DR)) (p := ⟨g + 1 + 1 + 1, 1, none⟩) (by first | (rw [hg]; simp; done) | (rw [hg]; simp; omega) | omega) (.bool SH)) (p := ⟨g + 1 + 1 + 1, 2, none⟩) (by first | (rw [hg]; simp; done) | (rw [hg]; simp; omega) | omega) (.bool ST)) (p := ⟨g + 1 + 1 + 1, 3, none⟩) (by first | (rw [hg]; simp; done) | (rw [hg]; simp; omega) | omega) (.bool FA)) 1
    generalize ((((((((((((w9.setCell ⟨g + 1 + 1, 0, none⟩ (.bool true)).setCell ⟨g + 1 + 1, 1, none⟩ (.int .i64 B1)).setCell ⟨g + 1 + 1, 2, none⟩ (.bool SH)).setCell ⟨g + 1 + 1, 3, none⟩ (.bool false)).setCell ⟨g + 1 + 1, 4, none⟩ (.int .i64 RN)).setCell ⟨g + 1 + 1, 5, none⟩ (.int .i64 WT)).setCell ⟨g + 1 + 1, 6, none⟩ (.int .i64 RU)).setCell ⟨g + 1 + 1, 7, none⟩ (.int .i64 RA)).setCell ⟨g + 1 + 1 + 1, 0, none⟩ (.bool DR)).setCell ⟨g + 1 + 1 + 1, 1, none⟩ (.bool SH)).setCell ⟨g + 1 + 1 + 1, 2, none⟩ (.bool ST)).setCell ⟨g + 1 + 1 + 1, 3, none⟩ (.bool FA)).drew = w10 at *
    clear e0 e1 e2 e3 e4 e5 e6 e7 ef el s0 s1 s2 s3 sf sl E9 S9 G9 R9 A9 y0 y1 y2 y3 y4 y5 y6 y7 y8 y9 y10 y11 yf yl x0 x1 x2 x3 x4 x5 x6 x7 xf xl
    obtain ⟨e0, e1, e2, e3, e4, e5, e6, e7, ef, el⟩ := E10.eight8
    obtain ⟨s0, s1, s2, s3, sf, sl⟩ := S10.four
    go_wp2
    exact bodyPost_ret (v := .tuple #[.agg #[.bool true, .int .i64 B1, .bool SH, .bool false, .int .i64 RN, .int .i64 WT, .int .i64 RU, .int .i64 RA], .agg #[.bool DR, .bool SH, .bool ST, .bool FA]]) (by simp [results, Try.results13, go_sem, e0, e1, e2, e3, e4, e5, e6, e7, s0, s1, s2, s3]) rfl ⟨rfl, A10⟩
  · have H6' := Lib.hid (show ∀ w, Calls Try.prog 62 #[.int .i64 wt, .bool (!on)] w fun e w' => e = .returned (.tuple #[.int .i64 WT, .bool DR]) ∧ w = w' from H6.out)
    go_wp2_with (fail)
    refine (ey_count_true (g + 1 + 1 + 1 + 1) true B1 SH on rn wt RU ra false SH ST false _ G7 RN WT DR H5 H6').mono ?_
    rintro e w8 ⟨⟨v8, rfl⟩, G8, O8⟩
    have R8 := R7.only O8 (by first | (simp; done) | (simp; omega) | omega)
    have E8 := E7.only O8 (by first | (simp; done) | (simp; omega) | omega)
    have S8 := S7.only O8 (by first | (simp; done) | (simp; omega) | omega)
    have A8 := below_only A7 O8 (by first | (rw [hg]; simp; done) | (rw [hg]; simp; omega) | omega)
    clear R7 E7 S7 A7 O8 x0 x1 x2 x3 x4 x5 x6 x7 xf xl
    obtain ⟨x0, x1, x2, x3, x4, x5, x6, x7, xf, xl⟩ := R8.eight8
    go_wp2_with (fail)
    refine (ey_trust (g + 1 + 1 + 1 + 1) true B1 SH true RN WT RU ra DR SH ST false a t2 t3 t4 dr ky wr bad _ G8 RA FA H7 H8).mono ?_
    rintro e w9 ⟨⟨v9, rfl⟩, G9, O9⟩
    have R9 := R8.only O9 (by first | (simp; done) | (simp; omega) | omega)
    have E9 := E8.only O9 (by first | (simp; done) | (simp; omega) | omega)
    have S9 := S8.only O9 (by first | (simp; done) | (simp; omega) | omega)
    have A9 := below_only A8 O9 (by first | (rw [hg]; simp; done) | (rw [hg]; simp; omega) | omega)
    clear R8 E8 S8 A8 O9 x0 x1 x2 x3 x4 x5 x6 x7 xf xl
    obtain ⟨x0, x1, x2, x3, x4, x5, x6, x7, xf, xl⟩ := R9.eight8
    obtain ⟨y0, y1, y2, y3, y4, y5, y6, y7, y8, y9, y10, y11, yf, yl⟩ := G9.twelve
    obtain ⟨e0, e1, e2, e3, e4, e5, e6, e7, ef, el⟩ := E9.eight8
    obtain ⟨s0, s1, s2, s3, sf, sl⟩ := S9.four
    go_wp2
    go_region
    have E10 : Box ((((((((((((w9.setCell ⟨g + 1 + 1, 0, none⟩ (.bool true)).setCell ⟨g + 1 + 1, 1, none⟩ (.int .i64 B1)).setCell ⟨g + 1 + 1, 2, none⟩ (.bool SH)).setCell ⟨g + 1 + 1, 3, none⟩ (.bool true)).setCell ⟨g + 1 + 1, 4, none⟩ (.int .i64 RN)).setCell ⟨g + 1 + 1, 5, none⟩ (.int .i64 WT)).setCell ⟨g + 1 + 1, 6, none⟩ (.int .i64 RU)).setCell ⟨g + 1 + 1, 7, none⟩ (.int .i64 RA)).setCell ⟨g + 1 + 1 + 1, 0, none⟩ (.bool DR)).setCell ⟨g + 1 + 1 + 1, 1, none⟩ (.bool SH)).setCell ⟨g + 1 + 1 + 1, 2, none⟩ (.bool ST)).setCell ⟨g + 1 + 1 + 1, 3, none⟩ (.bool FA)).drew (g + 1 + 1) #[.bool true, .int .i64 B1, .bool SH, .bool true, .int .i64 RN, .int .i64 WT, .int .i64 RU, .int .i64 RA] := ((((((((((((E9.set (i := 0) (by simp) (.bool true)).set (i := 1) (by simp) (.int .i64 B1)).set (i := 2) (by simp) (.bool SH)).set (i := 3) (by simp) (.bool true)).set (i := 4) (by simp) (.int .i64 RN)).set (i := 5) (by simp) (.int .i64 WT)).set (i := 6) (by simp) (.int .i64 RU)).set (i := 7) (by simp) (.int .i64 RA)).far (p := ⟨g + 1 + 1 + 1, 0, none⟩) (by first | (simp; done) | (simp; omega) | omega) (.bool DR)).far (p := ⟨g + 1 + 1 + 1, 1, none⟩) (by first | (simp; done) | (simp; omega) | omega) (.bool SH)).far (p := ⟨g + 1 + 1 + 1, 2, none⟩) (by first | (simp; done) | (simp; omega) | omega) (.bool ST)).far (p := ⟨g + 1 + 1 + 1, 3, none⟩) (by first | (simp; done) | (simp; omega) | omega) (.bool FA)).drew
    have S10 : Box ((((((((((((w9.setCell ⟨g + 1 + 1, 0, none⟩ (.bool true)).setCell ⟨g + 1 + 1, 1, none⟩ (.int .i64 B1)).setCell ⟨g + 1 + 1, 2, none⟩ (.bool SH)).setCell ⟨g + 1 + 1, 3, none⟩ (.bool true)).setCell ⟨g + 1 + 1, 4, none⟩ (.int .i64 RN)).setCell ⟨g + 1 + 1, 5, none⟩ (.int .i64 WT)).setCell ⟨g + 1 + 1, 6, none⟩ (.int .i64 RU)).setCell ⟨g + 1 + 1, 7, none⟩ (.int .i64 RA)).setCell ⟨g + 1 + 1 + 1, 0, none⟩ (.bool DR)).setCell ⟨g + 1 + 1 + 1, 1, none⟩ (.bool SH)).setCell ⟨g + 1 + 1 + 1, 2, none⟩ (.bool ST)).setCell ⟨g + 1 + 1 + 1, 3, none⟩ (.bool FA)).drew (g + 1 + 1 + 1) #[.bool DR, .bool SH, .bool ST, .bool FA] := ((((((((((((S9.far (p := ⟨g + 1 + 1, 0, none⟩) (by first | (simp; done) | (simp; omega) | omega) (.bool true)).far (p := ⟨g + 1 + 1, 1, none⟩) (by first | (simp; done) | (simp; omega) | omega) (.int .i64 B1)).far (p := ⟨g + 1 + 1, 2, none⟩) (by first | (simp; done) | (simp; omega) | omega) (.bool SH)).far (p := ⟨g + 1 + 1, 3, none⟩) (by first | (simp; done) | (simp; omega) | omega) (.bool true)).far (p := ⟨g + 1 + 1, 4, none⟩) (by first | (simp; done) | (simp; omega) | omega) (.int .i64 RN)).far (p := ⟨g + 1 + 1, 5, none⟩) (by first | (simp; done) | (simp; omega) | omega) (.int .i64 WT)).far (p := ⟨g + 1 + 1, 6, none⟩) (by first | (simp; done) | (simp; omega) | omega) (.int .i64 RU)).far (p := ⟨g + 1 + 1, 7, none⟩) (by first | (simp; done) | (simp; omega) | omega) (.int .i64 RA)).set (i := 0) (by simp) (.bool DR)).set (i := 1) (by simp) (.bool SH)).set (i := 2) (by simp) (.bool ST)).set (i := 3) (by simp) (.bool FA)).drew
    have A10 : Below w.heap.size w ((((((((((((w9.setCell ⟨g + 1 + 1, 0, none⟩ (.bool true)).setCell ⟨g + 1 + 1, 1, none⟩ (.int .i64 B1)).setCell ⟨g + 1 + 1, 2, none⟩ (.bool SH)).setCell ⟨g + 1 + 1, 3, none⟩ (.bool true)).setCell ⟨g + 1 + 1, 4, none⟩ (.int .i64 RN)).setCell ⟨g + 1 + 1, 5, none⟩ (.int .i64 WT)).setCell ⟨g + 1 + 1, 6, none⟩ (.int .i64 RU)).setCell ⟨g + 1 + 1, 7, none⟩ (.int .i64 RA)).setCell ⟨g + 1 + 1 + 1, 0, none⟩ (.bool DR)).setCell ⟨g + 1 + 1 + 1, 1, none⟩ (.bool SH)).setCell ⟨g + 1 + 1 + 1, 2, none⟩ (.bool ST)).setCell ⟨g + 1 + 1 + 1, 3, none⟩ (.bool FA)).drew := below_drewN (below_set_on (below_set_on (below_set_on (below_set_on (below_set_on (below_set_on (below_set_on (below_set_on (below_set_on (below_set_on (below_set_on (below_set_on A9 (p := ⟨g + 1 + 1, 0, none⟩) (by first | (rw [hg]; simp; done) | (rw [hg]; simp; omega) | omega) (.bool true)) (p := ⟨g + 1 + 1, 1, none⟩) (by first | (rw [hg]; simp; done) | (rw [hg]; simp; omega) | omega) (.int .i64 B1)) (p := ⟨g + 1 + 1, 2, none⟩) (by first | (rw [hg]; simp; done) | (rw [hg]; simp; omega) | omega) (.bool SH)) (p := ⟨g + 1 + 1, 3, none⟩) (by first | (rw [hg]; simp; done) | (rw [hg]; simp; omega) | omega) (.bool true)) (p := ⟨g + 1 + 1, 4, none⟩) (by first | (rw [hg]; simp; done) | (rw [hg]; simp; omega) | omega) (.int .i64 RN)) (p := ⟨g + 1 + 1, 5, none⟩) (by first | (rw [hg]; simp; done) | (rw [hg]; simp; omega) | omega) (.int .i64 WT)) (p := ⟨g + 1 + 1, 6, none⟩) (by first | (rw [hg]; simp; done) | (rw [hg]; simp; omega) | omega) (.int .i64 RU)) (p := ⟨g + 1 + 1, 7, none⟩) (by first | (rw [hg]; simp; done) | (rw [hg]; simp; omega) | omega) (.int .i64 RA)) (p := ⟨g + 1 + 1 + 1, 0, none⟩) (by first | (rw [hg]; simp; done) | (rw [hg]; simp; omega) | omega) (.bool DR)) (p := ⟨g + 1 + 1 + 1, 1, none⟩) (by first | (rw [hg]; simp; done) | (rw [hg]; simp; omega) | omega) (.bool SH)) (p := ⟨g + 1 + 1 + 1, 2, none⟩) (by first | (rw [hg]; simp; done) | (rw [hg]; simp; omega) | omega) (.bool ST)) (p := ⟨g + 1 + 1 + 1, 3, none⟩) (by first | (rw [hg]; simp; done) | (rw [hg]; simp; omega) | omega) (.bool FA)) 1
    generalize ((((((((((((w9.setCell ⟨g + 1 + 1, 0, none⟩ (.bool true)).setCell ⟨g + 1 + 1, 1, none⟩ (.int .i64 B1)).setCell ⟨g + 1 + 1, 2, none⟩ (.bool SH)).setCell ⟨g + 1 + 1, 3, none⟩ (.bool true)).setCell ⟨g + 1 + 1, 4, none⟩ (.int .i64 RN)).setCell ⟨g + 1 + 1, 5, none⟩ (.int .i64 WT)).setCell ⟨g + 1 + 1, 6, none⟩ (.int .i64 RU)).setCell ⟨g + 1 + 1, 7, none⟩ (.int .i64 RA)).setCell ⟨g + 1 + 1 + 1, 0, none⟩ (.bool DR)).setCell ⟨g + 1 + 1 + 1, 1, none⟩ (.bool SH)).setCell ⟨g + 1 + 1 + 1, 2, none⟩ (.bool ST)).setCell ⟨g + 1 + 1 + 1, 3, none⟩ (.bool FA)).drew = w10 at *
    clear e0 e1 e2 e3 e4 e5 e6 e7 ef el s0 s1 s2 s3 sf sl E9 S9 G9 R9 A9 y0 y1 y2 y3 y4 y5 y6 y7 y8 y9 y10 y11 yf yl x0 x1 x2 x3 x4 x5 x6 x7 xf xl
    obtain ⟨e0, e1, e2, e3, e4, e5, e6, e7, ef, el⟩ := E10.eight8
    obtain ⟨s0, s1, s2, s3, sf, sl⟩ := S10.four
    go_wp2
    exact bodyPost_ret (v := .tuple #[.agg #[.bool true, .int .i64 B1, .bool SH, .bool true, .int .i64 RN, .int .i64 WT, .int .i64 RU, .int .i64 RA], .agg #[.bool DR, .bool SH, .bool ST, .bool FA]]) (by simp [results, Try.results13, go_sem, e0, e1, e2, e3, e4, e5, e6, e7, s0, s1, s2, s3]) rfl ⟨rfl, A10⟩
end Go.Proofs.Ytkddledajffdbaa
