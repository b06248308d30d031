/- Contracts of package journal: what is got of bytes, and the newest of two slots. -/
import Derived.Test.YthibaehiponfnaaJour
namespace Go.Proofs.Ythibaehiponfnaa
open Go.RowKit
set_option linter.unusedVariables false
set_option linter.unusedSimpArgs false
set_option maxRecDepth 100000
attribute [local go_sem] cell_set_ite Near.cell Near.frozen

set_option maxHeartbeats 4000000 in
theorem j_entry (B : Option Addr) (c : Nat) (x0 x1 x2 x3 x4 x5 x6 x7 : Int) (w : World) (h : Ints w B 8 [x0, x1, x2, x3, x4, x5, x6, x7]) :
    Calls Try.prog 22 #[.slice B 8 c] w fun e w' => e = .returned (.agg #[.int .i64 x0, .int .i64 x1, .int .i64 x2, .int .i64 x3, .int .i64 x4, .int .i64 x5, .int .i64 x6, .int .i64 x7]) ∧ Below w.heap.size w w' := by
  have A : Below w.heap.size w w := Below.refl _ _
  obtain ⟨b, off, rfl, hlt, hc⟩ := h.2 (by omega)
  have c0 : w.cell? ⟨b, off, none⟩ = some (.int .i64 x0) := hc 0 (by omega)
  have c1 : w.cell? ⟨b, off + 1, none⟩ = some (.int .i64 x1) := hc 1 (by omega)
  have c2 : w.cell? ⟨b, off + 2, none⟩ = some (.int .i64 x2) := hc 2 (by omega)
  have c3 : w.cell? ⟨b, off + 3, none⟩ = some (.int .i64 x3) := hc 3 (by omega)
  have c4 : w.cell? ⟨b, off + 4, none⟩ = some (.int .i64 x4) := hc 4 (by omega)
  have c5 : w.cell? ⟨b, off + 5, none⟩ = some (.int .i64 x5) := hc 5 (by omega)
  have c6 : w.cell? ⟨b, off + 6, none⟩ = some (.int .i64 x6) := hc 6 (by omega)
  have c7 : w.cell? ⟨b, off + 7, none⟩ = some (.int .i64 x7) := hc 7 (by omega)
  have hlt2 : b < (w.alloc (.cells #[.int .i64 0, .int .i64 0, .int .i64 0, .int .i64 0, .int .i64 0, .int .i64 0, .int .i64 0, .int .i64 0] 27)).heap.size := by simp; omega
  have R0 := box_new w #[.int .i64 0, .int .i64 0, .int .i64 0, .int .i64 0, .int .i64 0, .int .i64 0, .int .i64 0, .int .i64 0] 27
  clear hc h
  go_enter Try.func22, Try.ntmps22
  go_wp2
  refine wp_region_calm_tail 27 (by kernel_rfl) (by kernel_rfl) ?_
  simp only [List.take_succ_cons, List.take_zero, List.drop_succ_cons, List.drop_zero]
  repeat (go_big_quiet_step ((fail)))
  refine wpQuiet_nil ?_
  intro _ hw'
  obtain ⟨u, rfl⟩ := hw'
  have R := R0.near u
  obtain ⟨lR, cR, fR⟩ := id R
  have AN := u.up (below_alloc_on A (.cells #[.int .i64 0, .int .i64 0, .int .i64 0, .int .i64 0, .int .i64 0, .int .i64 0, .int .i64 0, .int .i64 0] 27))
  go_wp2
  refine bodyPost_ret (v := .agg #[.int .i64 x0, .int .i64 x1, .int .i64 x2, .int .i64 x3, .int .i64 x4, .int .i64 x5, .int .i64 x6, .int .i64 x7]) (by simp [results, Try.results22, go_sem, cR]) rfl ⟨rfl, by (repeat (first | (with_reducible exact Below.refl _ _) | (with_reducible assumption) | (with_reducible refine Near.up _ ?_) | (with_reducible refine Below.drew ?_) | (with_reducible refine below_alloc_on ?_ _) | (with_reducible refine below_set_on ?_ (by first | (simp; done) | (simp; omega) | omega) _)))⟩

theorem gt_of {s : ByteArray} {y0 y1 y2 y3 y4 y5 y6 y7 : Int} (ho : openB s = true) (hu : upB (toldB s).data.toList wsL = true) (hy : upV (toldB s).data.toList wsL = [y0, y1, y2, y3, y4, y5, y6, y7]) :
    gtB s = enB y0 y1 y2 y3 y4 y5 y6 y7 ∧ (enB y0 y1 y2 y3 y4 y5 y6 y7 = true → gtV s 0 = y0 ∧ gtV s 1 = y1 ∧ gtV s 2 = y2 ∧ gtV s 3 = y3 ∧ gtV s 4 = y4 ∧ gtV s 5 = y5 ∧ gtV s 6 = y6 ∧ gtV s 7 = y7) := by
  have hL : gtL s = [y0, y1, y2, y3, y4, y5, y6, y7] := hy
  have hB : gtB s = enB y0 y1 y2 y3 y4 y5 y6 y7 := by unfold gtB; rw [ho, hu, hL, Bool.true_and, Bool.true_and]; rfl
  refine ⟨hB, fun h => ?_⟩
  unfold gtV
  rw [hB, h, hL]
  exact ⟨rfl, rfl, rfl, rfl, rfl, rfl, rfl, rfl⟩

set_option maxHeartbeats 8000000 in
theorem j_get (s : ByteArray) (w : World) (hs : s.size ≤ 1000000) :
    Calls Try.prog 9 #[.string s] w fun e w' => e = .returned (.tuple #[.agg #[.int .i64 (gtV s 0), .int .i64 (gtV s 1), .int .i64 (gtV s 2), .int .i64 (gtV s 3), .int .i64 (gtV s 4), .int .i64 (gtV s 5), .int .i64 (gtV s 6), .int .i64 (gtV s 7)], .bool (gtB s)]) ∧ Below w.heap.size w w' := by
  have A : Below w.heap.size w w := Below.refl _ _
  have HO := fun w => crc_open s w (by omega)
  have ht : (toldB s).size ≤ 9223372036854775800 := by
    unfold toldB
    split
    · unfold insideB; rw [ByteArray.size_extract]; omega
    · exact Nat.zero_le _
  have HU := fun w B d (h : Ints w B 8 wsL) => code_unpack (toldB s) B 8 d wsL w h ht (by omega)
  cases ho : openB s
  · have hg : gtB s = false := by unfold gtB; rw [ho]; rfl
    simp only [hg, gt_none hg]
    rw [ho] at HO
    generalize toldB s = t at *
    have HO := Lib.hid HO
    clear ho hg HU ht
    go_enter Try.func9, Try.ntmps9
    go_wp2_with (fail)
    refine (HO.out _).mono ?_
    rintro e w1 ⟨rfl, hb⟩
    replace A : Below w.heap.size w w1 := by (refine below_call ?_ hb; (repeat (first | (with_reducible exact Below.refl _ _) | (with_reducible assumption) | (with_reducible refine Near.up _ ?_) | (with_reducible refine Below.drew ?_) | (with_reducible refine below_alloc_on ?_ _) | (with_reducible refine below_set_on ?_ (by first | (simp; done) | (simp; omega) | omega) _))))
    replace R := Box.below (g := w.heap.size) (by (repeat (first | (with_reducible assumption) | (with_reducible exact box_new _ _ _) | ((with_reducible apply box_at); (first | (with_reducible rfl) | (simp <;> omega))) | (with_reducible apply Box.drew) | (with_reducible apply Box.drewN) | (with_reducible apply Box.near) | (with_reducible apply Box.alloc) | ((with_reducible apply box_far); (first | assumption | omega | (simp <;> omega))) | ((with_reducible apply Box.one_set); (with_reducible assumption)) | ((with_reducible apply Box.two_set); (with_reducible assumption)) | ((with_reducible apply Box.three_set); (with_reducible assumption)) | (with_reducible apply Box.set) | (simp only [List.size_toArray, List.length_cons, List.length_nil, Array.size_setIfInBounds] <;> omega)))) hb
    (try simp only [List.setIfInBounds_toArray, List.set_cons_zero, List.set_cons_succ] at R)
    (try clear cR fR)
    clear hb
    have z_w1 : w.heap.size ≤ w1.heap.size := A.size
    obtain ⟨lR_w1, cR, fR⟩ := id R
    go_wp2
    refine bodyPost_ret (v := .tuple #[.agg #[.int .i64 0, .int .i64 0, .int .i64 0, .int .i64 0, .int .i64 0, .int .i64 0, .int .i64 0, .int .i64 0], .bool false]) (by simp [results, Try.results9, go_sem, cR]) rfl ⟨rfl, by (repeat (first | (with_reducible exact Below.refl _ _) | (with_reducible assumption) | (with_reducible refine Near.up _ ?_) | (with_reducible refine Below.drew ?_) | (with_reducible refine below_alloc_on ?_ _) | (with_reducible refine below_set_on ?_ (by first | (simp; done) | (simp; omega) | omega) _)))⟩
  · rw [ho] at HO
    cases hu : upB (toldB s).data.toList wsL
    · have hg : gtB s = false := by unfold gtB; rw [ho, hu]; rfl
      simp only [hg, gt_none hg]
      rw [hu, up_none hu] at HU
      generalize toldB s = t at *
      have HO := Lib.hid HO
      have HU := Lib.hid HU
      clear ho hg hu ht
      go_enter Try.func9, Try.ntmps9
      go_wp2_with (fail)
      refine (HO.out _).mono ?_
      rintro e w1 ⟨rfl, hb⟩
      replace A : Below w.heap.size w w1 := by (refine below_call ?_ hb; (repeat (first | (with_reducible exact Below.refl _ _) | (with_reducible assumption) | (with_reducible refine Near.up _ ?_) | (with_reducible refine Below.drew ?_) | (with_reducible refine below_alloc_on ?_ _) | (with_reducible refine below_set_on ?_ (by first | (simp; done) | (simp; omega) | omega) _))))
      replace R := Box.below (g := w.heap.size) (by (repeat (first | (with_reducible assumption) | (with_reducible exact box_new _ _ _) | ((with_reducible apply box_at); (first | (with_reducible rfl) | (simp <;> omega))) | (with_reducible apply Box.drew) | (with_reducible apply Box.drewN) | (with_reducible apply Box.near) | (with_reducible apply Box.alloc) | ((with_reducible apply box_far); (first | assumption | omega | (simp <;> omega))) | ((with_reducible apply Box.one_set); (with_reducible assumption)) | ((with_reducible apply Box.two_set); (with_reducible assumption)) | ((with_reducible apply Box.three_set); (with_reducible assumption)) | (with_reducible apply Box.set) | (simp only [List.size_toArray, List.length_cons, List.length_nil, Array.size_setIfInBounds] <;> omega)))) hb
      (try simp only [List.setIfInBounds_toArray, List.set_cons_zero, List.set_cons_succ] at R)
      (try clear cR fR)
      clear hb
      have z_w1 : w.heap.size ≤ w1.heap.size := A.size
      obtain ⟨lR_w1, cR, fR⟩ := id R
      go_wp2_with (fail)
      refine (j_widths _).mono ?_
      rintro e w2 ⟨B2, c2, rfl, hc2, hi2, hb⟩
      replace A := below_call A hb
      replace R := R.below hb
      clear hb lR_w1 cR fR
      obtain ⟨lR_w2, cR, fR⟩ := id R
      go_wp2_with (fail)
      refine (HU.out _ _ _ hi2).mono ?_
      rintro e w3 ⟨B3, c3, rfl, hc3, hi3, hb⟩
      replace A := below_call A hb
      replace R := R.below hb
      clear hb lR_w2 cR fR
      obtain ⟨lR_w3, cR, fR⟩ := id R
      go_wp2
      refine bodyPost_ret (v := .tuple #[.agg #[.int .i64 0, .int .i64 0, .int .i64 0, .int .i64 0, .int .i64 0, .int .i64 0, .int .i64 0, .int .i64 0], .bool false]) (by simp [results, Try.results9, go_sem, cR]) rfl ⟨rfl, by (repeat (first | (with_reducible exact Below.refl _ _) | (with_reducible assumption) | (with_reducible refine Near.up _ ?_) | (with_reducible refine Below.drew ?_) | (with_reducible refine below_alloc_on ?_ _) | (with_reducible refine below_set_on ?_ (by first | (simp; done) | (simp; omega) | omega) _)))⟩
    · obtain ⟨y0, y1, y2, y3, y4, y5, y6, y7, hy⟩ : ∃ y0 y1 y2 y3 y4 y5 y6 y7, upV (toldB s).data.toList wsL = [y0, y1, y2, y3, y4, y5, y6, y7] := ⟨_, _, _, _, _, _, _, _, eight (by rw [(back_up hu).2.2.1]; rfl)⟩
      obtain ⟨hB, hV⟩ := gt_of ho hu hy
      rw [hB]
      rw [hu, hy] at HU
      have HR := Lib.hid (fun w => j_right y0 y1 y2 y3 y4 y5 y6 y7 w)
      generalize toldB s = t at *
      have HO := Lib.hid HO
      have HU := Lib.hid HU
      cases hr : enB y0 y1 y2 y3 y4 y5 y6 y7
      · have hg : gtB s = false := hB.trans hr
        simp only [gt_none hg]
        rw [hr] at HR
        clear ho hu ht hy hB hV hr hg
        go_enter Try.func9, Try.ntmps9
        go_wp2_with (fail)
        refine (HO.out _).mono ?_
        rintro e w1 ⟨rfl, hb⟩
        replace A : Below w.heap.size w w1 := by (refine below_call ?_ hb; (repeat (first | (with_reducible exact Below.refl _ _) | (with_reducible assumption) | (with_reducible refine Near.up _ ?_) | (with_reducible refine Below.drew ?_) | (with_reducible refine below_alloc_on ?_ _) | (with_reducible refine below_set_on ?_ (by first | (simp; done) | (simp; omega) | omega) _))))
        replace R := Box.below (g := w.heap.size) (by (repeat (first | (with_reducible assumption) | (with_reducible exact box_new _ _ _) | ((with_reducible apply box_at); (first | (with_reducible rfl) | (simp <;> omega))) | (with_reducible apply Box.drew) | (with_reducible apply Box.drewN) | (with_reducible apply Box.near) | (with_reducible apply Box.alloc) | ((with_reducible apply box_far); (first | assumption | omega | (simp <;> omega))) | ((with_reducible apply Box.one_set); (with_reducible assumption)) | ((with_reducible apply Box.two_set); (with_reducible assumption)) | ((with_reducible apply Box.three_set); (with_reducible assumption)) | (with_reducible apply Box.set) | (simp only [List.size_toArray, List.length_cons, List.length_nil, Array.size_setIfInBounds] <;> omega)))) hb
        (try simp only [List.setIfInBounds_toArray, List.set_cons_zero, List.set_cons_succ] at R)
        (try clear cR fR)
        clear hb
        have z_w1 : w.heap.size ≤ w1.heap.size := A.size
        obtain ⟨lR_w1, cR, fR⟩ := id R
        go_wp2_with (fail)
        refine (j_widths _).mono ?_
        rintro e w2 ⟨B2, c2, rfl, hc2, hi2, hb⟩
        replace A := below_call A hb
        replace R := R.below hb
        clear hb lR_w1 cR fR
        obtain ⟨lR_w2, cR, fR⟩ := id R
        go_wp2_with (fail)
        refine (HU.out _ _ _ hi2).mono ?_
        rintro e w3 ⟨B3, c3, rfl, hc3, hi3, hb⟩
        replace A := below_call A hb
        replace R := R.below hb
        clear hb lR_w2 cR fR
        obtain ⟨lR_w3, cR, fR⟩ := id R
        go_wp2_with (fail)
        refine (j_entry B3 c3 y0 y1 y2 y3 y4 y5 y6 y7 _ hi3).mono ?_
        rintro e w4 ⟨rfl, hb⟩
        replace A : Below w.heap.size w w4 := by (refine below_call ?_ hb; (repeat (first | (with_reducible exact Below.refl _ _) | (with_reducible assumption) | (with_reducible refine Near.up _ ?_) | (with_reducible refine Below.drew ?_) | (with_reducible refine below_alloc_on ?_ _) | (with_reducible refine below_set_on ?_ (by first | (simp; done) | (simp; omega) | omega) _))))
        replace R := Box.below (g := w.heap.size) (by (repeat (first | (with_reducible assumption) | (with_reducible exact box_new _ _ _) | ((with_reducible apply box_at); (first | (with_reducible rfl) | (simp <;> omega))) | (with_reducible apply Box.drew) | (with_reducible apply Box.drewN) | (with_reducible apply Box.near) | (with_reducible apply Box.alloc) | ((with_reducible apply box_far); (first | assumption | omega | (simp <;> omega))) | ((with_reducible apply Box.one_set); (with_reducible assumption)) | ((with_reducible apply Box.two_set); (with_reducible assumption)) | ((with_reducible apply Box.three_set); (with_reducible assumption)) | (with_reducible apply Box.set) | (simp only [List.size_toArray, List.length_cons, List.length_nil, Array.size_setIfInBounds] <;> omega)))) hb
        (try simp only [List.setIfInBounds_toArray, List.set_cons_zero, List.set_cons_succ] at R)
        (try clear cR fR)
        clear hb
        have z_w4 : w.heap.size ≤ w4.heap.size := A.size
        obtain ⟨lR_w4, cR, fR⟩ := id R
        go_wp2_with (fail)
        refine (HR.out _).mono ?_
        rintro e w5 ⟨rfl, hb⟩
        replace A : Below w.heap.size w w5 := by (refine below_call ?_ hb; (repeat (first | (with_reducible exact Below.refl _ _) | (with_reducible assumption) | (with_reducible refine Near.up _ ?_) | (with_reducible refine Below.drew ?_) | (with_reducible refine below_alloc_on ?_ _) | (with_reducible refine below_set_on ?_ (by first | (simp; done) | (simp; omega) | omega) _))))
        replace R := Box.below (g := w.heap.size) (by (repeat (first | (with_reducible assumption) | (with_reducible exact box_new _ _ _) | ((with_reducible apply box_at); (first | (with_reducible rfl) | (simp <;> omega))) | (with_reducible apply Box.drew) | (with_reducible apply Box.drewN) | (with_reducible apply Box.near) | (with_reducible apply Box.alloc) | ((with_reducible apply box_far); (first | assumption | omega | (simp <;> omega))) | ((with_reducible apply Box.one_set); (with_reducible assumption)) | ((with_reducible apply Box.two_set); (with_reducible assumption)) | ((with_reducible apply Box.three_set); (with_reducible assumption)) | (with_reducible apply Box.set) | (simp only [List.size_toArray, List.length_cons, List.length_nil, Array.size_setIfInBounds] <;> omega)))) hb
        (try simp only [List.setIfInBounds_toArray, List.set_cons_zero, List.set_cons_succ] at R)
        (try clear cR fR)
        clear hb
        have z_w5 : w.heap.size ≤ w5.heap.size := A.size
        obtain ⟨lR_w5, cR, fR⟩ := id R
        go_wp2
        refine bodyPost_ret (v := .tuple #[.agg #[.int .i64 0, .int .i64 0, .int .i64 0, .int .i64 0, .int .i64 0, .int .i64 0, .int .i64 0, .int .i64 0], .bool false]) (by simp [results, Try.results9, go_sem, cR]) rfl ⟨rfl, by (repeat (first | (with_reducible exact Below.refl _ _) | (with_reducible assumption) | (with_reducible refine Near.up _ ?_) | (with_reducible refine Below.drew ?_) | (with_reducible refine below_alloc_on ?_ _) | (with_reducible refine below_set_on ?_ (by first | (simp; done) | (simp; omega) | omega) _)))⟩
      · obtain ⟨v0, v1, v2, v3, v4, v5, v6, v7⟩ := hV hr
        rw [v0, v1, v2, v3, v4, v5, v6, v7]
        rw [hr] at HR
        clear ho hu ht hy hB hV hr v0 v1 v2 v3 v4 v5 v6 v7
        go_enter Try.func9, Try.ntmps9
        go_wp2_with (fail)
        refine (HO.out _).mono ?_
        rintro e w1 ⟨rfl, hb⟩
        replace A : Below w.heap.size w w1 := by (refine below_call ?_ hb; (repeat (first | (with_reducible exact Below.refl _ _) | (with_reducible assumption) | (with_reducible refine Near.up _ ?_) | (with_reducible refine Below.drew ?_) | (with_reducible refine below_alloc_on ?_ _) | (with_reducible refine below_set_on ?_ (by first | (simp; done) | (simp; omega) | omega) _))))
        replace R := Box.below (g := w.heap.size) (by (repeat (first | (with_reducible assumption) | (with_reducible exact box_new _ _ _) | ((with_reducible apply box_at); (first | (with_reducible rfl) | (simp <;> omega))) | (with_reducible apply Box.drew) | (with_reducible apply Box.drewN) | (with_reducible apply Box.near) | (with_reducible apply Box.alloc) | ((with_reducible apply box_far); (first | assumption | omega | (simp <;> omega))) | ((with_reducible apply Box.one_set); (with_reducible assumption)) | ((with_reducible apply Box.two_set); (with_reducible assumption)) | ((with_reducible apply Box.three_set); (with_reducible assumption)) | (with_reducible apply Box.set) | (simp only [List.size_toArray, List.length_cons, List.length_nil, Array.size_setIfInBounds] <;> omega)))) hb
        (try simp only [List.setIfInBounds_toArray, List.set_cons_zero, List.set_cons_succ] at R)
        (try clear cR fR)
        clear hb
        have z_w1 : w.heap.size ≤ w1.heap.size := A.size
        obtain ⟨lR_w1, cR, fR⟩ := id R
        go_wp2_with (fail)
        refine (j_widths _).mono ?_
        rintro e w2 ⟨B2, c2, rfl, hc2, hi2, hb⟩
        replace A := below_call A hb
        replace R := R.below hb
        clear hb lR_w1 cR fR
        obtain ⟨lR_w2, cR, fR⟩ := id R
        go_wp2_with (fail)
        refine (HU.out _ _ _ hi2).mono ?_
        rintro e w3 ⟨B3, c3, rfl, hc3, hi3, hb⟩
        replace A := below_call A hb
        replace R := R.below hb
        clear hb lR_w2 cR fR
        obtain ⟨lR_w3, cR, fR⟩ := id R
        go_wp2_with (fail)
        refine (j_entry B3 c3 y0 y1 y2 y3 y4 y5 y6 y7 _ hi3).mono ?_
        rintro e w4 ⟨rfl, hb⟩
        replace A := below_call A hb
        replace R := R.below hb
        clear hb lR_w3 cR fR
        obtain ⟨lR_w4, cR, fR⟩ := id R
        go_wp2_with (fail)
        refine (HR.out _).mono ?_
        rintro e w5 ⟨rfl, hb⟩
        replace A : Below w.heap.size w w5 := by (refine below_call ?_ hb; (repeat (first | (with_reducible exact Below.refl _ _) | (with_reducible assumption) | (with_reducible refine Near.up _ ?_) | (with_reducible refine Below.drew ?_) | (with_reducible refine below_alloc_on ?_ _) | (with_reducible refine below_set_on ?_ (by first | (simp; done) | (simp; omega) | omega) _))))
        replace R := Box.below (g := w.heap.size) (by (repeat (first | (with_reducible assumption) | (with_reducible exact box_new _ _ _) | ((with_reducible apply box_at); (first | (with_reducible rfl) | (simp <;> omega))) | (with_reducible apply Box.drew) | (with_reducible apply Box.drewN) | (with_reducible apply Box.near) | (with_reducible apply Box.alloc) | ((with_reducible apply box_far); (first | assumption | omega | (simp <;> omega))) | ((with_reducible apply Box.one_set); (with_reducible assumption)) | ((with_reducible apply Box.two_set); (with_reducible assumption)) | ((with_reducible apply Box.three_set); (with_reducible assumption)) | (with_reducible apply Box.set) | (simp only [List.size_toArray, List.length_cons, List.length_nil, Array.size_setIfInBounds] <;> omega)))) hb
        (try simp only [List.setIfInBounds_toArray, List.set_cons_zero, List.set_cons_succ] at R)
        (try clear cR fR)
        replace E := Box.below (g := w4.heap.size) (by (repeat (first | (with_reducible assumption) | (with_reducible exact box_new _ _ _) | ((with_reducible apply box_at); (first | (with_reducible rfl) | (simp <;> omega))) | (with_reducible apply Box.drew) | (with_reducible apply Box.drewN) | (with_reducible apply Box.near) | (with_reducible apply Box.alloc) | ((with_reducible apply box_far); (first | assumption | omega | (simp <;> omega))) | ((with_reducible apply Box.one_set); (with_reducible assumption)) | ((with_reducible apply Box.two_set); (with_reducible assumption)) | ((with_reducible apply Box.three_set); (with_reducible assumption)) | (with_reducible apply Box.set) | (simp only [List.size_toArray, List.length_cons, List.length_nil, Array.size_setIfInBounds] <;> omega)))) hb
        (try simp only [List.setIfInBounds_toArray, List.set_cons_zero, List.set_cons_succ] at E)
        (try clear cE fE)
        clear hb
        have z_w5 : w.heap.size ≤ w5.heap.size := A.size
        obtain ⟨lR_w5, cR, fR⟩ := id R
        obtain ⟨lE_w5, cE, fE⟩ := id E
        have nRE : ¬ w.heap.size = w4.heap.size := by omega
        have nER : ¬ w4.heap.size = w.heap.size := by omega
        go_wp2
        refine bodyPost_ret (v := .tuple #[.agg #[.int .i64 y0, .int .i64 y1, .int .i64 y2, .int .i64 y3, .int .i64 y4, .int .i64 y5, .int .i64 y6, .int .i64 y7], .bool true]) (by simp [results, Try.results9, go_sem, cR, cE]) rfl ⟨rfl, by (repeat (first | (with_reducible exact Below.refl _ _) | (with_reducible assumption) | (with_reducible refine Near.up _ ?_) | (with_reducible refine Below.drew ?_) | (with_reducible refine below_alloc_on ?_ _) | (with_reducible refine below_set_on ?_ (by first | (simp; done) | (simp; omega) | omega) _)))⟩
end Go.Proofs.Ythibaehiponfnaa
