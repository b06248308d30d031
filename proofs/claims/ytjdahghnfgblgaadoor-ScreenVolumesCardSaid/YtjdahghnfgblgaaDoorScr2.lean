/- Contracts of package screen: what a frame shows. -/
import Derived.Test.YtjdahghnfgblgaaDoorScr
namespace Go.Proofs.YtjdahghnfgblgaaDoor
open Go.RowKit
set_option linter.unusedVariables false
set_option linter.unusedSimpArgs false
set_option maxRecDepth 100000
attribute [local go_sem] cell_set_ite Near.cell Near.frozen
attribute [local go_sem ↓] Go.wp_at_zero Go.wp_at_succ

theorem hd_eq {t : ByteArray} (h : 1 ≤ t.size) : ((t.extract 0 1).toList == ([68] : List UInt8)) = hdB t := by
  unfold hdB
  rw [decide_eq_true h, Bool.true_and, ByteArray.toList_eq]
  simp [ByteArray.data_extract, Array.toList_extract, List.extract]
theorem sl_has (t : ByteArray) (hs : t.size ≤ 1000000) (w : World) : Calls Tryd.prog 34 #[.string t, .string ⟨#[68]⟩] w fun e w' => e = .returned (.bool (hdB t)) ∧ w = w' := by
  by_cases h : 1 ≤ t.size
  · have h1 := hd_eq h
    generalize hdB t = q at *
    have t1 : decide ((1 : Int) ≤ (t.size : Int)) = true := by simp; omega
    go_enter Tryd.func34, Tryd.ntmps34
    go_wp2
    all_goals go_ret
    all_goals exact ⟨rfl, rfl⟩
  · have h1 : hdB t = false := by unfold hdB; rw [decide_eq_false h]; rfl
    rw [h1]
    have t1 : decide ((1 : Int) ≤ (t.size : Int)) = false := by simp; omega
    go_enter Tryd.func34, Tryd.ntmps34
    go_wp2
    all_goals go_ret
    all_goals exact ⟨rfl, rfl⟩
theorem sl_cut (t : ByteArray) (hs : t.size ≤ 1000000) (w : World) : Calls Tryd.prog 25 #[.string t, .string ⟨#[68]⟩] w fun e w' => e = .returned (.tuple #[.string (rwS t), .bool (hdB t)]) ∧ w = w' := by
  have HH := Lib.hid (fun w => sl_has t hs w)
  unfold rwS
  have h1 : hdB t = true → 1 ≤ t.size := fun h => by unfold hdB at h; rw [Bool.and_eq_true, decide_eq_true_eq] at h; exact h.1
  cases hq : hdB t
  · rw [if_neg (by simp)]
    rw [hq] at HH
    clear h1 hq
    go_enter Tryd.func25, Tryd.ntmps25
    go_wp2_with (go_at_call 34; refine (HH.out _).mono ?_; rintro e w' ⟨rfl, rfl⟩)
    all_goals go_ret2
    all_goals exact ⟨rfl, rfl⟩
  · rw [if_pos rfl]
    have h2 := h1 hq
    rw [hq] at HH
    clear h1 hq
    have t1 : (1 : Int) ≤ (t.size : Int) := by omega
    go_enter Tryd.func25, Tryd.ntmps25
    go_wp2_with (go_at_call 34; refine (HH.out _).mono ?_; rintro e w' ⟨rfl, rfl⟩)
    all_goals go_ret2
    all_goals exact ⟨rfl, rfl⟩
theorem st_cut (t : ByteArray) (hs : t.size ≤ 1000000) (w : World) : Calls Tryd.prog 15 #[.string t, .string ⟨#[68]⟩] w fun e w' => e = .returned (.tuple #[.string (rwS t), .bool (hdB t)]) ∧ w = w' := by
  have HH := Lib.hid (fun w => sl_cut t hs w)
  generalize rwS t = r at *
  generalize hdB t = q at *
  go_enter Tryd.func15, Tryd.ntmps15
  go_wp2_with (go_at_call 25; refine (HH.out _).mono ?_; rintro e w' ⟨rfl, rfl⟩)
  all_goals go_ret2
  all_goals exact ⟨rfl, rfl⟩

set_option maxHeartbeats 8000000 in
theorem sc_parse (s : ByteArray) (w : World) (hs : s.size ≤ 1000000) :
    Calls Tryd.prog 7 #[.string s] w fun e w' => e = .returned (.tuple #[.agg #[.int .i64 (fpV s 0), .int .i64 (fpV s 1), .int .i64 (fpV s 2), .int .i64 (fpV s 3), .int .i64 (fpV s 4), .int .i64 (fpV s 5), .int .i64 (fpV s 6), .int .i64 (fpV s 7)], .bool (fpB s)]) ∧ Below w.heap.size w w' := by
  have A : Below w.heap.size w w := Below.refl _ _
  have HO := fun w => crc_open s w (by omega)
  have ht : (toldB s).size ≤ 1000000 := by
    unfold toldB
    split
    · unfold insideB; rw [ByteArray.size_extract]; omega
    · exact Nat.zero_le _
  have hr : (rwS (toldB s)).size ≤ 9223372036854775800 := by
    unfold rwS
    split
    · rw [ByteArray.size_extract]; omega
    · omega
  have HU := fun w B d (h : Ints w B 8 wsS) => code_unpack (rwS (toldB s)) B 8 d wsS w h hr (by omega)
  have HC := fun w => st_cut (toldB s) ht w
  by_cases ho : openB s = true ∧ hdB (toldB s) = true
  · obtain ⟨ho, hh⟩ := ho
    rw [ho] at HO
    rw [hh] at HC
    cases hu : upB (rwS (toldB s)).data.toList wsS
    · have hg : fpB s = false := by unfold fpB; rw [ho, hh, hu]; rfl
      simp only [hg, pr_none hg]
      rw [hu, up_none hu] at HU
      generalize rwS (toldB s) = rr at *
      generalize toldB s = tt at *
      have HO := Lib.hid HO
      have HU := Lib.hid HU
      have HC := Lib.hid HC
      clear ho hg hu ht hh hr
      go_enter Tryd.func7, Tryd.ntmps7
      go_wp2_with (fail)
      refine (HO.out _).mono ?_
      rintro e w1 ⟨rfl, hb⟩
      replace A : Below w.heap.size w w1 := by (refine below_call ?_ hb; (repeat (first | (with_reducible exact Below.refl _ _) | (with_reducible assumption) | (with_reducible refine Near.up _ ?_) | (with_reducible refine Below.drew ?_) | (with_reducible refine below_alloc_on ?_ _) | (with_reducible refine below_set_on ?_ (by first | (simp; done) | (simp; omega) | omega) _))))
      replace R := Box.below (g := w.heap.size) (by (repeat (first | (with_reducible assumption) | (with_reducible exact box_new _ _ _) | ((with_reducible apply box_at); (first | (with_reducible rfl) | (simp <;> omega))) | (with_reducible apply Box.drew) | (with_reducible apply Box.drewN) | (with_reducible apply Box.near) | (with_reducible apply Box.alloc) | ((with_reducible apply box_far); (first | assumption | omega | (simp <;> omega))) | ((with_reducible apply Box.one_set); (with_reducible assumption)) | ((with_reducible apply Box.two_set); (with_reducible assumption)) | ((with_reducible apply Box.three_set); (with_reducible assumption)) | (with_reducible apply Box.set) | (simp only [List.size_toArray, List.length_cons, List.length_nil, Array.size_setIfInBounds] <;> omega)))) hb
      (try simp only [List.setIfInBounds_toArray, List.set_cons_zero, List.set_cons_succ] at R)
      (try clear cR fR)
      clear hb
      have z_w1 : w.heap.size ≤ w1.heap.size := A.size
      obtain ⟨lR_w1, cR, fR⟩ := id R
      go_wp2_with (go_at_call 15; refine (HC.out _).mono ?_; rintro e w' ⟨rfl, rfl⟩)
      refine (sc_widths _).mono ?_
      rintro e w2 ⟨B2, c2, rfl, hc2, hi2, hb⟩
      replace A := below_call A hb
      replace R := R.below hb
      clear hb lR_w1 cR fR
      obtain ⟨lR_w2, cR, fR⟩ := id R
      go_wp2_with (fail)
      refine (HU.out _ _ _ hi2).mono ?_
      rintro e w3 ⟨B3, c3, rfl, hc3, hi3, hb⟩
      replace A := below_call A hb
      replace R := R.below hb
      clear hb lR_w2 cR fR
      obtain ⟨lR_w3, cR, fR⟩ := id R
      go_wp2
      refine bodyPost_ret (v := .tuple #[.agg #[.int .i64 0, .int .i64 0, .int .i64 0, .int .i64 0, .int .i64 0, .int .i64 0, .int .i64 0, .int .i64 0], .bool false]) (by simp [results, Tryd.results7, go_sem, cR]) rfl ⟨rfl, by (repeat (first | (with_reducible exact Below.refl _ _) | (with_reducible assumption) | (with_reducible refine Near.up _ ?_) | (with_reducible refine Below.drew ?_) | (with_reducible refine below_alloc_on ?_ _) | (with_reducible refine below_set_on ?_ (by first | (simp; done) | (simp; omega) | omega) _)))⟩
    · have hg : fpB s = true := by unfold fpB; rw [ho, hh, hu]; rfl
      obtain ⟨y0, y1, y2, y3, y4, y5, y6, y7, hy⟩ : ∃ y0 y1 y2 y3 y4 y5 y6 y7, upV (rwS (toldB s)).data.toList wsS = [y0, y1, y2, y3, y4, y5, y6, y7] := ⟨_, _, _, _, _, _, _, _, eightS (by rw [(back_up hu).2.2.1]; rfl)⟩
      have hL : fpL s = [y0, y1, y2, y3, y4, y5, y6, y7] := hy
      rw [hu, hy] at HU
      unfold fpV
      rw [hg, hL]
      simp only [if_true, List.getD_cons_zero, List.getD_cons_succ]
      generalize rwS (toldB s) = rr at *
      generalize toldB s = tt at *
      have HO := Lib.hid HO
      have HU := Lib.hid HU
      have HC := Lib.hid HC
      clear ho hg hu ht hh hr hy hL
      go_enter Tryd.func7, Tryd.ntmps7
      go_wp2_with (fail)
      refine (HO.out _).mono ?_
      rintro e w1 ⟨rfl, hb⟩
      replace A : Below w.heap.size w w1 := by (refine below_call ?_ hb; (repeat (first | (with_reducible exact Below.refl _ _) | (with_reducible assumption) | (with_reducible refine Near.up _ ?_) | (with_reducible refine Below.drew ?_) | (with_reducible refine below_alloc_on ?_ _) | (with_reducible refine below_set_on ?_ (by first | (simp; done) | (simp; omega) | omega) _))))
      replace R := Box.below (g := w.heap.size) (by (repeat (first | (with_reducible assumption) | (with_reducible exact box_new _ _ _) | ((with_reducible apply box_at); (first | (with_reducible rfl) | (simp <;> omega))) | (with_reducible apply Box.drew) | (with_reducible apply Box.drewN) | (with_reducible apply Box.near) | (with_reducible apply Box.alloc) | ((with_reducible apply box_far); (first | assumption | omega | (simp <;> omega))) | ((with_reducible apply Box.one_set); (with_reducible assumption)) | ((with_reducible apply Box.two_set); (with_reducible assumption)) | ((with_reducible apply Box.three_set); (with_reducible assumption)) | (with_reducible apply Box.set) | (simp only [List.size_toArray, List.length_cons, List.length_nil, Array.size_setIfInBounds] <;> omega)))) hb
      (try simp only [List.setIfInBounds_toArray, List.set_cons_zero, List.set_cons_succ] at R)
      (try clear cR fR)
      clear hb
      have z_w1 : w.heap.size ≤ w1.heap.size := A.size
      obtain ⟨lR_w1, cR, fR⟩ := id R
      go_wp2_with (go_at_call 15; refine (HC.out _).mono ?_; rintro e w' ⟨rfl, rfl⟩)
      refine (sc_widths _).mono ?_
      rintro e w2 ⟨B2, c2, rfl, hc2, hi2, hb⟩
      replace A := below_call A hb
      replace R := R.below hb
      clear hb lR_w1 cR fR
      obtain ⟨lR_w2, cR, fR⟩ := id R
      go_wp2_with (fail)
      refine (HU.out _ _ _ hi2).mono ?_
      rintro e w3 ⟨B3, c3, rfl, hc3, hi3, hb⟩
      replace A := below_call A hb
      replace R := R.below hb
      clear hb lR_w2 cR fR
      obtain ⟨lR_w3, cR, fR⟩ := id R
      go_wp2_with (fail)
      refine (sc_face B3 c3 y0 y1 y2 y3 y4 y5 y6 y7 _ hi3).mono ?_
      rintro e w4 ⟨rfl, hb⟩
      replace A : Below w.heap.size w w4 := by (refine below_call ?_ hb; (repeat (first | (with_reducible exact Below.refl _ _) | (with_reducible assumption) | (with_reducible refine Near.up _ ?_) | (with_reducible refine Below.drew ?_) | (with_reducible refine below_alloc_on ?_ _) | (with_reducible refine below_set_on ?_ (by first | (simp; done) | (simp; omega) | omega) _))))
      replace R := Box.below (g := w.heap.size) (by (repeat (first | (with_reducible assumption) | (with_reducible exact box_new _ _ _) | ((with_reducible apply box_at); (first | (with_reducible rfl) | (simp <;> omega))) | (with_reducible apply Box.drew) | (with_reducible apply Box.drewN) | (with_reducible apply Box.near) | (with_reducible apply Box.alloc) | ((with_reducible apply box_far); (first | assumption | omega | (simp <;> omega))) | ((with_reducible apply Box.one_set); (with_reducible assumption)) | ((with_reducible apply Box.two_set); (with_reducible assumption)) | ((with_reducible apply Box.three_set); (with_reducible assumption)) | (with_reducible apply Box.set) | (simp only [List.size_toArray, List.length_cons, List.length_nil, Array.size_setIfInBounds] <;> omega)))) hb
      (try simp only [List.setIfInBounds_toArray, List.set_cons_zero, List.set_cons_succ] at R)
      (try clear cR fR)
      clear hb
      have z_w4 : w.heap.size ≤ w4.heap.size := A.size
      obtain ⟨lR_w4, cR, fR⟩ := id R
      go_wp2
      refine bodyPost_ret (v := .tuple #[.agg #[.int .i64 y0, .int .i64 y1, .int .i64 y2, .int .i64 y3, .int .i64 y4, .int .i64 y5, .int .i64 y6, .int .i64 y7], .bool true]) (by simp [results, Tryd.results7, go_sem, cR]) rfl ⟨rfl, by (repeat (first | (with_reducible exact Below.refl _ _) | (with_reducible assumption) | (with_reducible refine Near.up _ ?_) | (with_reducible refine Below.drew ?_) | (with_reducible refine below_alloc_on ?_ _) | (with_reducible refine below_set_on ?_ (by first | (simp; done) | (simp; omega) | omega) _)))⟩
  · have hg : fpB s = false := by
      unfold fpB
      cases h1 : openB s
      · rfl
      · cases h2 : hdB (toldB s)
        · rfl
        · exact absurd ⟨h1, h2⟩ ho
    simp only [hg, pr_none hg]
    generalize rwS (toldB s) = rr at *
    cases h1 : openB s
    · rw [h1] at HO
      generalize hdB (toldB s) = hh at *
      generalize toldB s = tt at *
      have HO := Lib.hid HO
      have HC := Lib.hid HC
      clear ho hg ht hr h1 HU
      go_enter Tryd.func7, Tryd.ntmps7
      go_wp2_with (fail)
      refine (HO.out _).mono ?_
      rintro e w1 ⟨rfl, hb⟩
      replace A : Below w.heap.size w w1 := by (refine below_call ?_ hb; (repeat (first | (with_reducible exact Below.refl _ _) | (with_reducible assumption) | (with_reducible refine Near.up _ ?_) | (with_reducible refine Below.drew ?_) | (with_reducible refine below_alloc_on ?_ _) | (with_reducible refine below_set_on ?_ (by first | (simp; done) | (simp; omega) | omega) _))))
      replace R := Box.below (g := w.heap.size) (by (repeat (first | (with_reducible assumption) | (with_reducible exact box_new _ _ _) | ((with_reducible apply box_at); (first | (with_reducible rfl) | (simp <;> omega))) | (with_reducible apply Box.drew) | (with_reducible apply Box.drewN) | (with_reducible apply Box.near) | (with_reducible apply Box.alloc) | ((with_reducible apply box_far); (first | assumption | omega | (simp <;> omega))) | ((with_reducible apply Box.one_set); (with_reducible assumption)) | ((with_reducible apply Box.two_set); (with_reducible assumption)) | ((with_reducible apply Box.three_set); (with_reducible assumption)) | (with_reducible apply Box.set) | (simp only [List.size_toArray, List.length_cons, List.length_nil, Array.size_setIfInBounds] <;> omega)))) hb
      (try simp only [List.setIfInBounds_toArray, List.set_cons_zero, List.set_cons_succ] at R)
      (try clear cR fR)
      clear hb
      have z_w1 : w.heap.size ≤ w1.heap.size := A.size
      obtain ⟨lR_w1, cR, fR⟩ := id R
      go_wp2_with (go_at_call 15; refine (HC.out _).mono ?_; rintro e w' ⟨rfl, rfl⟩)
      refine bodyPost_ret (v := .tuple #[.agg #[.int .i64 0, .int .i64 0, .int .i64 0, .int .i64 0, .int .i64 0, .int .i64 0, .int .i64 0, .int .i64 0], .bool false]) (by simp [results, Tryd.results7, go_sem, cR]) rfl ⟨rfl, by (repeat (first | (with_reducible exact Below.refl _ _) | (with_reducible assumption) | (with_reducible refine Near.up _ ?_) | (with_reducible refine Below.drew ?_) | (with_reducible refine below_alloc_on ?_ _) | (with_reducible refine below_set_on ?_ (by first | (simp; done) | (simp; omega) | omega) _)))⟩
    · have h2 : hdB (toldB s) = false := by
        cases h2 : hdB (toldB s)
        · rfl
        · exact absurd ⟨h1, h2⟩ ho
      rw [h1] at HO
      rw [h2] at HC
      generalize toldB s = tt at *
      have HO := Lib.hid HO
      have HC := Lib.hid HC
      clear ho hg ht hr h1 h2 HU
      go_enter Tryd.func7, Tryd.ntmps7
      go_wp2_with (fail)
      refine (HO.out _).mono ?_
      rintro e w1 ⟨rfl, hb⟩
      replace A : Below w.heap.size w w1 := by (refine below_call ?_ hb; (repeat (first | (with_reducible exact Below.refl _ _) | (with_reducible assumption) | (with_reducible refine Near.up _ ?_) | (with_reducible refine Below.drew ?_) | (with_reducible refine below_alloc_on ?_ _) | (with_reducible refine below_set_on ?_ (by first | (simp; done) | (simp; omega) | omega) _))))
      replace R := Box.below (g := w.heap.size) (by (repeat (first | (with_reducible assumption) | (with_reducible exact box_new _ _ _) | ((with_reducible apply box_at); (first | (with_reducible rfl) | (simp <;> omega))) | (with_reducible apply Box.drew) | (with_reducible apply Box.drewN) | (with_reducible apply Box.near) | (with_reducible apply Box.alloc) | ((with_reducible apply box_far); (first | assumption | omega | (simp <;> omega))) | ((with_reducible apply Box.one_set); (with_reducible assumption)) | ((with_reducible apply Box.two_set); (with_reducible assumption)) | ((with_reducible apply Box.three_set); (with_reducible assumption)) | (with_reducible apply Box.set) | (simp only [List.size_toArray, List.length_cons, List.length_nil, Array.size_setIfInBounds] <;> omega)))) hb
      (try simp only [List.setIfInBounds_toArray, List.set_cons_zero, List.set_cons_succ] at R)
      (try clear cR fR)
      clear hb
      have z_w1 : w.heap.size ≤ w1.heap.size := A.size
      obtain ⟨lR_w1, cR, fR⟩ := id R
      go_wp2_with (go_at_call 15; refine (HC.out _).mono ?_; rintro e w' ⟨rfl, rfl⟩)
      refine bodyPost_ret (v := .tuple #[.agg #[.int .i64 0, .int .i64 0, .int .i64 0, .int .i64 0, .int .i64 0, .int .i64 0, .int .i64 0, .int .i64 0], .bool false]) (by simp [results, Tryd.results7, go_sem, cR]) rfl ⟨rfl, by (repeat (first | (with_reducible exact Below.refl _ _) | (with_reducible assumption) | (with_reducible refine Near.up _ ?_) | (with_reducible refine Below.drew ?_) | (with_reducible refine below_alloc_on ?_ _) | (with_reducible refine below_set_on ?_ (by first | (simp; done) | (simp; omega) | omega) _)))⟩
end Go.Proofs.YtjdahghnfgblgaaDoor
