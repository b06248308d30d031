/- Contracts of package screen: frames. -/
import Derived.Test.YtjdahghnfgblgaaDoorScrN
import Derived.Test.YtjdahghnfgblgaaDoorUnpack
import Derived.Test.YtjdahghnfgblgaaDoorBx
import Derived.Test.YtjdahghnfgblgaaDoorWorld
import Derived.WalkSpells
import Derived.WalkLawsBesides
namespace Go.Proofs.YtjdahghnfgblgaaDoor
open Go.RowKit
set_option linter.unusedVariables false
set_option linter.unusedSimpArgs false
set_option maxRecDepth 100000
attribute [local go_sem] cell_set_ite Near.cell Near.frozen
attribute [local go_sem ↓] Go.wp_at_zero Go.wp_at_succ

theorem ints_newS (w : World) (xs : List Int) : Ints (w.alloc (.cells (xs.map (Value.int .i64)).toArray 3)) (some ⟨w.heap.size, 0, none⟩) xs.length xs := by
  refine ⟨rfl, fun _ => ⟨w.heap.size, 0, rfl, by simp, fun i hi => ?_⟩⟩
  rw [World.cell?_alloc_at _ _ _ _ (by simp)]
  simp [List.getD, List.getElem?_eq_getElem hi]

theorem sc_widths (w : World) : Calls Tryd.prog 12 #[] w fun e w' => ∃ B d, e = .returned (.slice B 8 d) ∧ 8 ≤ d ∧ Ints w' B 8 wsS ∧ Below w.heap.size w w' := by
  have H := Lib.hid (ints_newS w wsS)
  go_enter Tryd.func12, Tryd.ntmps12
  go_wp2
  all_goals go_ret
  exact ⟨_, _, rfl, Nat.le_refl _, H.out, by (repeat (first | (with_reducible exact Below.refl _ _) | (with_reducible assumption) | (with_reducible refine Near.up _ ?_) | (with_reducible refine Below.drew ?_) | (with_reducible refine below_alloc_on ?_ _) | (with_reducible refine below_set_on ?_ (by first | (simp; done) | (simp; omega) | omega) _)))⟩
theorem sc_numbers (m l z t o v r p : Int) (w : World) : Calls Tryd.prog 11 #[.agg #[.int .i64 m, .int .i64 l, .int .i64 z, .int .i64 t, .int .i64 o, .int .i64 v, .int .i64 r, .int .i64 p]] w fun e w' => ∃ B c, e = .returned (.slice B 8 c) ∧ 8 ≤ c ∧ Ints w' B 8 [m, l, z, t, o, v, r, p] ∧ Below w.heap.size w w' := by
  have H := Lib.hid (fun w => ints_newS w [m, l, z, t, o, v, r, p])
  have A0 : Below w.heap.size w w := Below.refl _ _
  go_enter Tryd.func11, Tryd.ntmps11
  go_wp2
  all_goals go_ret
  exact ⟨_, _, rfl, Nat.le_refl _, by simpa using H.out (w.alloc (.cells #[.int .i64 m, .int .i64 l, .int .i64 z, .int .i64 t, .int .i64 o, .int .i64 v, .int .i64 r, .int .i64 p] 23)), by (repeat (first | (with_reducible exact Below.refl _ _) | (with_reducible assumption) | (with_reducible refine Near.up _ ?_) | (with_reducible refine Below.drew ?_) | (with_reducible refine below_alloc_on ?_ _) | (with_reducible refine below_set_on ?_ (by first | (simp; done) | (simp; omega) | omega) _)))⟩

set_option maxHeartbeats 2000000 in
theorem sc_frame (m l z t o v r p : Int) (hx : ∀ x ∈ [m, l, z, t, o, v, r, p], -9223372036854775808 ≤ x ∧ x ≤ 9223372036854775807) (w : World) : Calls Tryd.prog 6 #[.agg #[.int .i64 m, .int .i64 l, .int .i64 z, .int .i64 t, .int .i64 o, .int .i64 v, .int .i64 r, .int .i64 p]] w fun e w' => e = .returned (.tuple #[.string (fcS [m, l, z, t, o, v, r, p]), .bool (pkB [m, l, z, t, o, v, r, p] wsS)]) ∧ Below w.heap.size w w' := by
  have A : Below w.heap.size w w := Below.refl _ _
  have hsz := pkS_size [m, l, z, t, o, v, r, p] wsS
  have hsz2 : (hdS ++ pkS [m, l, z, t, o, v, r, p] wsS).size ≤ 500 := by rw [ByteArray.size_append]; show 1 + _ ≤ 500; omega
  have HP := Lib.hid (fun w B C c e (h : Ints w B 8 [m, l, z, t, o, v, r, p]) (g : Ints w C 8 wsS) => code_pack B C 8 c 8 e [m, l, z, t, o, v, r, p] wsS w h g (by omega) (by omega) hx)
  have HN := Lib.hid (fun w => sc_numbers m l z t o v r p w)
  have HS := Lib.hid (fun w => crc_seal (hdS ++ pkS [m, l, z, t, o, v, r, p] wsS) w (by omega))
  have hsz3 : (pkS [m, l, z, t, o, v, r, p] wsS).size + 1 ≤ 9223372036854775807 := by omega
  cases hp : pkB [m, l, z, t, o, v, r, p] wsS
  · rw [fc_none hp]
    rw [hp] at HP
    generalize pkS [m, l, z, t, o, v, r, p] wsS = ps at *
    clear hsz hsz2 HS hx hp hsz3
    go_enter Tryd.func6, Tryd.ntmps6
    go_wp2_with (fail)
    refine (HN.out _).mono ?_
    rintro e w2 ⟨B2, c2, rfl, hc2, hi2, hb⟩
    replace A := below_call (below_alloc_on A _) hb
    clear hb
    go_wp2_with (fail)
    refine (sc_widths _).mono ?_
    rintro e w3 ⟨B3, c3, rfl, hc3, hi3, hb⟩
    replace A := below_call A hb
    replace hi2 := hi2.below hb
    clear hb
    go_wp2_with (fail)
    refine (HP.out _ _ _ _ _ hi2 hi3).mono ?_
    rintro e w4 ⟨rfl, hb⟩
    replace A : Below w.heap.size w w4 := by (refine below_call ?_ hb; (repeat (first | (with_reducible exact Below.refl _ _) | (with_reducible assumption) | (with_reducible refine Near.up _ ?_) | (with_reducible refine Below.drew ?_) | (with_reducible refine below_alloc_on ?_ _) | (with_reducible refine below_set_on ?_ (by first | (simp; done) | (simp; omega) | omega) _))))
    clear hb
    have z_w4 : w.heap.size ≤ w4.heap.size := A.size
    go_wp2
    all_goals go_ret2
    all_goals exact ⟨rfl, A⟩
  · rw [fc_is hp]
    rw [hp] at HP
    have hcat : (⟨#[68]⟩ : ByteArray) ++ pkS [m, l, z, t, o, v, r, p] wsS = hdS ++ pkS [m, l, z, t, o, v, r, p] wsS := rfl
    generalize hps : pkS [m, l, z, t, o, v, r, p] wsS = ps at *
    generalize hhd : hdS ++ ps = hh at *
    generalize sealB hh = ss at *
    clear hsz hsz2 hx hp hps
    go_enter Tryd.func6, Tryd.ntmps6
    go_wp2_with (fail)
    refine (HN.out _).mono ?_
    rintro e w2 ⟨B2, c2, rfl, hc2, hi2, hb⟩
    replace A := below_call (below_alloc_on A _) hb
    clear hb
    go_wp2_with (fail)
    refine (sc_widths _).mono ?_
    rintro e w3 ⟨B3, c3, rfl, hc3, hi3, hb⟩
    replace A := below_call A hb
    replace hi2 := hi2.below hb
    clear hb
    go_wp2_with (fail)
    refine (HP.out _ _ _ _ _ hi2 hi3).mono ?_
    rintro e w4 ⟨rfl, hb⟩
    replace A : Below w.heap.size w w4 := by (refine below_call ?_ hb; (repeat (first | (with_reducible exact Below.refl _ _) | (with_reducible assumption) | (with_reducible refine Near.up _ ?_) | (with_reducible refine Below.drew ?_) | (with_reducible refine below_alloc_on ?_ _) | (with_reducible refine below_set_on ?_ (by first | (simp; done) | (simp; omega) | omega) _))))
    clear hb
    have z_w4 : w.heap.size ≤ w4.heap.size := A.size
    go_wp2_with (fail)
    refine (HS.out _).mono ?_
    rintro e w5 ⟨rfl, hb⟩
    replace A : Below w.heap.size w w5 := by (refine below_call ?_ hb; (repeat (first | (with_reducible exact Below.refl _ _) | (with_reducible assumption) | (with_reducible refine Near.up _ ?_) | (with_reducible refine Below.drew ?_) | (with_reducible refine below_alloc_on ?_ _) | (with_reducible refine below_set_on ?_ (by first | (simp; done) | (simp; omega) | omega) _))))
    clear hb
    have z_w5 : w.heap.size ≤ w5.heap.size := A.size
    go_wp2
    all_goals go_ret2
    all_goals exact ⟨rfl, A⟩

set_option maxHeartbeats 4000000 in
theorem sc_face (B : Option Addr) (c : Nat) (y0 y1 y2 y3 y4 y5 y6 y7 : Int) (w : World) (h : Ints w B 8 [y0, y1, y2, y3, y4, y5, y6, y7]) :
    Calls Tryd.prog 17 #[.slice B 8 c] w fun e w' => e = .returned (.agg #[.int .i64 y0, .int .i64 y1, .int .i64 y2, .int .i64 y3, .int .i64 y4, .int .i64 y5, .int .i64 y6, .int .i64 y7]) ∧ Below w.heap.size w w' := by
  have A : Below w.heap.size w w := Below.refl _ _
  obtain ⟨b, off, rfl, hlt, hc⟩ := h.2 (by omega)
  have c0 : w.cell? ⟨b, off, none⟩ = some (.int .i64 y0) := hc 0 (by omega)
  have c1 : w.cell? ⟨b, off + 1, none⟩ = some (.int .i64 y1) := hc 1 (by omega)
  have c2 : w.cell? ⟨b, off + 2, none⟩ = some (.int .i64 y2) := hc 2 (by omega)
  have c3 : w.cell? ⟨b, off + 3, none⟩ = some (.int .i64 y3) := hc 3 (by omega)
  have c4 : w.cell? ⟨b, off + 4, none⟩ = some (.int .i64 y4) := hc 4 (by omega)
  have c5 : w.cell? ⟨b, off + 5, none⟩ = some (.int .i64 y5) := hc 5 (by omega)
  have c6 : w.cell? ⟨b, off + 6, none⟩ = some (.int .i64 y6) := hc 6 (by omega)
  have c7 : w.cell? ⟨b, off + 7, none⟩ = some (.int .i64 y7) := hc 7 (by omega)
  have hlt2 : b < (w.alloc (.cells #[.int .i64 0, .int .i64 0, .int .i64 0, .int .i64 0, .int .i64 0, .int .i64 0, .int .i64 0, .int .i64 0] 23)).heap.size := by simp; omega
  have R0 := box_new w #[.int .i64 0, .int .i64 0, .int .i64 0, .int .i64 0, .int .i64 0, .int .i64 0, .int .i64 0, .int .i64 0] 23
  clear hc h
  go_enter Tryd.func17, Tryd.ntmps17
  go_wp2
  refine wp_region_calm_tail 25 (by kernel_rfl) (by kernel_rfl) ?_
  simp only [List.take_succ_cons, List.take_zero, List.drop_succ_cons, List.drop_zero]
  repeat (go_big_quiet_step ((fail)))
  refine wpQuiet_nil ?_
  intro _ hw'
  obtain ⟨u, rfl⟩ := hw'
  have R := R0.near u
  obtain ⟨lR, cR, fR⟩ := id R
  have AN := u.up (below_alloc_on A (.cells #[.int .i64 0, .int .i64 0, .int .i64 0, .int .i64 0, .int .i64 0, .int .i64 0, .int .i64 0, .int .i64 0] 23))
  go_wp2
  refine bodyPost_ret (v := .agg #[.int .i64 y0, .int .i64 y1, .int .i64 y2, .int .i64 y3, .int .i64 y4, .int .i64 y5, .int .i64 y6, .int .i64 y7]) (by simp [results, Tryd.results17, go_sem, cR]) rfl ⟨rfl, by (repeat (first | (with_reducible exact Below.refl _ _) | (with_reducible assumption) | (with_reducible refine Near.up _ ?_) | (with_reducible refine Below.drew ?_) | (with_reducible refine below_alloc_on ?_ _) | (with_reducible refine below_set_on ?_ (by first | (simp; done) | (simp; omega) | omega) _)))⟩
end Go.Proofs.YtjdahghnfgblgaaDoor
