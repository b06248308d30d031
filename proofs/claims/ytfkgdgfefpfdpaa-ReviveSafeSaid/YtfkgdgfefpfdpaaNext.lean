/- Contracts of package revive: what is begun with; the law package's own. -/
import Derived.Test.YtfkgdgfefpfdpaaBoot
import Derived.Test.YtfkgdgfefpfdpaaFlashN
import Derived.Deep.LoopGhost
import Derived.Deep.CutBlock
namespace Go.Proofs.Ytfkgdgfefpfdpaa
open Go.RowKit
set_option linter.unusedVariables false
set_option linter.unusedSimpArgs false
set_option maxRecDepth 100000
attribute [local go_sem] cell_set_ite Near.cell Near.frozen

set_option maxHeartbeats 4000000 in
theorem re_next_form (a b c : ByteArray) (q : Bool) (i n sl : Int) (e0 e1 e2 e3 e4 e5 e6 e7 : Int) (h : enB e0 e1 e2 e3 e4 e5 e6 e7 = false) (w : World) :
    Calls Try.prog 16 #[.agg #[.string a, .string b, .bool q, .int .i64 i, .string c, .int .i64 n], .int .i64 sl, .agg #[.int .i64 e0, .int .i64 e1, .int .i64 e2, .int .i64 e3, .int .i64 e4, .int .i64 e5, .int .i64 e6, .int .i64 e7]] w fun e w' => e = .returned (.tuple #[.agg #[.string ⟨#[]⟩, .string ⟨#[]⟩, .bool false, .int .i64 0, .string ⟨#[]⟩, .int .i64 0], .int .i64 6]) ∧ Below w.heap.size w w' := by
  have A : Below w.heap.size w w := Below.refl _ _
  have HP := fun w => j_put e0 e1 e2 e3 e4 e5 e6 e7 w
  rw [h] at HP
  have HP := Lib.hid HP
  clear h
  go_enter Try.func16, Try.ntmps16
  go_wp2_with (fail)
  refine (HP.out _).mono ?_
  rintro e w1 ⟨rfl, hb⟩
  replace A : Below w.heap.size w w1 := by (refine below_call ?_ hb; (repeat (first | (with_reducible exact Below.refl _ _) | (with_reducible assumption) | (with_reducible refine Near.up _ ?_) | (with_reducible refine Below.drew ?_) | (with_reducible refine below_alloc_on ?_ _) | (with_reducible refine below_set_on ?_ (by first | (simp; done) | (simp; omega) | omega) _))))
  replace R := Box.below (g := w.heap.size + 1 + 1) (by (repeat (first | (with_reducible assumption) | (with_reducible exact box_new _ _ _) | ((with_reducible apply box_at); (first | (with_reducible rfl) | (simp <;> omega))) | (with_reducible apply Box.drew) | (with_reducible apply Box.drewN) | (with_reducible apply Box.near) | (with_reducible apply Box.alloc) | ((with_reducible apply box_far); (first | assumption | omega | (simp <;> omega))) | ((with_reducible apply Box.one_set); (with_reducible assumption)) | ((with_reducible apply Box.two_set); (with_reducible assumption)) | ((with_reducible apply Box.three_set); (with_reducible assumption)) | (with_reducible apply Box.set) | (simp only [List.size_toArray, List.length_cons, List.length_nil, Array.size_setIfInBounds] <;> omega)))) hb
  (try simp only [List.setIfInBounds_toArray, List.set_cons_zero, List.set_cons_succ] at R)
  (try clear cR fR)
  clear hb
  have z_w1 : w.heap.size ≤ w1.heap.size := A.size
  obtain ⟨lR_w1, cR, fR⟩ := id R
  go_wp2
  refine bodyPost_ret (v := .tuple #[.agg #[.string ⟨#[]⟩, .string ⟨#[]⟩, .bool false, .int .i64 0, .string ⟨#[]⟩, .int .i64 0], .int .i64 6]) (by simp [results, Try.results16, go_sem, cR]) rfl ⟨rfl, by (repeat (first | (with_reducible exact Below.refl _ _) | (with_reducible assumption) | (with_reducible refine Near.up _ ?_) | (with_reducible refine Below.drew ?_) | (with_reducible refine below_alloc_on ?_ _) | (with_reducible refine below_set_on ?_ (by first | (simp; done) | (simp; omega) | omega) _)))⟩

set_option maxHeartbeats 4000000 in
theorem re_next_ok (a b c : ByteArray) (i n sl m : Int) (hm : 1 - sl % 2 = m) (e0 e1 e2 e3 e4 e5 e6 e7 : Int) (h : enB e0 e1 e2 e3 e4 e5 e6 e7 = true) (w : World) :
    Calls Try.prog 16 #[.agg #[.string a, .string b, .bool false, .int .i64 i, .string c, .int .i64 n], .int .i64 sl, .agg #[.int .i64 e0, .int .i64 e1, .int .i64 e2, .int .i64 e3, .int .i64 e4, .int .i64 e5, .int .i64 e6, .int .i64 e7]] w fun e w' => e = .returned (.tuple #[.agg #[.string (fz m ⟨#[]⟩ a), .string (fz m b ⟨#[]⟩), .bool true, .int .i64 m, .string (ptS e0 e1 e2 e3 e4 e5 e6 e7), .int .i64 0], .int .i64 0]) ∧ Below w.heap.size w w' := by
  have A : Below w.heap.size w w := Below.refl _ _
  have HP := fun w => j_put e0 e1 e2 e3 e4 e5 e6 e7 w
  have hz := pt_size h
  rw [h] at HP
  have HP := Lib.hid HP
  have hs := fl_and1 sl
  obtain ⟨u, hu⟩ : ∃ u, sl % 2 = u := ⟨_, rfl⟩
  rw [hu] at hs hm
  have u0 : 0 ≤ u := by omega
  have u1 : u ≤ 1 := by omega
  have HB := Lib.hid (fun w => fl_begin_ok a b i c n m (ptS e0 e1 e2 e3 e4 e5 e6 e7) (by omega) (by omega) (by omega) w)
  generalize ptS e0 e1 e2 e3 e4 e5 e6 e7 = S at *
  generalize fz m ⟨#[]⟩ a = fa at *
  generalize fz m b ⟨#[]⟩ = fb at *
  clear h hz hu
  go_enter Try.func16, Try.ntmps16
  go_upto_region 1 with (fail)
  refine at_world (fun W => Below w.heap.size w W ∧ Box W w.heap.size #[.string a, .string b, .bool false, .int .i64 i, .string c, .int .i64 n] ∧ Box W (w.heap.size + 1) #[.int .i64 e0, .int .i64 e1, .int .i64 e2, .int .i64 e3, .int .i64 e4, .int .i64 e5, .int .i64 e6, .int .i64 e7] ∧ Box W (w.heap.size + 1 + 1) #[.string ⟨#[]⟩, .string ⟨#[]⟩, .bool false, .int .i64 0, .string ⟨#[]⟩, .int .i64 0]) ⟨by (repeat (first | (with_reducible exact Below.refl _ _) | (with_reducible assumption) | (with_reducible refine Near.up _ ?_) | (with_reducible refine Below.drew ?_) | (with_reducible refine below_alloc_on ?_ _) | (with_reducible refine below_set_on ?_ (by first | (simp; done) | (simp; omega) | omega) _))), box_cast (by (repeat (first | (with_reducible assumption) | (with_reducible exact box_new _ _ _) | ((with_reducible apply box_at); (first | (with_reducible rfl) | (simp <;> omega))) | (with_reducible apply Box.drew) | (with_reducible apply Box.drewN) | (with_reducible apply Box.near) | (with_reducible apply Box.alloc) | ((with_reducible apply box_far); (first | assumption | omega | (simp <;> omega))) | ((with_reducible apply Box.one_set); (with_reducible assumption)) | ((with_reducible apply Box.two_set); (with_reducible assumption)) | ((with_reducible apply Box.three_set); (with_reducible assumption)) | (with_reducible apply Box.set) | (simp only [List.size_toArray, List.length_cons, List.length_nil, Array.size_setIfInBounds] <;> omega)))) (by first | rfl | simp), box_cast (by (repeat (first | (with_reducible assumption) | (with_reducible exact box_new _ _ _) | ((with_reducible apply box_at); (first | (with_reducible rfl) | (simp <;> omega))) | (with_reducible apply Box.drew) | (with_reducible apply Box.drewN) | (with_reducible apply Box.near) | (with_reducible apply Box.alloc) | ((with_reducible apply box_far); (first | assumption | omega | (simp <;> omega))) | ((with_reducible apply Box.one_set); (with_reducible assumption)) | ((with_reducible apply Box.two_set); (with_reducible assumption)) | ((with_reducible apply Box.three_set); (with_reducible assumption)) | (with_reducible apply Box.set) | (simp only [List.size_toArray, List.length_cons, List.length_nil, Array.size_setIfInBounds] <;> omega)))) (by first | rfl | simp), box_cast (by (repeat (first | (with_reducible assumption) | (with_reducible exact box_new _ _ _) | ((with_reducible apply box_at); (first | (with_reducible rfl) | (simp <;> omega))) | (with_reducible apply Box.drew) | (with_reducible apply Box.drewN) | (with_reducible apply Box.near) | (with_reducible apply Box.alloc) | ((with_reducible apply box_far); (first | assumption | omega | (simp <;> omega))) | ((with_reducible apply Box.one_set); (with_reducible assumption)) | ((with_reducible apply Box.two_set); (with_reducible assumption)) | ((with_reducible apply Box.three_set); (with_reducible assumption)) | (with_reducible apply Box.set) | (simp only [List.size_toArray, List.length_cons, List.length_nil, Array.size_setIfInBounds] <;> omega)))) (by first | rfl | simp)⟩ ?_
  clear A
  rintro w0 ⟨A, F, E, R⟩
  have z1 : w.heap.size ≤ w.heap.size + 1 + 1 := by omega
  have n1 : ¬ w.heap.size = w.heap.size + 1 + 1 := by omega
  have n2 : ¬ w.heap.size + 1 = w.heap.size + 1 + 1 := by omega
  generalize w.heap.size + 1 + 1 = r at *
  generalize w.heap.size + 1 = ep at *
  obtain ⟨lF, cF, fF⟩ := id F
  obtain ⟨lE, cE, fE⟩ := id E
  obtain ⟨lR, cR, fR⟩ := id R
  go_wp2_with (fail)
  refine (HP.out _).mono ?_
  rintro e w1 ⟨rfl, hb⟩
  replace A : Below w.heap.size w w1 := by (refine below_call ?_ hb; (repeat (first | (with_reducible exact Below.refl _ _) | (with_reducible assumption) | (with_reducible refine Near.up _ ?_) | (with_reducible refine Below.drew ?_) | (with_reducible refine below_alloc_on ?_ _) | (with_reducible refine below_set_on ?_ (by first | (simp; done) | (simp; omega) | omega) _))))
  replace F := Box.below (g := w.heap.size) (by (repeat (first | (with_reducible assumption) | (with_reducible exact box_new _ _ _) | ((with_reducible apply box_at); (first | (with_reducible rfl) | (simp <;> omega))) | (with_reducible apply Box.drew) | (with_reducible apply Box.drewN) | (with_reducible apply Box.near) | (with_reducible apply Box.alloc) | ((with_reducible apply box_far); (first | assumption | omega | (simp <;> omega))) | ((with_reducible apply Box.one_set); (with_reducible assumption)) | ((with_reducible apply Box.two_set); (with_reducible assumption)) | ((with_reducible apply Box.three_set); (with_reducible assumption)) | (with_reducible apply Box.set) | (simp only [List.size_toArray, List.length_cons, List.length_nil, Array.size_setIfInBounds] <;> omega)))) hb
  (try simp only [List.setIfInBounds_toArray, List.set_cons_zero, List.set_cons_succ] at F)
  (try clear cF fF)
  replace R := Box.below (g := r) (by (repeat (first | (with_reducible assumption) | (with_reducible exact box_new _ _ _) | ((with_reducible apply box_at); (first | (with_reducible rfl) | (simp <;> omega))) | (with_reducible apply Box.drew) | (with_reducible apply Box.drewN) | (with_reducible apply Box.near) | (with_reducible apply Box.alloc) | ((with_reducible apply box_far); (first | assumption | omega | (simp <;> omega))) | ((with_reducible apply Box.one_set); (with_reducible assumption)) | ((with_reducible apply Box.two_set); (with_reducible assumption)) | ((with_reducible apply Box.three_set); (with_reducible assumption)) | (with_reducible apply Box.set) | (simp only [List.size_toArray, List.length_cons, List.length_nil, Array.size_setIfInBounds] <;> omega)))) hb
  (try simp only [List.setIfInBounds_toArray, List.set_cons_zero, List.set_cons_succ] at R)
  (try clear cR fR)
  clear hb
  have z_w1 : w.heap.size ≤ w1.heap.size := A.size
  obtain ⟨lF_w1, cF, fF⟩ := id F
  obtain ⟨lR_w1, cR, fR⟩ := id R
  clear cE fE lE E
  go_wp2_with (fail)
  refine (HB.out _).mono ?_
  rintro e w2 ⟨rfl, hb⟩
  replace A : Below w.heap.size w w2 := by (refine below_call ?_ hb; (repeat (first | (with_reducible exact Below.refl _ _) | (with_reducible assumption) | (with_reducible refine Near.up _ ?_) | (with_reducible refine Below.drew ?_) | (with_reducible refine below_alloc_on ?_ _) | (with_reducible refine below_set_on ?_ (by first | (simp; done) | (simp; omega) | omega) _))))
  replace R := Box.below (g := r) (by (repeat (first | (with_reducible assumption) | (with_reducible exact box_new _ _ _) | ((with_reducible apply box_at); (first | (with_reducible rfl) | (simp <;> omega))) | (with_reducible apply Box.drew) | (with_reducible apply Box.drewN) | (with_reducible apply Box.near) | (with_reducible apply Box.alloc) | ((with_reducible apply box_far); (first | assumption | omega | (simp <;> omega))) | ((with_reducible apply Box.one_set); (with_reducible assumption)) | ((with_reducible apply Box.two_set); (with_reducible assumption)) | ((with_reducible apply Box.three_set); (with_reducible assumption)) | (with_reducible apply Box.set) | (simp only [List.size_toArray, List.length_cons, List.length_nil, Array.size_setIfInBounds] <;> omega)))) hb
  (try simp only [List.setIfInBounds_toArray, List.set_cons_zero, List.set_cons_succ] at R)
  (try clear cR fR)
  clear hb
  have z_w2 : w.heap.size ≤ w2.heap.size := A.size
  obtain ⟨lR_w2, cR, fR⟩ := id R
  go_wp2
  refine bodyPost_ret (v := .tuple #[.agg #[.string fa, .string fb, .bool true, .int .i64 m, .string S, .int .i64 0], .int .i64 0]) (by simp [results, Try.results16, go_sem, cR]) rfl ⟨rfl, by (repeat (first | (with_reducible exact Below.refl _ _) | (with_reducible assumption) | (with_reducible refine Near.up _ ?_) | (with_reducible refine Below.drew ?_) | (with_reducible refine below_alloc_on ?_ _) | (with_reducible refine below_set_on ?_ (by first | (simp; done) | (simp; omega) | omega) _)))⟩

theorem nx_four {j : Nat} (h : j ≤ 15) : nxV (4 * (j : Int)) = 4 * ((j + 1 : Nat) : Int) := by
  have := nx_bd (4 * (j : Int))
  unfold nxV
  omega

set_option maxHeartbeats 8000000 in
theorem law40_awake (w : World) : Calls Try.prog 15 #[] w fun e w' => e = .returned (.bool true) ∧ Below w.heap.size w w' := by
  have A : Below w.heap.size w w := Below.refl _ _
  have he : enB 7 3 60 100 20 20 9 0 = true := by decide +kernel
  have hz : enB 0 0 0 0 0 0 0 0 = false := by decide +kernel
  have g2 : gtB ⟨#[]⟩ = false := by unfold gtB; rw [show openB ⟨#[]⟩ = false by decide +kernel]; rfl
  have hs := pt_size he
  have hg := gt_put he
  have hV := fun i => gtV_put he i
  have HN := fun w => re_next_ok ⟨#[]⟩ ⟨#[]⟩ ⟨#[]⟩ 0 0 1 0 (by decide) 7 3 60 100 20 20 9 0 he w
  rw [show fz 0 (⟨#[]⟩ : ByteArray) (⟨#[]⟩ : ByteArray) = ⟨#[]⟩ from rfl] at HN
  generalize ptS 7 3 60 100 20 20 9 0 = S at *
  have HM := Lib.hid (fun w => re_next_form S ⟨#[]⟩ ⟨#[]⟩ false 0 0 0 0 0 0 0 0 0 0 0 hz w)
  have HB := fun w => re_boot S ⟨#[]⟩ ⟨#[]⟩ false 0 0 w (by omega) (by decide)
  have e1 : nwT S ⟨#[]⟩ = S := by unfold nwT nwF; rw [hg, g2]; rfl
  have e2 : nwS S ⟨#[]⟩ = 0 := by unfold nwS nwF; rw [hg, g2]; rfl
  have e3 : boB S ⟨#[]⟩ = true := by
    unfold boB
    rw [e1]
    simp only [hV, List.getD_cons_zero, List.getD_cons_succ]
    decide +kernel
  rw [e1, e2, e3, hg] at HB
  simp only [hV, List.getD_cons_zero, List.getD_cons_succ] at HB
  have HC := fun w => re_boot ⟨#[]⟩ ⟨#[]⟩ ⟨#[]⟩ false 0 0 w (by decide) (by decide)
  have f1 : nwT ⟨#[]⟩ ⟨#[]⟩ = ⟨#[]⟩ := by unfold nwT; split <;> rfl
  have f2 : nwS ⟨#[]⟩ ⟨#[]⟩ = 0 := by unfold nwS nwF; rw [g2]; rfl
  have f3 : boB ⟨#[]⟩ ⟨#[]⟩ = false := by
    unfold boB
    rw [f1]
    simp only [gt_none g2]
    decide +kernel
  rw [f1, f2, f3, g2] at HC
  simp only [gt_none g2] at HC
  have HN := Lib.hid HN
  have HB := Lib.hid HB
  have HC := Lib.hid HC
  have HG := Lib.hid hs
  clear he hz g2 hg hV e1 e2 e3 f1 f2 f3
  go_enter Try.func15, Try.ntmps15
  go_wp2_with (fail)
  refine (HN.out _).mono ?_
  rintro e w1 ⟨rfl, hb⟩
  replace A : Below w.heap.size w w1 := by (refine below_call ?_ hb; (repeat (first | (with_reducible exact Below.refl _ _) | (with_reducible assumption) | (with_reducible refine Near.up _ ?_) | (with_reducible refine Below.drew ?_) | (with_reducible refine below_alloc_on ?_ _) | (with_reducible refine below_set_on ?_ (by first | (simp; done) | (simp; omega) | omega) _))))
  replace P := Box.below (g := w.heap.size) (by (repeat (first | (with_reducible assumption) | (with_reducible exact box_new _ _ _) | ((with_reducible apply box_at); (first | (with_reducible rfl) | (simp <;> omega))) | (with_reducible apply Box.drew) | (with_reducible apply Box.drewN) | (with_reducible apply Box.near) | (with_reducible apply Box.alloc) | ((with_reducible apply box_far); (first | assumption | omega | (simp <;> omega))) | ((with_reducible apply Box.one_set); (with_reducible assumption)) | ((with_reducible apply Box.two_set); (with_reducible assumption)) | ((with_reducible apply Box.three_set); (with_reducible assumption)) | (with_reducible apply Box.set) | (simp only [List.size_toArray, List.length_cons, List.length_nil, Array.size_setIfInBounds] <;> omega)))) hb
  (try simp only [List.setIfInBounds_toArray, List.set_cons_zero, List.set_cons_succ] at P)
  (try clear cP fP)
  clear hb
  have z_w1 : w.heap.size ≤ w1.heap.size := A.size
  obtain ⟨lP_w1, cP, fP⟩ := id P
  go_wp2
  refine at_world (fun W => Below w.heap.size w W ∧ Box W w.heap.size #[.int .i64 7, .int .i64 3, .int .i64 60, .int .i64 100, .int .i64 20, .int .i64 20, .int .i64 9, .int .i64 0] ∧ Box W w1.heap.size #[.string ⟨#[]⟩, .string ⟨#[]⟩, .bool true, .int .i64 0, .string S, .int .i64 0]) ⟨by (repeat (first | (with_reducible exact Below.refl _ _) | (with_reducible assumption) | (with_reducible refine Near.up _ ?_) | (with_reducible refine Below.drew ?_) | (with_reducible refine below_alloc_on ?_ _) | (with_reducible refine below_set_on ?_ (by first | (simp; done) | (simp; omega) | omega) _))), by (repeat (first | (with_reducible assumption) | (with_reducible exact box_new _ _ _) | ((with_reducible apply box_at); (first | (with_reducible rfl) | (simp <;> omega))) | (with_reducible apply Box.drew) | (with_reducible apply Box.drewN) | (with_reducible apply Box.near) | (with_reducible apply Box.alloc) | ((with_reducible apply box_far); (first | assumption | omega | (simp <;> omega))) | ((with_reducible apply Box.one_set); (with_reducible assumption)) | ((with_reducible apply Box.two_set); (with_reducible assumption)) | ((with_reducible apply Box.three_set); (with_reducible assumption)) | (with_reducible apply Box.set) | (simp only [List.size_toArray, List.length_cons, List.length_nil, Array.size_setIfInBounds] <;> omega))), by (repeat (first | (with_reducible assumption) | (with_reducible exact box_new _ _ _) | ((with_reducible apply box_at); (first | (with_reducible rfl) | (simp <;> omega))) | (with_reducible apply Box.drew) | (with_reducible apply Box.drewN) | (with_reducible apply Box.near) | (with_reducible apply Box.alloc) | ((with_reducible apply box_far); (first | assumption | omega | (simp <;> omega))) | ((with_reducible apply Box.one_set); (with_reducible assumption)) | ((with_reducible apply Box.two_set); (with_reducible assumption)) | ((with_reducible apply Box.three_set); (with_reducible assumption)) | (with_reducible apply Box.set) | (simp only [List.size_toArray, List.length_cons, List.length_nil, Array.size_setIfInBounds] <;> omega)))⟩ ?_
  rintro w2 ⟨A2, P2, F2⟩
  have npf : ¬ w.heap.size = w1.heap.size := by omega
  have nfp : ¬ w1.heap.size = w.heap.size := by omega
  have zf : w.heap.size ≤ w1.heap.size := by omega
  clear A P cP fP lP_w1 z_w1
  generalize w1.heap.size = f at *
  go_loopg [16] 9 (fun gk i wr => ∃ (j : Nat) (x : ByteArray) (q : Bool) (c : ByteArray) (n : Int), j ≤ 9 ∧ gk = 9 - j ∧ i = .int .i64 j ∧ Below w.heap.size w wr ∧ Box wr w.heap.size #[.int .i64 7, .int .i64 3, .int .i64 60, .int .i64 100, .int .i64 20, .int .i64 20, .int .i64 9, .int .i64 0] ∧ Box wr f #[.string x, .string ⟨#[]⟩, .bool q, .int .i64 0, .string c, .int .i64 n] ∧
    ((j ≤ 5 ∧ q = true ∧ c = S ∧ n = 4 * (j : Int)) ∨ (6 ≤ j ∧ x = S ∧ q = false ∧ c = ⟨#[]⟩ ∧ n = 0)))
  case atStart => exact ⟨0, ⟨#[]⟩, true, S, 0, by omega, rfl, rfl, A2, P2, F2, .inl ⟨by omega, rfl, rfl, by simp⟩⟩
  case round =>
    clear A2 P2 F2
    obtain ⟨j, x, q, c, n, hj, rfl, rfl, A, P, F, hst⟩ := hrel
    by_cases hlt : j < 9
    · obtain ⟨x', q', c', n', HS, hst'⟩ : ∃ x' q' c' n', (∀ w, Calls Try.prog 23 #[.agg #[.string x, .string ⟨#[]⟩, .bool q, .int .i64 0, .string c, .int .i64 n], .bool true] w fun e w' => (∃ r, e = .returned (.tuple #[.agg #[.string x', .string ⟨#[]⟩, .bool q', .int .i64 0, .string c', .int .i64 n'], .int .i64 r])) ∧ Below w.heap.size w w') ∧
          ((j + 1 ≤ 5 ∧ q' = true ∧ c' = S ∧ n' = 4 * ((j + 1 : Nat) : Int)) ∨ (6 ≤ j + 1 ∧ x' = S ∧ q' = false ∧ c' = ⟨#[]⟩ ∧ n' = 0)) := by
        rcases hst with ⟨h1, rfl, rfl, rfl⟩ | ⟨h1, rfl, rfl, rfl, rfl⟩
        · have hn := nx_four (j := j) (by omega)
          have hs := HG.out
          by_cases h5 : j < 5
          · exact ⟨_, _, _, _, fun w => (fl_step_goes x ⟨#[]⟩ 0 c _ (by rw [hn]; omega) w).mono (fun e w' ⟨he, hb⟩ => ⟨⟨_, he⟩, hb⟩), .inl ⟨by omega, rfl, rfl, hn⟩⟩
          · exact ⟨_, _, _, _, fun w => (fl_step_done x ⟨#[]⟩ 0 c _ (by rw [hn]; omega) w).mono (fun e w' ⟨he, hb⟩ => ⟨⟨_, he⟩, hb⟩), .inr ⟨by omega, rfl, rfl, rfl, rfl⟩⟩
        · exact ⟨_, _, _, _, fun w => (fl_step_idle x ⟨#[]⟩ 0 ⟨#[]⟩ 0 true w).mono (fun e w' ⟨he, hb⟩ => ⟨⟨_, he⟩, hb⟩), .inr ⟨by omega, rfl, rfl, rfl, rfl⟩⟩
      have HST := Lib.hid hst'
      have HSX := Lib.hid HS
      clear hst hst' HS
      obtain ⟨lP, cP, fP⟩ := id P
      obtain ⟨lF, cF, fF⟩ := id F
      go_wp2_with (fail)
      refine (HSX.out _).mono ?_
      rintro e w3 ⟨⟨r, rfl⟩, hb⟩
      replace A := below_call A hb
      replace P := P.below hb
      replace F := F.below hb
      clear hb lP cP fP lF cF fF
      obtain ⟨lF, cF, fF⟩ := id F
      have F5 := Lib.hid (Box.six_set F (.string x') (.string ⟨#[]⟩) (.bool q') (.int .i64 0) (.string c') (.int .i64 n'))
      go_wp2
      go_roundg (9 - (j + 1))
      case measure => omega
      case rel => exact ⟨j + 1, x', q', c', n', by omega, by omega, by go_num, by (repeat (first | (with_reducible exact Below.refl _ _) | (with_reducible assumption) | (with_reducible refine Near.up _ ?_) | (with_reducible refine Below.drew ?_) | (with_reducible refine below_alloc_on ?_ _) | (with_reducible refine below_set_on ?_ (by first | (simp; done) | (simp; omega) | omega) _))), by (repeat (first | (with_reducible assumption) | (with_reducible exact box_new _ _ _) | ((with_reducible apply box_at); (first | (with_reducible rfl) | (simp <;> omega))) | (with_reducible apply Box.drew) | (with_reducible apply Box.drewN) | (with_reducible apply Box.near) | (with_reducible apply Box.alloc) | ((with_reducible apply box_far); (first | assumption | omega | (simp <;> omega))) | ((with_reducible apply Box.one_set); (with_reducible assumption)) | ((with_reducible apply Box.two_set); (with_reducible assumption)) | ((with_reducible apply Box.three_set); (with_reducible assumption)) | (with_reducible apply Box.set) | (simp only [List.size_toArray, List.length_cons, List.length_nil, Array.size_setIfInBounds] <;> omega))), F5.out, HST.out⟩
    · obtain rfl : j = 9 := by omega
      have hend : x = S ∧ q = false ∧ c = ⟨#[]⟩ ∧ n = 0 := by
        rcases hst with ⟨h, _⟩ | ⟨_, h⟩
        · omega
        · exact h
      obtain ⟨rfl, rfl, rfl, rfl⟩ := hend
      clear hst
      obtain ⟨lP, cP, fP⟩ := id P
      obtain ⟨lF, cF, fF⟩ := id F
      go_wp2_with (fail)
      refine (HB.out _).mono ?_
      rintro e w4 ⟨rfl, hb⟩
      replace A : Below w.heap.size w w4 := by (refine below_call ?_ hb; (repeat (first | (with_reducible exact Below.refl _ _) | (with_reducible assumption) | (with_reducible refine Near.up _ ?_) | (with_reducible refine Below.drew ?_) | (with_reducible refine below_alloc_on ?_ _) | (with_reducible refine below_set_on ?_ (by first | (simp; done) | (simp; omega) | omega) _))))
      replace P := Box.below (g := w.heap.size) (by (repeat (first | (with_reducible assumption) | (with_reducible exact box_new _ _ _) | ((with_reducible apply box_at); (first | (with_reducible rfl) | (simp <;> omega))) | (with_reducible apply Box.drew) | (with_reducible apply Box.drewN) | (with_reducible apply Box.near) | (with_reducible apply Box.alloc) | ((with_reducible apply box_far); (first | assumption | omega | (simp <;> omega))) | ((with_reducible apply Box.one_set); (with_reducible assumption)) | ((with_reducible apply Box.two_set); (with_reducible assumption)) | ((with_reducible apply Box.three_set); (with_reducible assumption)) | (with_reducible apply Box.set) | (simp only [List.size_toArray, List.length_cons, List.length_nil, Array.size_setIfInBounds] <;> omega)))) hb
      (try simp only [List.setIfInBounds_toArray, List.set_cons_zero, List.set_cons_succ] at P)
      (try clear cP fP)
      replace F := Box.below (g := f) (by (repeat (first | (with_reducible assumption) | (with_reducible exact box_new _ _ _) | ((with_reducible apply box_at); (first | (with_reducible rfl) | (simp <;> omega))) | (with_reducible apply Box.drew) | (with_reducible apply Box.drewN) | (with_reducible apply Box.near) | (with_reducible apply Box.alloc) | ((with_reducible apply box_far); (first | assumption | omega | (simp <;> omega))) | ((with_reducible apply Box.one_set); (with_reducible assumption)) | ((with_reducible apply Box.two_set); (with_reducible assumption)) | ((with_reducible apply Box.three_set); (with_reducible assumption)) | (with_reducible apply Box.set) | (simp only [List.size_toArray, List.length_cons, List.length_nil, Array.size_setIfInBounds] <;> omega)))) hb
      (try simp only [List.setIfInBounds_toArray, List.set_cons_zero, List.set_cons_succ] at F)
      (try clear cF fF)
      clear hb
      have z_w4 : w.heap.size ≤ w4.heap.size := A.size
      obtain ⟨lP_w4, cP, fP⟩ := id P
      obtain ⟨lF_w4, cF, fF⟩ := id F
      have m1 : ¬ w.heap.size = w4.heap.size := by omega
      have m2 : ¬ f = w4.heap.size := by omega
      go_wp2_with (fail)
      refine (HM.out _).mono ?_
      rintro e w5 ⟨rfl, hb⟩
      replace A : Below w.heap.size w w5 := by (refine below_call ?_ hb; (repeat (first | (with_reducible exact Below.refl _ _) | (with_reducible assumption) | (with_reducible refine Near.up _ ?_) | (with_reducible refine Below.drew ?_) | (with_reducible refine below_alloc_on ?_ _) | (with_reducible refine below_set_on ?_ (by first | (simp; done) | (simp; omega) | omega) _))))
      replace P := Box.below (g := w.heap.size) (by (repeat (first | (with_reducible assumption) | (with_reducible exact box_new _ _ _) | ((with_reducible apply box_at); (first | (with_reducible rfl) | (simp <;> omega))) | (with_reducible apply Box.drew) | (with_reducible apply Box.drewN) | (with_reducible apply Box.near) | (with_reducible apply Box.alloc) | ((with_reducible apply box_far); (first | assumption | omega | (simp <;> omega))) | ((with_reducible apply Box.one_set); (with_reducible assumption)) | ((with_reducible apply Box.two_set); (with_reducible assumption)) | ((with_reducible apply Box.three_set); (with_reducible assumption)) | (with_reducible apply Box.set) | (simp only [List.size_toArray, List.length_cons, List.length_nil, Array.size_setIfInBounds] <;> omega)))) hb
      (try simp only [List.setIfInBounds_toArray, List.set_cons_zero, List.set_cons_succ] at P)
      (try clear cP fP)
      replace B := Box.below (g := w4.heap.size) (by (repeat (first | (with_reducible assumption) | (with_reducible exact box_new _ _ _) | ((with_reducible apply box_at); (first | (with_reducible rfl) | (simp <;> omega))) | (with_reducible apply Box.drew) | (with_reducible apply Box.drewN) | (with_reducible apply Box.near) | (with_reducible apply Box.alloc) | ((with_reducible apply box_far); (first | assumption | omega | (simp <;> omega))) | ((with_reducible apply Box.one_set); (with_reducible assumption)) | ((with_reducible apply Box.two_set); (with_reducible assumption)) | ((with_reducible apply Box.three_set); (with_reducible assumption)) | (with_reducible apply Box.set) | (simp only [List.size_toArray, List.length_cons, List.length_nil, Array.size_setIfInBounds] <;> omega)))) hb
      (try simp only [List.setIfInBounds_toArray, List.set_cons_zero, List.set_cons_succ] at B)
      (try clear cB fB)
      clear hb
      have z_w5 : w.heap.size ≤ w5.heap.size := A.size
      obtain ⟨lP_w5, cP, fP⟩ := id P
      obtain ⟨lB_w5, cB, fB⟩ := id B
      have m3 : ¬ w.heap.size = w5.heap.size := by omega
      have m4 : ¬ w4.heap.size = w5.heap.size := by omega
      go_wp2_with (fail)
      refine (HC.out _).mono ?_
      rintro e w6 ⟨rfl, hb⟩
      replace A : Below w.heap.size w w6 := by (refine below_call ?_ hb; (repeat (first | (with_reducible exact Below.refl _ _) | (with_reducible assumption) | (with_reducible refine Near.up _ ?_) | (with_reducible refine Below.drew ?_) | (with_reducible refine below_alloc_on ?_ _) | (with_reducible refine below_set_on ?_ (by first | (simp; done) | (simp; omega) | omega) _))))
      replace P := Box.below (g := w.heap.size) (by (repeat (first | (with_reducible assumption) | (with_reducible exact box_new _ _ _) | ((with_reducible apply box_at); (first | (with_reducible rfl) | (simp <;> omega))) | (with_reducible apply Box.drew) | (with_reducible apply Box.drewN) | (with_reducible apply Box.near) | (with_reducible apply Box.alloc) | ((with_reducible apply box_far); (first | assumption | omega | (simp <;> omega))) | ((with_reducible apply Box.one_set); (with_reducible assumption)) | ((with_reducible apply Box.two_set); (with_reducible assumption)) | ((with_reducible apply Box.three_set); (with_reducible assumption)) | (with_reducible apply Box.set) | (simp only [List.size_toArray, List.length_cons, List.length_nil, Array.size_setIfInBounds] <;> omega)))) hb
      (try simp only [List.setIfInBounds_toArray, List.set_cons_zero, List.set_cons_succ] at P)
      (try clear cP fP)
      clear hb
      have z_w6 : w.heap.size ≤ w6.heap.size := A.size
      obtain ⟨lP_w6, cP, fP⟩ := id P
      go_wp2
      go_ret
      exact ⟨rfl, A⟩
end Go.Proofs.Ytfkgdgfefpfdpaa
