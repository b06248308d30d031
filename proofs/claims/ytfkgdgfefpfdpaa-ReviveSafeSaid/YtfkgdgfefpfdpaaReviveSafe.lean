/- ReviveSafe holds of every two slots: whatever bytes there are, it is idle or paused then. No condition. -/
import Derived.Test.YtfkgdgfefpfdpaaNext
import Derived.Test.YtfkgdgfefpfdpaaLeaf
namespace Go.Proofs.Ytfkgdgfefpfdpaa.reviveSafe
open Go.ChangeShapes Go.WideShapes Go.ChangeAt Go.RowKit
set_option linter.unusedVariables false
set_option linter.unusedSimpArgs false
set_option maxRecDepth 100000
attribute [local go_sem] cell_set_ite Near.cell Near.frozen

theorem nw_or (a b : ByteArray) : gtB (nwT a b) = (gtB a || gtB b) := by
  unfold nwT nwF
  cases hA : gtB a <;> cases hB : gtB b
  · simp [hB]
  · simp [hB]
  · simp [hA]
  · by_cases h : gtV b 0 ≤ gtV a 0
    · simp [h, hA]
    · simp [h, hB]
theorem bo_parts {a b : ByteArray} (h : boB a b = true) : gtB (nwT a b) = true ∧ ckV (gtV (nwT a b) 2) (gtV (nwT a b) 3) (gtV (nwT a b) 4) = 0 ∧ 0 < gtV (nwT a b) 0 := by
  have hg : gtB (nwT a b) = true := by
    cases hg : gtB (nwT a b)
    · unfold boB lsB at h
      simp only [gt_none hg] at h
      cases h
    · rfl
  have hb := en_bd (gt_parts hg).2.2
  unfold boB lsB at h
  rw [Bool.and_eq_true, decide_eq_true_eq, decide_eq_true_eq] at h
  exact ⟨hg, h.2, by omega⟩

set_option maxHeartbeats 8000000 in
theorem walk (a : ByteArray) (ha : a.size ≤ maxLen) (b : ByteArray) (hb : b.size ≤ maxLen) (W : World) :
    Calls Try.prog 7 #[.agg #[.string a, .string b]] W fun e W' => e = .returned (.bool true) ∧ Below W.heap.size W W' := by
  have A : Below W.heap.size W W := Below.refl _ _
  by_cases h1 : 100 < a.size
  · have t0 : decide (100 < (a.size : Int)) = true := decide_eq_true (by omega)
    go_enter Try.func7, Try.ntmps7
    go_wp2_with (fail)
    refine (law40_awake _).mono ?_
    rintro e w5 ⟨rfl, hb⟩
    replace A : Below W.heap.size W w5 := by (refine below_call ?_ hb; (repeat (first | (with_reducible exact Below.refl _ _) | (with_reducible assumption) | (with_reducible refine Near.up _ ?_) | (with_reducible refine Below.drew ?_) | (with_reducible refine below_alloc_on ?_ _) | (with_reducible refine below_set_on ?_ (by first | (simp; done) | (simp; omega) | omega) _))))
    clear hb
    have z_w5 : W.heap.size ≤ w5.heap.size := A.size
    go_wp2
    all_goals go_ret
    all_goals exact ⟨rfl, A⟩
  · have t0 : decide (100 < (a.size : Int)) = false := decide_eq_false (by omega)
    by_cases h2 : 100 < b.size
    · have t1 : decide (100 < (b.size : Int)) = true := decide_eq_true (by omega)
      go_enter Try.func7, Try.ntmps7
      go_wp2_with (fail)
      refine (law40_awake _).mono ?_
      rintro e w5 ⟨rfl, hb⟩
      replace A : Below W.heap.size W w5 := by (refine below_call ?_ hb; (repeat (first | (with_reducible exact Below.refl _ _) | (with_reducible assumption) | (with_reducible refine Near.up _ ?_) | (with_reducible refine Below.drew ?_) | (with_reducible refine below_alloc_on ?_ _) | (with_reducible refine below_set_on ?_ (by first | (simp; done) | (simp; omega) | omega) _))))
      clear hb
      have z_w5 : W.heap.size ≤ w5.heap.size := A.size
      go_wp2
      all_goals go_ret
      all_goals exact ⟨rfl, A⟩
    · have t1 : decide (100 < (b.size : Int)) = false := decide_eq_false (by omega)
      have HB := fun w => re_boot a b ⟨#[]⟩ false 0 0 w (by omega) (by omega)
      have HX := Lib.hid (fun w => j_get a w (by omega))
      have HY := Lib.hid (fun w => j_get b w (by omega))
      have hor := nw_or a b
      cases hp : boB a b
      · rw [hp, hor] at HB
        simp only [show ∀ x, boI false x = 0 from fun _ => rfl, show boM false = 1 from rfl] at HB
        have HB := Lib.hid HB
        clear hor hp h1 h2
        generalize gtB a = x at *
        generalize gtB b = y at *
        cases x <;> cases y
        all_goals
          go_enter Try.func7, Try.ntmps7
          go_wp2_with (fail)
          refine (HB.out _).mono ?_
          rintro e w1 ⟨rfl, hb⟩
          replace A : Below W.heap.size W w1 := by (refine below_call ?_ hb; (repeat (first | (with_reducible exact Below.refl _ _) | (with_reducible assumption) | (with_reducible refine Near.up _ ?_) | (with_reducible refine Below.drew ?_) | (with_reducible refine below_alloc_on ?_ _) | (with_reducible refine below_set_on ?_ (by first | (simp; done) | (simp; omega) | omega) _))))
          replace P := Box.below (g := W.heap.size) (by (repeat (first | (with_reducible assumption) | (with_reducible exact box_new _ _ _) | ((with_reducible apply box_at); (first | (with_reducible rfl) | (simp <;> omega))) | (with_reducible apply Box.drew) | (with_reducible apply Box.drewN) | (with_reducible apply Box.near) | (with_reducible apply Box.alloc) | ((with_reducible apply box_far); (first | assumption | omega | (simp <;> omega))) | ((with_reducible apply Box.one_set); (with_reducible assumption)) | ((with_reducible apply Box.two_set); (with_reducible assumption)) | ((with_reducible apply Box.three_set); (with_reducible assumption)) | (with_reducible apply Box.set) | (simp only [List.size_toArray, List.length_cons, List.length_nil, Array.size_setIfInBounds] <;> omega)))) hb
          (try simp only [List.setIfInBounds_toArray, List.set_cons_zero, List.set_cons_succ] at P)
          (try clear cP fP)
          clear hb
          have z_w1 : W.heap.size ≤ w1.heap.size := A.size
          obtain ⟨lP_w1, cP, fP⟩ := id P
          have n1 : ¬ W.heap.size = w1.heap.size := by omega
          go_wp2_with (fail)
          refine (HX.out _).mono ?_
          rintro e w2 ⟨rfl, hb⟩
          replace A : Below W.heap.size W w2 := by (refine below_call ?_ hb; (repeat (first | (with_reducible exact Below.refl _ _) | (with_reducible assumption) | (with_reducible refine Near.up _ ?_) | (with_reducible refine Below.drew ?_) | (with_reducible refine below_alloc_on ?_ _) | (with_reducible refine below_set_on ?_ (by first | (simp; done) | (simp; omega) | omega) _))))
          replace P := Box.below (g := W.heap.size) (by (repeat (first | (with_reducible assumption) | (with_reducible exact box_new _ _ _) | ((with_reducible apply box_at); (first | (with_reducible rfl) | (simp <;> omega))) | (with_reducible apply Box.drew) | (with_reducible apply Box.drewN) | (with_reducible apply Box.near) | (with_reducible apply Box.alloc) | ((with_reducible apply box_far); (first | assumption | omega | (simp <;> omega))) | ((with_reducible apply Box.one_set); (with_reducible assumption)) | ((with_reducible apply Box.two_set); (with_reducible assumption)) | ((with_reducible apply Box.three_set); (with_reducible assumption)) | (with_reducible apply Box.set) | (simp only [List.size_toArray, List.length_cons, List.length_nil, Array.size_setIfInBounds] <;> omega)))) hb
          (try simp only [List.setIfInBounds_toArray, List.set_cons_zero, List.set_cons_succ] at P)
          (try clear cP fP)
          replace B := Box.below (g := w1.heap.size) (by (repeat (first | (with_reducible assumption) | (with_reducible exact box_new _ _ _) | ((with_reducible apply box_at); (first | (with_reducible rfl) | (simp <;> omega))) | (with_reducible apply Box.drew) | (with_reducible apply Box.drewN) | (with_reducible apply Box.near) | (with_reducible apply Box.alloc) | ((with_reducible apply box_far); (first | assumption | omega | (simp <;> omega))) | ((with_reducible apply Box.one_set); (with_reducible assumption)) | ((with_reducible apply Box.two_set); (with_reducible assumption)) | ((with_reducible apply Box.three_set); (with_reducible assumption)) | (with_reducible apply Box.set) | (simp only [List.size_toArray, List.length_cons, List.length_nil, Array.size_setIfInBounds] <;> omega)))) hb
          (try simp only [List.setIfInBounds_toArray, List.set_cons_zero, List.set_cons_succ] at B)
          (try clear cB fB)
          clear hb
          have z_w2 : W.heap.size ≤ w2.heap.size := A.size
          obtain ⟨lP_w2, cP, fP⟩ := id P
          obtain ⟨lB_w2, cB, fB⟩ := id B
          have n2 : ¬ W.heap.size = w2.heap.size := by omega
          have n3 : ¬ w1.heap.size = w2.heap.size := by omega
          go_wp2_with (fail)
          refine (HY.out _).mono ?_
          rintro e w3 ⟨rfl, hb⟩
          replace A : Below W.heap.size W w3 := by (refine below_call ?_ hb; (repeat (first | (with_reducible exact Below.refl _ _) | (with_reducible assumption) | (with_reducible refine Near.up _ ?_) | (with_reducible refine Below.drew ?_) | (with_reducible refine below_alloc_on ?_ _) | (with_reducible refine below_set_on ?_ (by first | (simp; done) | (simp; omega) | omega) _))))
          replace P := Box.below (g := W.heap.size) (by (repeat (first | (with_reducible assumption) | (with_reducible exact box_new _ _ _) | ((with_reducible apply box_at); (first | (with_reducible rfl) | (simp <;> omega))) | (with_reducible apply Box.drew) | (with_reducible apply Box.drewN) | (with_reducible apply Box.near) | (with_reducible apply Box.alloc) | ((with_reducible apply box_far); (first | assumption | omega | (simp <;> omega))) | ((with_reducible apply Box.one_set); (with_reducible assumption)) | ((with_reducible apply Box.two_set); (with_reducible assumption)) | ((with_reducible apply Box.three_set); (with_reducible assumption)) | (with_reducible apply Box.set) | (simp only [List.size_toArray, List.length_cons, List.length_nil, Array.size_setIfInBounds] <;> omega)))) hb
          (try simp only [List.setIfInBounds_toArray, List.set_cons_zero, List.set_cons_succ] at P)
          (try clear cP fP)
          replace B := Box.below (g := w1.heap.size) (by (repeat (first | (with_reducible assumption) | (with_reducible exact box_new _ _ _) | ((with_reducible apply box_at); (first | (with_reducible rfl) | (simp <;> omega))) | (with_reducible apply Box.drew) | (with_reducible apply Box.drewN) | (with_reducible apply Box.near) | (with_reducible apply Box.alloc) | ((with_reducible apply box_far); (first | assumption | omega | (simp <;> omega))) | ((with_reducible apply Box.one_set); (with_reducible assumption)) | ((with_reducible apply Box.two_set); (with_reducible assumption)) | ((with_reducible apply Box.three_set); (with_reducible assumption)) | (with_reducible apply Box.set) | (simp only [List.size_toArray, List.length_cons, List.length_nil, Array.size_setIfInBounds] <;> omega)))) hb
          (try simp only [List.setIfInBounds_toArray, List.set_cons_zero, List.set_cons_succ] at B)
          (try clear cB fB)
          clear hb
          have z_w3 : W.heap.size ≤ w3.heap.size := A.size
          obtain ⟨lP_w3, cP, fP⟩ := id P
          obtain ⟨lB_w3, cB, fB⟩ := id B
          have n4 : ¬ W.heap.size = w3.heap.size := by omega
          have n5 : ¬ w1.heap.size = w3.heap.size := by omega
          go_wp2_with (fail)
          refine (law40_awake _).mono ?_
          rintro e w5 ⟨rfl, hb⟩
          replace A : Below W.heap.size W w5 := by (refine below_call ?_ hb; (repeat (first | (with_reducible exact Below.refl _ _) | (with_reducible assumption) | (with_reducible refine Near.up _ ?_) | (with_reducible refine Below.drew ?_) | (with_reducible refine below_alloc_on ?_ _) | (with_reducible refine below_set_on ?_ (by first | (simp; done) | (simp; omega) | omega) _))))
          clear hb
          have z_w5 : W.heap.size ≤ w5.heap.size := A.size
          go_wp2
          all_goals go_ret
          all_goals exact ⟨rfl, A⟩
      · obtain ⟨hg, hc, hs⟩ := bo_parts hp
        have HC := fun w => pr_check (gtV (nwT a b) 2) (gtV (nwT a b) 3) (gtV (nwT a b) 4) w
        rw [hc] at HC
        rw [hp, hg] at HB
        simp only [show ∀ x, boI true x = x from fun _ => rfl, show boM true = 4 from rfl] at HB
        have HB := Lib.hid HB
        have HC := Lib.hid HC
        have hd := decide_eq_true hs
        clear hor hp h1 h2 hg hc hs
        generalize gtV (nwT a b) 0 = e0 at *
        generalize gtV (nwT a b) 2 = e2 at *
        generalize gtV (nwT a b) 3 = e3 at *
        generalize gtV (nwT a b) 4 = e4 at *
        generalize gtV (nwT a b) 5 = e5 at *
        generalize gtV (nwT a b) 6 = e6 at *
        generalize gtV (nwT a b) 7 = e7 at *
        generalize nwS a b = sl at *
        go_enter Try.func7, Try.ntmps7
        go_wp2_with (fail)
        refine (HB.out _).mono ?_
        rintro e w1 ⟨rfl, hb⟩
        replace A : Below W.heap.size W w1 := by (refine below_call ?_ hb; (repeat (first | (with_reducible exact Below.refl _ _) | (with_reducible assumption) | (with_reducible refine Near.up _ ?_) | (with_reducible refine Below.drew ?_) | (with_reducible refine below_alloc_on ?_ _) | (with_reducible refine below_set_on ?_ (by first | (simp; done) | (simp; omega) | omega) _))))
        replace P := Box.below (g := W.heap.size) (by (repeat (first | (with_reducible assumption) | (with_reducible exact box_new _ _ _) | ((with_reducible apply box_at); (first | (with_reducible rfl) | (simp <;> omega))) | (with_reducible apply Box.drew) | (with_reducible apply Box.drewN) | (with_reducible apply Box.near) | (with_reducible apply Box.alloc) | ((with_reducible apply box_far); (first | assumption | omega | (simp <;> omega))) | ((with_reducible apply Box.one_set); (with_reducible assumption)) | ((with_reducible apply Box.two_set); (with_reducible assumption)) | ((with_reducible apply Box.three_set); (with_reducible assumption)) | (with_reducible apply Box.set) | (simp only [List.size_toArray, List.length_cons, List.length_nil, Array.size_setIfInBounds] <;> omega)))) hb
        (try simp only [List.setIfInBounds_toArray, List.set_cons_zero, List.set_cons_succ] at P)
        (try clear cP fP)
        clear hb
        have z_w1 : W.heap.size ≤ w1.heap.size := A.size
        obtain ⟨lP_w1, cP, fP⟩ := id P
        have n1 : ¬ W.heap.size = w1.heap.size := by omega
        go_wp2_with (fail)
        refine (HX.out _).mono ?_
        rintro e w2 ⟨rfl, hb⟩
        replace A : Below W.heap.size W w2 := by (refine below_call ?_ hb; (repeat (first | (with_reducible exact Below.refl _ _) | (with_reducible assumption) | (with_reducible refine Near.up _ ?_) | (with_reducible refine Below.drew ?_) | (with_reducible refine below_alloc_on ?_ _) | (with_reducible refine below_set_on ?_ (by first | (simp; done) | (simp; omega) | omega) _))))
        replace P := Box.below (g := W.heap.size) (by (repeat (first | (with_reducible assumption) | (with_reducible exact box_new _ _ _) | ((with_reducible apply box_at); (first | (with_reducible rfl) | (simp <;> omega))) | (with_reducible apply Box.drew) | (with_reducible apply Box.drewN) | (with_reducible apply Box.near) | (with_reducible apply Box.alloc) | ((with_reducible apply box_far); (first | assumption | omega | (simp <;> omega))) | ((with_reducible apply Box.one_set); (with_reducible assumption)) | ((with_reducible apply Box.two_set); (with_reducible assumption)) | ((with_reducible apply Box.three_set); (with_reducible assumption)) | (with_reducible apply Box.set) | (simp only [List.size_toArray, List.length_cons, List.length_nil, Array.size_setIfInBounds] <;> omega)))) hb
        (try simp only [List.setIfInBounds_toArray, List.set_cons_zero, List.set_cons_succ] at P)
        (try clear cP fP)
        replace B := Box.below (g := w1.heap.size) (by (repeat (first | (with_reducible assumption) | (with_reducible exact box_new _ _ _) | ((with_reducible apply box_at); (first | (with_reducible rfl) | (simp <;> omega))) | (with_reducible apply Box.drew) | (with_reducible apply Box.drewN) | (with_reducible apply Box.near) | (with_reducible apply Box.alloc) | ((with_reducible apply box_far); (first | assumption | omega | (simp <;> omega))) | ((with_reducible apply Box.one_set); (with_reducible assumption)) | ((with_reducible apply Box.two_set); (with_reducible assumption)) | ((with_reducible apply Box.three_set); (with_reducible assumption)) | (with_reducible apply Box.set) | (simp only [List.size_toArray, List.length_cons, List.length_nil, Array.size_setIfInBounds] <;> omega)))) hb
        (try simp only [List.setIfInBounds_toArray, List.set_cons_zero, List.set_cons_succ] at B)
        (try clear cB fB)
        clear hb
        have z_w2 : W.heap.size ≤ w2.heap.size := A.size
        obtain ⟨lP_w2, cP, fP⟩ := id P
        obtain ⟨lB_w2, cB, fB⟩ := id B
        have n2 : ¬ W.heap.size = w2.heap.size := by omega
        have n3 : ¬ w1.heap.size = w2.heap.size := by omega
        go_wp2_with (fail)
        refine (HY.out _).mono ?_
        rintro e w3 ⟨rfl, hb⟩
        replace A : Below W.heap.size W w3 := by (refine below_call ?_ hb; (repeat (first | (with_reducible exact Below.refl _ _) | (with_reducible assumption) | (with_reducible refine Near.up _ ?_) | (with_reducible refine Below.drew ?_) | (with_reducible refine below_alloc_on ?_ _) | (with_reducible refine below_set_on ?_ (by first | (simp; done) | (simp; omega) | omega) _))))
        replace P := Box.below (g := W.heap.size) (by (repeat (first | (with_reducible assumption) | (with_reducible exact box_new _ _ _) | ((with_reducible apply box_at); (first | (with_reducible rfl) | (simp <;> omega))) | (with_reducible apply Box.drew) | (with_reducible apply Box.drewN) | (with_reducible apply Box.near) | (with_reducible apply Box.alloc) | ((with_reducible apply box_far); (first | assumption | omega | (simp <;> omega))) | ((with_reducible apply Box.one_set); (with_reducible assumption)) | ((with_reducible apply Box.two_set); (with_reducible assumption)) | ((with_reducible apply Box.three_set); (with_reducible assumption)) | (with_reducible apply Box.set) | (simp only [List.size_toArray, List.length_cons, List.length_nil, Array.size_setIfInBounds] <;> omega)))) hb
        (try simp only [List.setIfInBounds_toArray, List.set_cons_zero, List.set_cons_succ] at P)
        (try clear cP fP)
        replace B := Box.below (g := w1.heap.size) (by (repeat (first | (with_reducible assumption) | (with_reducible exact box_new _ _ _) | ((with_reducible apply box_at); (first | (with_reducible rfl) | (simp <;> omega))) | (with_reducible apply Box.drew) | (with_reducible apply Box.drewN) | (with_reducible apply Box.near) | (with_reducible apply Box.alloc) | ((with_reducible apply box_far); (first | assumption | omega | (simp <;> omega))) | ((with_reducible apply Box.one_set); (with_reducible assumption)) | ((with_reducible apply Box.two_set); (with_reducible assumption)) | ((with_reducible apply Box.three_set); (with_reducible assumption)) | (with_reducible apply Box.set) | (simp only [List.size_toArray, List.length_cons, List.length_nil, Array.size_setIfInBounds] <;> omega)))) hb
        (try simp only [List.setIfInBounds_toArray, List.set_cons_zero, List.set_cons_succ] at B)
        (try clear cB fB)
        clear hb
        have z_w3 : W.heap.size ≤ w3.heap.size := A.size
        obtain ⟨lP_w3, cP, fP⟩ := id P
        obtain ⟨lB_w3, cB, fB⟩ := id B
        have n4 : ¬ W.heap.size = w3.heap.size := by omega
        have n5 : ¬ w1.heap.size = w3.heap.size := by omega
        go_wp2_with (fail)
        refine (HC.out _).mono ?_
        rintro e w4 ⟨rfl, hb⟩
        replace A : Below W.heap.size W w4 := by (refine below_call ?_ hb; (repeat (first | (with_reducible exact Below.refl _ _) | (with_reducible assumption) | (with_reducible refine Near.up _ ?_) | (with_reducible refine Below.drew ?_) | (with_reducible refine below_alloc_on ?_ _) | (with_reducible refine below_set_on ?_ (by first | (simp; done) | (simp; omega) | omega) _))))
        replace B := Box.below (g := w1.heap.size) (by (repeat (first | (with_reducible assumption) | (with_reducible exact box_new _ _ _) | ((with_reducible apply box_at); (first | (with_reducible rfl) | (simp <;> omega))) | (with_reducible apply Box.drew) | (with_reducible apply Box.drewN) | (with_reducible apply Box.near) | (with_reducible apply Box.alloc) | ((with_reducible apply box_far); (first | assumption | omega | (simp <;> omega))) | ((with_reducible apply Box.one_set); (with_reducible assumption)) | ((with_reducible apply Box.two_set); (with_reducible assumption)) | ((with_reducible apply Box.three_set); (with_reducible assumption)) | (with_reducible apply Box.set) | (simp only [List.size_toArray, List.length_cons, List.length_nil, Array.size_setIfInBounds] <;> omega)))) hb
        (try simp only [List.setIfInBounds_toArray, List.set_cons_zero, List.set_cons_succ] at B)
        (try clear cB fB)
        clear hb
        have z_w4 : W.heap.size ≤ w4.heap.size := A.size
        obtain ⟨lB_w4, cB, fB⟩ := id B
        go_wp2_with (fail)
        refine (law40_awake _).mono ?_
        rintro e w5 ⟨rfl, hb⟩
        replace A : Below W.heap.size W w5 := by (refine below_call ?_ hb; (repeat (first | (with_reducible exact Below.refl _ _) | (with_reducible assumption) | (with_reducible refine Near.up _ ?_) | (with_reducible refine Below.drew ?_) | (with_reducible refine below_alloc_on ?_ _) | (with_reducible refine below_set_on ?_ (by first | (simp; done) | (simp; omega) | omega) _))))
        clear hb
        have z_w5 : W.heap.size ≤ w5.heap.size := A.size
        go_wp2
        all_goals go_ret
        all_goals exact ⟨rfl, A⟩

set_option maxRecDepth 100000 in
theorem lifted (os : Os) (started : os.Started) (H : Type) (enc : TypeId × Value → H) :
    ReturnsInHanded {} Try.checked os 7 .any (Rows.reviveSafeSpec.pre6 enc Try.prog Try.f7 Rows.reviveSafeRow.domain false) (Rows.reviveSafeSpec.post enc Try.prog Try.f7 false true false false) := by
  refine law_lift started (by kernel_rfl) Try.func7 rfl rfl ?_ (by kernel_rfl)
    (ChangeSpec.witness6 (enc := enc) (C := Try.checked) false ⟨#[], #[.agg #[.string ⟨#[]⟩, .string ⟨#[]⟩]], []⟩ 8 (by kernel_rfl) (by kernel_rfl) (by kernel_rfl) (by kernel_rfl)) ?_
  · intro ds hl
    match ds, hl with
    | [_], _ => exact ⟨rfl, rfl, rfl⟩
  · intro W base args ds p hval hA hlt hwt
    rw [Try.params7] at hA hval hwt
    obtain ⟨v0, vs0, d0, ds0, p0, q0, hargs, rfl, rfl, h0, r0⟩ := trodAll_cons hA
    obtain ⟨rfl, rfl, rfl⟩ := trodAll_nil r0
    obtain rfl : args = #[v0] := by cases args; simp_all
    obtain ⟨cs0, rfl, l0, k0⟩ := open_leaves 5 [.string, .string] (by kernel_rfl) (by kernel_rfl) (hval 0 52 v0 rfl rfl) h0
    match cs0, l0, k0 with
    | [y0_0, y0_1], _, k0 =>
    obtain ⟨x0_0, e0_0, w0_0⟩ : leafIs (.string) y0_0 := k0 0 _ rfl
    subst e0_0
    obtain ⟨x0_1, e0_1, w0_1⟩ : leafIs (.string) y0_1 := k0 1 _ rfl
    subst e0_1
    exact walk x0_0 w0_0 x0_1 w0_1 W

theorem over : Rows.reviveSafeRow.holds Try.pinned (OpenSpec.ofChange Rows.reviveSafeSpec) :=
  OpenClaim.holds_of_wide 7 Try.f7 rfl rfl rfl rfl rfl rfl rfl ⟨rfl, rfl, rfl, rfl, rfl⟩ rfl rfl rfl rfl rfl (by kernel_rfl) Try.func7 (by kernel_rfl)
    (of_decide_eq_true (by kernel_rfl)) (by unfold Func.isWrapper; first | (rw [if_pos (by decide +kernel)]; kernel_rfl) | (rw [if_neg (by decide +kernel)]; exact ⟨rfl, rfl⟩))
    (fun os started H enc _ => lifted os started H enc)

theorem proved : Rows.ReviveSafeSaid := over
#print axioms proved
end Go.Proofs.Ytfkgdgfefpfdpaa.reviveSafe
