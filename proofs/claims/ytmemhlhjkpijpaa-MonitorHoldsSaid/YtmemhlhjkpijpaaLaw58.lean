/- The law package's own check of the monitor. -/
import Derived.Test.YtmemhlhjkpijpaaMonL
import Derived.Test.YtmemhlhjkpijpaaRead
import Derived.Test.YtmemhlhjkpijpaaArr
namespace Go.Proofs.Ytmemhlhjkpijpaa
open Go.RowKit
set_option linter.unusedVariables false
set_option linter.unusedSimpArgs false
set_option maxRecDepth 100000
attribute [local go_sem] cell_set_ite Near.cell Near.frozen

theorem lit_ints (w : World) (xs : List Int) : Ints (w.alloc (.cells (xs.map (Value.int .i64)).toArray 3)) (some ⟨w.heap.size, 0, none⟩) xs.length xs := by
  refine ⟨rfl, fun _ => ⟨w.heap.size, 0, rfl, by simp, fun i hi => ?_⟩⟩
  rw [World.cell?_alloc_at _ _ _ _ (by simp)]
  simp [List.getD, List.getElem?_eq_getElem hi]
theorem lit_truths (w : World) (xs : List Bool) : Truths (w.alloc (.cells (xs.map Value.bool).toArray 4)) (some ⟨w.heap.size, 0, none⟩) xs.length xs := by
  refine ⟨rfl, fun _ => ⟨w.heap.size, 0, rfl, by simp, fun i hi => ?_⟩⟩
  rw [World.cell?_alloc_at _ _ _ _ (by simp)]
  simp [List.getD, List.getElem?_eq_getElem hi]
theorem terms_two (w : World) (t0 t1 : Tm) (h0 : t0.b ≤ 9223372036854775807) (h1 : t1.b ≤ 9223372036854775807) :
    Terms (w.alloc (.cells #[.int .i64 t0.op, .int .i64 t0.a, .int .i64 t0.b, .int .i64 t1.op, .int .i64 t1.a, .int .i64 t1.b] 36)) (some ⟨w.heap.size, 0, none⟩) 2 (fun i => if i = 0 then t0 else t1) := by
  refine ⟨fun i hi => ?_, fun _ => ⟨w.heap.size, 0, rfl, by simp, fun i hi => ?_⟩⟩
  · match i, hi with
    | 0, _ => exact h0
    | 1, _ => exact h1
  · rw [World.cell?_alloc_at _ _ _ _ (by simp), World.cell?_alloc_at _ _ _ _ (by simp), World.cell?_alloc_at _ _ _ _ (by simp)]
    match i, hi with
    | 0, _ => exact ⟨rfl, rfl, rfl⟩
    | 1, _ => exact ⟨rfl, rfl, rfl⟩
theorem terms_three (w : World) (t0 t1 t2 : Tm) (h0 : t0.b ≤ 9223372036854775807) (h1 : t1.b ≤ 9223372036854775807) (h2 : t2.b ≤ 9223372036854775807) :
    Terms (w.alloc (.cells #[.int .i64 t0.op, .int .i64 t0.a, .int .i64 t0.b, .int .i64 t1.op, .int .i64 t1.a, .int .i64 t1.b, .int .i64 t2.op, .int .i64 t2.a, .int .i64 t2.b] 36)) (some ⟨w.heap.size, 0, none⟩) 3 (fun i => if i = 0 then t0 else if i = 1 then t1 else t2) := by
  refine ⟨fun i hi => ?_, fun _ => ⟨w.heap.size, 0, rfl, by simp, fun i hi => ?_⟩⟩
  · match i, hi with
    | 0, _ => exact h0
    | 1, _ => exact h1
    | 2, _ => exact h2
  · rw [World.cell?_alloc_at _ _ _ _ (by simp), World.cell?_alloc_at _ _ _ _ (by simp), World.cell?_alloc_at _ _ _ _ (by simp)]
    match i, hi with
    | 0, _ => exact ⟨rfl, rfl, rfl⟩
    | 1, _ => exact ⟨rfl, rfl, rfl⟩
    | 2, _ => exact ⟨rfl, rfl, rfl⟩
theorem outs_cells : ∀ i, i < 3 → ∀ j, j < 11 → (#[.int .i64 0, .int .i64 0, .int .i64 0, .int .i64 0, .int .i64 0, .int .i64 0, .int .i64 0, .int .i64 0, .int .i64 0, .bool true, .string ⟨#[]⟩, .int .i64 0, .int .i64 0, .int .i64 0, .int .i64 0, .int .i64 0, .int .i64 0, .int .i64 0, .int .i64 0, .int .i64 0, .bool false, .string ⟨#[]⟩, .int .i64 0, .int .i64 0, .int .i64 0, .int .i64 0, .int .i64 0, .int .i64 0, .int .i64 0, .int .i64 0, .int .i64 0, .bool false, .string ⟨#[]⟩] : Array Value)[i * 11 + j]? = (osL i).cells[j]? := by
  intro i hi
  match i, hi with
  | 0, _ => intro j hj; match j, hj with
    | 0, _ => rfl
    | 1, _ => rfl
    | 2, _ => rfl
    | 3, _ => rfl
    | 4, _ => rfl
    | 5, _ => rfl
    | 6, _ => rfl
    | 7, _ => rfl
    | 8, _ => rfl
    | 9, _ => rfl
    | 10, _ => rfl
  | 1, _ => intro j hj; match j, hj with
    | 0, _ => rfl
    | 1, _ => rfl
    | 2, _ => rfl
    | 3, _ => rfl
    | 4, _ => rfl
    | 5, _ => rfl
    | 6, _ => rfl
    | 7, _ => rfl
    | 8, _ => rfl
    | 9, _ => rfl
    | 10, _ => rfl
  | 2, _ => intro j hj; match j, hj with
    | 0, _ => rfl
    | 1, _ => rfl
    | 2, _ => rfl
    | 3, _ => rfl
    | 4, _ => rfl
    | 5, _ => rfl
    | 6, _ => rfl
    | 7, _ => rfl
    | 8, _ => rfl
    | 9, _ => rfl
    | 10, _ => rfl

theorem outs_three (w : World) : Outs (w.alloc (.cells #[.int .i64 0, .int .i64 0, .int .i64 0, .int .i64 0, .int .i64 0, .int .i64 0, .int .i64 0, .int .i64 0, .int .i64 0, .bool true, .string ⟨#[]⟩, .int .i64 0, .int .i64 0, .int .i64 0, .int .i64 0, .int .i64 0, .int .i64 0, .int .i64 0, .int .i64 0, .int .i64 0, .bool false, .string ⟨#[]⟩, .int .i64 0, .int .i64 0, .int .i64 0, .int .i64 0, .int .i64 0, .int .i64 0, .int .i64 0, .int .i64 0, .int .i64 0, .bool false, .string ⟨#[]⟩] 29)) (some ⟨w.heap.size, 0, none⟩) 3 osL := fun _ => by
  refine ⟨w.heap.size, 0, rfl, by simp, fun i hi j hj => ?_⟩
  rw [World.cell?_alloc_at _ _ _ _ (by simp), Nat.zero_add]
  exact outs_cells i hi j hj

set_option maxHeartbeats 2000000 in
theorem same_truths {A B : Option Addr} {n d e : Nat} {ps : List Bool} {w : World} (hn : n ≤ 17592186044416) (ha : Truths w A n ps) (hb : Truths w B n ps) : Calls Try.prog 26 #[.slice A n d, .slice B n e] w fun x w' => x = .returned (.bool true) ∧ Below w.heap.size w w' := by
  go_enter Try.func26, Try.ntmps26
  go_wp2
  go_loopg [13] n (fun gk i wr => ∃ k : Nat, k ≤ n ∧ gk = n - k ∧ i = .int .i64 k ∧ Below w.heap.size w wr)
  case atStart => exact ⟨0, by omega, rfl, rfl, Below.refl _ _⟩
  case round =>
    obtain ⟨k, hk, rfl, rfl, A1⟩ := hrel
    by_cases hlt : k < n
    · obtain ⟨g, o1, rfl, lg, c0⟩ := (ha.below A1).at_ hlt
      obtain ⟨h, o2, rfl, lh, d0⟩ := (hb.below A1).at_ hlt
      have HA := Lib.hid ha
      have HB := Lib.hid hb
      clear ha hb
      generalize ps.getD k false = x0 at *
      cases x0
      all_goals
        go_wp2
        refine wp_region_calm (by kernel_rfl) (by kernel_rfl) ?_
        repeat (go_big_quiet_step ((fail)))
        refine wpQuiet_nil ?_
        intro _ hw'
        obtain ⟨u, rfl⟩ := hw'
        have A2 := below_call A1 u.below
        clear c0 d0
        go_wp2
        go_roundg (n - (k + 1))
        case measure => omega
        case rel => exact ⟨k + 1, by omega, by omega, by go_num, A2⟩
    · obtain rfl : k = n := by omega
      clear ha hb
      go_wp2
      all_goals go_ret
      all_goals exact ⟨rfl, A1⟩
theorem same_listI {A B : Option Addr} {n m c d : Nat} {xs : List Int} {w : World} (h : Ints w A n xs) (g : Ints w B m xs) (hn : n ≤ 100000) (hm : m ≤ 100000) :
    Calls Try.prog 25 #[.slice A n c, .slice B m d] w fun e w' => e = .returned (.bool true) ∧ Below w.heap.size w w' := by
  have hq := law4_ints A B n c m d xs xs w h g (by omega) (by omega)
  rw [eqL_refl] at hq
  exact hq.mono fun _ _ ⟨he, t, hw⟩ => ⟨he, hw ▸ below_drewN (Below.refl _ _) t⟩

set_option maxHeartbeats 4000000 in
theorem law58_awake (w : World) : Calls Try.prog 15 #[] w fun e w' => e = .returned (.bool true) ∧ Below w.heap.size w w' := by
  have A0 : Below w.heap.size w w := Below.refl _ _
  have HT := terms_two w ⟨2, 9, 1⟩ ⟨6, 1, 0⟩ (by decide) (by decide)
  have A1 := below_alloc_on A0 (.cells #[.int .i64 2, .int .i64 9, .int .i64 1, .int .i64 6, .int .i64 1, .int .i64 0] 36)
  have hT : Terms (w.alloc (.cells #[.int .i64 2, .int .i64 9, .int .i64 1, .int .i64 6, .int .i64 1, .int .i64 0] 36)) (some ⟨w.heap.size, 0, none⟩) 2 (tsO 1) := HT
  have HTX := Lib.hid hT
  clear HT hT
  have hr := rtO (a := 1) (by decide) (by decide)
  go_enter Try.func15, Try.ntmps15
  go_wp2_with (fail)
  generalize w.alloc (.cells #[.int .i64 2, .int .i64 9, .int .i64 1, .int .i64 6, .int .i64 1, .int .i64 0] 36) = w1 at *
  refine (mo_new _ 2 2 (tsO 1) w1 HTX.out hr).mono ?_
  rintro e w2 ⟨g1, rfl, C1, wg1, hb⟩
  have A2 := below_call A1 hb
  have HT2 := Lib.hid (HTX.out.below hb)
  have hC1 := C1.ints
  rw [show (List.range 2).map (fun i => frV (tsO 1 i).op) = [0, -1] from by decide] at hC1
  have HK := Lib.hid hC1
  clear hb A1 HTX C1 hC1 wg1
  go_wp2_with (fail)
  have hS := mo_next _ 2 2 (tsO 1) _ 2 [0, -1] (ouD true) w2 HT2.out HK.out hr
  rw [show skF (tsO 1) [0, -1] (ouD true) 2 0 = true from by decide] at hS
  refine hS.mono ?_
  rintro e w3 ⟨g2, rfl, C2, wg2, hb⟩
  have A3 := below_call A2 hb
  have HT3 := Lib.hid (HT2.out.below hb)
  have HK3 := Lib.hid (HK.out.below hb)
  have hC2 := C2.ints
  rw [show (List.range 2).map (nxV (tsO 1) [0, -1] (ouD true)) = [0, 0] from by decide] at hC2
  have HM := Lib.hid hC2
  clear hS hb A2 HT2 HK C2 hC2 wg2
  go_wp2_with (fail)
  have A4 := below_alloc_on A3 (.cells #[.int .i64 0, .int .i64 0, .int .i64 0, .int .i64 0, .int .i64 0, .int .i64 0, .int .i64 0, .int .i64 0, .int .i64 0, .bool true, .string ⟨#[]⟩, .int .i64 0, .int .i64 0, .int .i64 0, .int .i64 0, .int .i64 0, .int .i64 0, .int .i64 0, .int .i64 0, .int .i64 0, .bool false, .string ⟨#[]⟩, .int .i64 0, .int .i64 0, .int .i64 0, .int .i64 0, .int .i64 0, .int .i64 0, .int .i64 0, .int .i64 0, .int .i64 0, .bool false, .string ⟨#[]⟩] 29)
  have hR := mo_run _ 2 2 (tsO 1) _ 3 3 osL _ (HT3.out.below (below_alloc_on (Below.refl _ _) (.cells #[.int .i64 0, .int .i64 0, .int .i64 0, .int .i64 0, .int .i64 0, .int .i64 0, .int .i64 0, .int .i64 0, .int .i64 0, .bool true, .string ⟨#[]⟩, .int .i64 0, .int .i64 0, .int .i64 0, .int .i64 0, .int .i64 0, .int .i64 0, .int .i64 0, .int .i64 0, .int .i64 0, .bool false, .string ⟨#[]⟩, .int .i64 0, .int .i64 0, .int .i64 0, .int .i64 0, .int .i64 0, .int .i64 0, .int .i64 0, .int .i64 0, .int .i64 0, .bool false, .string ⟨#[]⟩] 29))) (outs_three w3) hr (by decide)
  have HK4 := Lib.hid (HK3.out.below (below_alloc_on (Below.refl _ _) (.cells #[.int .i64 0, .int .i64 0, .int .i64 0, .int .i64 0, .int .i64 0, .int .i64 0, .int .i64 0, .int .i64 0, .int .i64 0, .bool true, .string ⟨#[]⟩, .int .i64 0, .int .i64 0, .int .i64 0, .int .i64 0, .int .i64 0, .int .i64 0, .int .i64 0, .int .i64 0, .int .i64 0, .bool false, .string ⟨#[]⟩, .int .i64 0, .int .i64 0, .int .i64 0, .int .i64 0, .int .i64 0, .int .i64 0, .int .i64 0, .int .i64 0, .int .i64 0, .bool false, .string ⟨#[]⟩] 29)))
  have HM4 := Lib.hid (HM.out.below (below_alloc_on (Below.refl _ _) (.cells #[.int .i64 0, .int .i64 0, .int .i64 0, .int .i64 0, .int .i64 0, .int .i64 0, .int .i64 0, .int .i64 0, .int .i64 0, .bool true, .string ⟨#[]⟩, .int .i64 0, .int .i64 0, .int .i64 0, .int .i64 0, .int .i64 0, .int .i64 0, .int .i64 0, .int .i64 0, .int .i64 0, .bool false, .string ⟨#[]⟩, .int .i64 0, .int .i64 0, .int .i64 0, .int .i64 0, .int .i64 0, .int .i64 0, .int .i64 0, .int .i64 0, .int .i64 0, .bool false, .string ⟨#[]⟩] 29)))
  clear A3 HT3 HK3 HM
  generalize w3.alloc (.cells #[.int .i64 0, .int .i64 0, .int .i64 0, .int .i64 0, .int .i64 0, .int .i64 0, .int .i64 0, .int .i64 0, .int .i64 0, .bool true, .string ⟨#[]⟩, .int .i64 0, .int .i64 0, .int .i64 0, .int .i64 0, .int .i64 0, .int .i64 0, .int .i64 0, .int .i64 0, .int .i64 0, .bool false, .string ⟨#[]⟩, .int .i64 0, .int .i64 0, .int .i64 0, .int .i64 0, .int .i64 0, .int .i64 0, .int .i64 0, .int .i64 0, .int .i64 0, .bool false, .string ⟨#[]⟩] 29) = w4 at *
  refine hR.mono ?_
  rintro e w5 ⟨g3, rfl, C3, wg3, hb⟩
  have A5 := below_call A4 hb
  have HK5 := Lib.hid (HK4.out.below hb)
  have HM5 := Lib.hid (HM4.out.below hb)
  have hC3 := C3.truths
  rw [show (List.range 3).map (ruB (tsO 1) 2 osL) = [true, true, false] from by decide] at hC3
  have HB5 := Lib.hid hC3
  clear hR hb A4 HK4 HM4 C3 hC3 wg3
  go_wp2_with (fail)
  have HK6 := Lib.hid (HK5.out.below (below_alloc_on (Below.refl w5.heap.size w5) (.cells #[.int .i64 0, .int .i64 (-1)] 3)))
  refine (same_listI (d := 2) HK6.out (lit_ints w5 [0, -1]) (by decide) (by decide)).mono ?_
  rintro e w6 ⟨rfl, hb⟩
  have A6 := below_call (below_alloc_on A5 (.cells #[.int .i64 0, .int .i64 (-1)] 3)) hb
  have HM6 := Lib.hid ((HM5.out.below (below_alloc_on (Below.refl w5.heap.size w5) (.cells #[.int .i64 0, .int .i64 (-1)] 3))).below hb)
  have HB6 := Lib.hid ((HB5.out.below (below_alloc_on (Below.refl w5.heap.size w5) (.cells #[.int .i64 0, .int .i64 (-1)] 3))).below hb)
  clear hb A5 HK5 HM5 HB5 HK6
  go_wp2_with (fail)
  have HM7 := Lib.hid (HM6.out.below (below_alloc_on (Below.refl w6.heap.size w6) (.cells #[.int .i64 0, .int .i64 0] 3)))
  refine (same_listI (d := 2) HM7.out (lit_ints w6 [0, 0]) (by decide) (by decide)).mono ?_
  rintro e w7 ⟨rfl, hb⟩
  have A7 := below_call (below_alloc_on A6 (.cells #[.int .i64 0, .int .i64 0] 3)) hb
  have HB7 := Lib.hid ((HB6.out.below (below_alloc_on (Below.refl w6.heap.size w6) (.cells #[.int .i64 0, .int .i64 0] 3))).below hb)
  clear hb A6 HM6 HB6 HM7
  go_wp2_with (fail)
  have HB8 := Lib.hid (HB7.out.below (below_alloc_on (Below.refl w7.heap.size w7) (.cells #[.bool true, .bool true, .bool false] 4)))
  refine (same_truths (by decide) HB8.out (lit_truths w7 [true, true, false])).mono ?_
  rintro e w8 ⟨rfl, hb⟩
  have A8 := below_call (below_alloc_on A7 (.cells #[.bool true, .bool true, .bool false] 4)) hb
  clear hb A7 HB7 HB8
  go_wp2
  all_goals go_ret
  all_goals exact ⟨rfl, A8⟩
end Go.Proofs.Ytmemhlhjkpijpaa
