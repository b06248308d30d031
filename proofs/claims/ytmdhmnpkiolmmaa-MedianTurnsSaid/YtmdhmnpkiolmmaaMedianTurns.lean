/- MedianTurns holds of every five numbers: the order in which they came does not matter. No condition. -/
import Derived.Test.YtmdhmnpkiolmmaaLaw8
import Derived.Test.YtmdhmnpkiolmmaaArr
import Derived.StillTailTactics
namespace Go.Proofs.Ytmdhmnpkiolmmaa.medianTurns
open Go.ChangeShapes Go.WideShapes Go.ChangeAt Go.RowKit
set_option linter.unusedVariables false

theorem five_same {xs ys : List Int} (hx : xs.length = 5) (h : xs.Perm ys) : midV ys = midV xs ∧ sprV ys = sprV xs := by
  have hy : ys.length = 5 := by rw [← h.length_eq, hx]
  have e1 : fiveL xs = sortL xs := by
    unfold fiveL; rw [show (5 : Int) = ((xs.length : Nat) : Int) by omega, last_all]
  have e2 : fiveL ys = sortL ys := by
    unfold fiveL; rw [show (5 : Int) = ((ys.length : Nat) : Int) by omega, last_all]
  unfold midV sprV
  rw [e1, e2, sortL_same h, hx, hy]
  exact ⟨rfl, rfl⟩

theorem laid (w w2 : World) (x0 x1 x2 x3 x4 t0 t1 t2 t3 t4 : Int) (A2 : At w w2) (hlt : w.heap.size < w2.heap.size) (D0 : w2.cell? ⟨w.heap.size, 0, none⟩ = some (.int .i64 x0)) (D1 : w2.cell? ⟨w.heap.size, 1, none⟩ = some (.int .i64 x1))
    (D2 : w2.cell? ⟨w.heap.size, 2, none⟩ = some (.int .i64 x2)) (D3 : w2.cell? ⟨w.heap.size, 3, none⟩ = some (.int .i64 x3)) (D4 : w2.cell? ⟨w.heap.size, 4, none⟩ = some (.int .i64 x4)) (hp : [x0, x1, x2, x3, x4].Perm [t0, t1, t2, t3, t4]) :
    ∃ M S : Int, ∀ w4, w4 = (w2.alloc (.cells #[.int .i64 t0, .int .i64 t1, .int .i64 t2, .int .i64 t3, .int .i64 t4] 3)).alloc (.cells #[.int .i64 x4, .int .i64 x3, .int .i64 x2, .int .i64 x1, .int .i64 x0] 3) →
      At w w4 ∧ (∀ w' : World, At w4 w' → Calls Try.prog 8 #[.slice (some ⟨w.heap.size, 0, none⟩) 5 5] w' fun e w'' => e = .returned (.tuple #[.int .i64 M, .bool true]) ∧ At w4 w'') ∧
      (∀ w' : World, At w4 w' → Calls Try.prog 8 #[.slice (some ⟨w2.heap.size, 0, none⟩) 5 5] w' fun e w'' => e = .returned (.tuple #[.int .i64 M, .bool true]) ∧ At w4 w'') ∧
      (∀ w' : World, At w4 w' → Calls Try.prog 8 #[.slice (some ⟨w2.heap.size + 1, 0, none⟩) 5 5] w' fun e w'' => e = .returned (.tuple #[.int .i64 M, .bool true]) ∧ At w4 w'') ∧
      (∀ w' : World, At w4 w' → Calls Try.prog 10 #[.slice (some ⟨w.heap.size, 0, none⟩) 5 5] w' fun e w'' => e = .returned (.tuple #[.int .i64 S, .bool true]) ∧ At w4 w'') ∧
      (∀ w' : World, At w4 w' → Calls Try.prog 10 #[.slice (some ⟨w2.heap.size, 0, none⟩) 5 5] w' fun e w'' => e = .returned (.tuple #[.int .i64 S, .bool true]) ∧ At w4 w'') := by
  refine ⟨midV [x0, x1, x2, x3, x4], sprV [x0, x1, x2, x3, x4], fun w4 e4 => ?_⟩
  have b3 : At w2 (w2.alloc (.cells #[.int .i64 t0, .int .i64 t1, .int .i64 t2, .int .i64 t3, .int .i64 t4] 3)) := alloc_at _ _
  have b4 : At (w2.alloc (.cells #[.int .i64 t0, .int .i64 t1, .int .i64 t2, .int .i64 t3, .int .i64 t4] 3)) w4 := e4 ▸ alloc_at _ _
  have iL2 : Ints w2 (some ⟨w.heap.size, 0, none⟩) 5 [x0, x1, x2, x3, x4] := ⟨rfl, fun _ => ⟨_, _, rfl, hlt, fun i hi => by
    match i, hi with
    | 0, _ => exact D0
    | 1, _ => exact D1
    | 2, _ => exact D2
    | 3, _ => exact D3
    | 4, _ => exact D4⟩⟩
  have iL := (iL2.below b3).below b4
  have iT := (ints_new w2 [t0, t1, t2, t3, t4]).below b4
  have iB0 := ints_new (w2.alloc (.cells #[.int .i64 t0, .int .i64 t1, .int .i64 t2, .int .i64 t3, .int .i64 t4] 3)) [x4, x3, x2, x1, x0]
  have iB : Ints w4 (some ⟨w2.heap.size + 1, 0, none⟩) 5 [x4, x3, x2, x1, x0] := by rw [e4]; simpa using iB0
  have hT := five_same (xs := [x0, x1, x2, x3, x4]) rfl hp
  have hB := five_same (xs := [x0, x1, x2, x3, x4]) (ys := [x4, x3, x2, x1, x0]) rfl (List.reverse_perm [x0, x1, x2, x3, x4]).symm
  refine ⟨(A2.trans b3).trans b4, fun w' h => ?_, fun w' h => ?_, fun w' h => ?_, fun w' h => ?_, fun w' h => ?_⟩
  · exact (l8_mid w4 _ 5 5 _ w' h (iL.below h) (by omega) (by omega)).mono fun e w'' ⟨he, _, hb⟩ => ⟨he, hb⟩
  · exact (l8_mid w4 _ 5 5 _ w' h (iT.below h) (by omega) (by omega)).mono fun e w'' ⟨he, _, hb⟩ => ⟨by rw [he, hT.1]; rfl, hb⟩
  · exact (l8_mid w4 _ 5 5 _ w' h (iB.below h) (by omega) (by omega)).mono fun e w'' ⟨he, _, hb⟩ => ⟨by rw [he, hB.1]; rfl, hb⟩
  · exact (l8_spread w4 _ 5 5 _ w' h (iL.below h) (by omega) (by omega)).mono fun e w'' ⟨he, _, hb⟩ => ⟨he, hb⟩
  · exact (l8_spread w4 _ 5 5 _ w' h (iT.below h) (by omega) (by omega)).mono fun e w'' ⟨he, _, hb⟩ => ⟨by rw [he, hT.2]; rfl, hb⟩

set_option maxRecDepth 100000 in
set_option maxHeartbeats 2000000 in
theorem walk (x0 : Int) (_ : (Lit.int .i64 x0).wf = true) (x1 : Int) (_ : (Lit.int .i64 x1).wf = true) (x2 : Int) (_ : (Lit.int .i64 x2).wf = true) (x3 : Int) (_ : (Lit.int .i64 x3).wf = true) (x4 : Int) (_ : (Lit.int .i64 x4).wf = true)
    (a : Int) (wa : (Lit.int .u8 a).wf = true) (w : World) :
    Calls Try.prog 6 #[.agg #[.int .i64 x0, .int .i64 x1, .int .i64 x2, .int .i64 x3, .int .i64 x4], .int .u8 a] w fun e w' => e = .returned (.bool true) ∧ Below w.heap.size w w' := by
  have a0 : 0 ≤ a ∧ a ≤ 255 := by simp only [Lit.wf, IntKind.min, IntKind.max, IntKind.signed, IntKind.bits, Bool.and_eq_true] at wa; simpa using wa
  clear wa
  obtain ⟨w1, hw1⟩ : ∃ w1, w.alloc (.cells #[.int .i64 x0, .int .i64 x1, .int .i64 x2, .int .i64 x3, .int .i64 x4] 29) = w1 := ⟨_, rfl⟩
  have A1 : At w w1 := hw1 ▸ (Below.refl _ _).alloc (Nat.le_refl _) _
  have C0 : w1.cell? ⟨w.heap.size, 0, none⟩ = some (.int .i64 x0) := by rw [← hw1]; rw [World.cell?_alloc_at _ _ _ _ rfl]; rfl
  have C1 : w1.cell? ⟨w.heap.size, 1, none⟩ = some (.int .i64 x1) := by rw [← hw1]; rw [World.cell?_alloc_at _ _ _ _ rfl]; rfl
  have C2 : w1.cell? ⟨w.heap.size, 2, none⟩ = some (.int .i64 x2) := by rw [← hw1]; rw [World.cell?_alloc_at _ _ _ _ rfl]; rfl
  have C3 : w1.cell? ⟨w.heap.size, 3, none⟩ = some (.int .i64 x3) := by rw [← hw1]; rw [World.cell?_alloc_at _ _ _ _ rfl]; rfl
  have C4 : w1.cell? ⟨w.heap.size, 4, none⟩ = some (.int .i64 x4) := by rw [← hw1]; rw [World.cell?_alloc_at _ _ _ _ rfl]; rfl
  have hlt : w.heap.size < w1.heap.size := by rw [← hw1]; simp
  have hk : a % 5 = 0 ∨ a % 5 = 1 ∨ a % 5 = 2 ∨ a % 5 = 3 ∨ a % 5 = 4 := by omega
  obtain ⟨p0, p1⟩ := a0
  have v0 : IntKind.i64.wrap 0 = 0 := by decide
  have t0 : Int.tmod 0 5 = 0 := by decide
  have v1 : IntKind.i64.wrap 1 = 1 := by decide
  have t1 : Int.tmod 1 5 = 1 := by decide
  have v2 : IntKind.i64.wrap 2 = 2 := by decide
  have t2 : Int.tmod 2 5 = 2 := by decide
  have v3 : IntKind.i64.wrap 3 = 3 := by decide
  have t3 : Int.tmod 3 5 = 3 := by decide
  have v4 : IntKind.i64.wrap 4 = 4 := by decide
  have t4 : Int.tmod 4 5 = 4 := by decide
  have v5 : IntKind.i64.wrap 5 = 5 := by decide
  have t5 : Int.tmod 5 5 = 0 := by decide
  have v6 : IntKind.i64.wrap 6 = 6 := by decide
  have t6 : Int.tmod 6 5 = 1 := by decide
  have v7 : IntKind.i64.wrap 7 = 7 := by decide
  have t7 : Int.tmod 7 5 = 2 := by decide
  have v8 : IntKind.i64.wrap 8 = 8 := by decide
  have t8 : Int.tmod 8 5 = 3 := by decide
  rcases hk with hk | hk | hk | hk | hk
  · have hL := fun w2 A2 hlt D0 D1 D2 D3 D4 => laid w w2 x0 x1 x2 x3 x4 x0 x1 x2 x3 x4 A2 hlt D0 D1 D2 D3 D4 (by exact List.Perm.refl _)
    have HL := Lib.hid hL
    clear hL
    go_enter Try.func6, Try.ntmps6
    go_wp2
    go_still_tail 23, (by kernel_rfl)
    change wpList _ _ _ _ _ w1.drew
    have A2 : At w w1.drew := A1.drew
    have hlt2 : w.heap.size < w1.drew.heap.size := hlt
    have D0 : w1.drew.cell? ⟨w.heap.size, 0, none⟩ = some (.int .i64 x0) := C0
    have D1 : w1.drew.cell? ⟨w.heap.size, 1, none⟩ = some (.int .i64 x1) := C1
    have D2 : w1.drew.cell? ⟨w.heap.size, 2, none⟩ = some (.int .i64 x2) := C2
    have D3 : w1.drew.cell? ⟨w.heap.size, 3, none⟩ = some (.int .i64 x3) := C3
    have D4 : w1.drew.cell? ⟨w.heap.size, 4, none⟩ = some (.int .i64 x4) := C4
    clear C0 C1 C2 C3 C4 A1 hlt hw1 hk
    generalize w1.drew = w2 at *
    clear w1
    obtain ⟨M, S, hall⟩ := HL.out w2 A2 hlt2 D0 D1 D2 D3 D4
    obtain ⟨B4, k1, k2, k3, k4, k5⟩ := hall _ rfl
    have K1 := Lib.hid k1
    have K2 := Lib.hid k2
    have K3 := Lib.hid k3
    have K4 := Lib.hid k4
    have K5 := Lib.hid k5
    have KB := Lib.hid B4
    have R4 := At.refl ((w2.alloc (.cells #[.int .i64 x0, .int .i64 x1, .int .i64 x2, .int .i64 x3, .int .i64 x4] 3)).alloc (.cells #[.int .i64 x4, .int .i64 x3, .int .i64 x2, .int .i64 x1, .int .i64 x0] 3))
    clear hall k1 k2 k3 k4 k5 HL A2 B4
    go_wp2_with (first
      | (go_at_call 8; ((with_reducible refine (K1.out _ R4).mono ?_)); rintro e w5 ⟨rfl, R5⟩)
      | (go_at_call 8; ((with_reducible refine (K2.out _ R5).mono ?_)); rintro e w6 ⟨rfl, R6⟩)
      | (go_at_call 8; ((with_reducible refine (K3.out _ R6).mono ?_)); rintro e w7 ⟨rfl, R7⟩)
      | (go_at_call 10; ((with_reducible refine (K4.out _ R7).mono ?_)); rintro e w8 ⟨rfl, R8⟩)
      | (go_at_call 10; ((with_reducible refine (K5.out _ R8).mono ?_)); rintro e w9 ⟨rfl, R9⟩)
      | (go_at_call 7; refine (law8_awake _ _ R9).mono ?_; rintro e w' ⟨rfl, R10⟩))
    all_goals go_ret
    all_goals exact ⟨rfl, KB.out.trans R10⟩
  · have hL := fun w2 A2 hlt D0 D1 D2 D3 D4 => laid w w2 x0 x1 x2 x3 x4 x1 x2 x3 x4 x0 A2 hlt D0 D1 D2 D3 D4 (by exact List.perm_append_comm (l₁ := [x0]) (l₂ := [x1, x2, x3, x4]))
    have HL := Lib.hid hL
    clear hL
    go_enter Try.func6, Try.ntmps6
    go_wp2
    go_still_tail 23, (by kernel_rfl)
    change wpList _ _ _ _ _ w1.drew
    have A2 : At w w1.drew := A1.drew
    have hlt2 : w.heap.size < w1.drew.heap.size := hlt
    have D0 : w1.drew.cell? ⟨w.heap.size, 0, none⟩ = some (.int .i64 x0) := C0
    have D1 : w1.drew.cell? ⟨w.heap.size, 1, none⟩ = some (.int .i64 x1) := C1
    have D2 : w1.drew.cell? ⟨w.heap.size, 2, none⟩ = some (.int .i64 x2) := C2
    have D3 : w1.drew.cell? ⟨w.heap.size, 3, none⟩ = some (.int .i64 x3) := C3
    have D4 : w1.drew.cell? ⟨w.heap.size, 4, none⟩ = some (.int .i64 x4) := C4
    clear C0 C1 C2 C3 C4 A1 hlt hw1 hk
    generalize w1.drew = w2 at *
    clear w1
    obtain ⟨M, S, hall⟩ := HL.out w2 A2 hlt2 D0 D1 D2 D3 D4
    obtain ⟨B4, k1, k2, k3, k4, k5⟩ := hall _ rfl
    have K1 := Lib.hid k1
    have K2 := Lib.hid k2
    have K3 := Lib.hid k3
    have K4 := Lib.hid k4
    have K5 := Lib.hid k5
    have KB := Lib.hid B4
    have R4 := At.refl ((w2.alloc (.cells #[.int .i64 x1, .int .i64 x2, .int .i64 x3, .int .i64 x4, .int .i64 x0] 3)).alloc (.cells #[.int .i64 x4, .int .i64 x3, .int .i64 x2, .int .i64 x1, .int .i64 x0] 3))
    clear hall k1 k2 k3 k4 k5 HL A2 B4
    go_wp2_with (first
      | (go_at_call 8; ((with_reducible refine (K1.out _ R4).mono ?_)); rintro e w5 ⟨rfl, R5⟩)
      | (go_at_call 8; ((with_reducible refine (K2.out _ R5).mono ?_)); rintro e w6 ⟨rfl, R6⟩)
      | (go_at_call 8; ((with_reducible refine (K3.out _ R6).mono ?_)); rintro e w7 ⟨rfl, R7⟩)
      | (go_at_call 10; ((with_reducible refine (K4.out _ R7).mono ?_)); rintro e w8 ⟨rfl, R8⟩)
      | (go_at_call 10; ((with_reducible refine (K5.out _ R8).mono ?_)); rintro e w9 ⟨rfl, R9⟩)
      | (go_at_call 7; refine (law8_awake _ _ R9).mono ?_; rintro e w' ⟨rfl, R10⟩))
    all_goals go_ret
    all_goals exact ⟨rfl, KB.out.trans R10⟩
  · have hL := fun w2 A2 hlt D0 D1 D2 D3 D4 => laid w w2 x0 x1 x2 x3 x4 x2 x3 x4 x0 x1 A2 hlt D0 D1 D2 D3 D4 (by exact List.perm_append_comm (l₁ := [x0, x1]) (l₂ := [x2, x3, x4]))
    have HL := Lib.hid hL
    clear hL
    go_enter Try.func6, Try.ntmps6
    go_wp2
    go_still_tail 23, (by kernel_rfl)
    change wpList _ _ _ _ _ w1.drew
    have A2 : At w w1.drew := A1.drew
    have hlt2 : w.heap.size < w1.drew.heap.size := hlt
    have D0 : w1.drew.cell? ⟨w.heap.size, 0, none⟩ = some (.int .i64 x0) := C0
    have D1 : w1.drew.cell? ⟨w.heap.size, 1, none⟩ = some (.int .i64 x1) := C1
    have D2 : w1.drew.cell? ⟨w.heap.size, 2, none⟩ = some (.int .i64 x2) := C2
    have D3 : w1.drew.cell? ⟨w.heap.size, 3, none⟩ = some (.int .i64 x3) := C3
    have D4 : w1.drew.cell? ⟨w.heap.size, 4, none⟩ = some (.int .i64 x4) := C4
    clear C0 C1 C2 C3 C4 A1 hlt hw1 hk
    generalize w1.drew = w2 at *
    clear w1
    obtain ⟨M, S, hall⟩ := HL.out w2 A2 hlt2 D0 D1 D2 D3 D4
    obtain ⟨B4, k1, k2, k3, k4, k5⟩ := hall _ rfl
    have K1 := Lib.hid k1
    have K2 := Lib.hid k2
    have K3 := Lib.hid k3
    have K4 := Lib.hid k4
    have K5 := Lib.hid k5
    have KB := Lib.hid B4
    have R4 := At.refl ((w2.alloc (.cells #[.int .i64 x2, .int .i64 x3, .int .i64 x4, .int .i64 x0, .int .i64 x1] 3)).alloc (.cells #[.int .i64 x4, .int .i64 x3, .int .i64 x2, .int .i64 x1, .int .i64 x0] 3))
    clear hall k1 k2 k3 k4 k5 HL A2 B4
    go_wp2_with (first
      | (go_at_call 8; ((with_reducible refine (K1.out _ R4).mono ?_)); rintro e w5 ⟨rfl, R5⟩)
      | (go_at_call 8; ((with_reducible refine (K2.out _ R5).mono ?_)); rintro e w6 ⟨rfl, R6⟩)
      | (go_at_call 8; ((with_reducible refine (K3.out _ R6).mono ?_)); rintro e w7 ⟨rfl, R7⟩)
      | (go_at_call 10; ((with_reducible refine (K4.out _ R7).mono ?_)); rintro e w8 ⟨rfl, R8⟩)
      | (go_at_call 10; ((with_reducible refine (K5.out _ R8).mono ?_)); rintro e w9 ⟨rfl, R9⟩)
      | (go_at_call 7; refine (law8_awake _ _ R9).mono ?_; rintro e w' ⟨rfl, R10⟩))
    all_goals go_ret
    all_goals exact ⟨rfl, KB.out.trans R10⟩
  · have hL := fun w2 A2 hlt D0 D1 D2 D3 D4 => laid w w2 x0 x1 x2 x3 x4 x3 x4 x0 x1 x2 A2 hlt D0 D1 D2 D3 D4 (by exact List.perm_append_comm (l₁ := [x0, x1, x2]) (l₂ := [x3, x4]))
    have HL := Lib.hid hL
    clear hL
    go_enter Try.func6, Try.ntmps6
    go_wp2
    go_still_tail 23, (by kernel_rfl)
    change wpList _ _ _ _ _ w1.drew
    have A2 : At w w1.drew := A1.drew
    have hlt2 : w.heap.size < w1.drew.heap.size := hlt
    have D0 : w1.drew.cell? ⟨w.heap.size, 0, none⟩ = some (.int .i64 x0) := C0
    have D1 : w1.drew.cell? ⟨w.heap.size, 1, none⟩ = some (.int .i64 x1) := C1
    have D2 : w1.drew.cell? ⟨w.heap.size, 2, none⟩ = some (.int .i64 x2) := C2
    have D3 : w1.drew.cell? ⟨w.heap.size, 3, none⟩ = some (.int .i64 x3) := C3
    have D4 : w1.drew.cell? ⟨w.heap.size, 4, none⟩ = some (.int .i64 x4) := C4
    clear C0 C1 C2 C3 C4 A1 hlt hw1 hk
    generalize w1.drew = w2 at *
    clear w1
    obtain ⟨M, S, hall⟩ := HL.out w2 A2 hlt2 D0 D1 D2 D3 D4
    obtain ⟨B4, k1, k2, k3, k4, k5⟩ := hall _ rfl
    have K1 := Lib.hid k1
    have K2 := Lib.hid k2
    have K3 := Lib.hid k3
    have K4 := Lib.hid k4
    have K5 := Lib.hid k5
    have KB := Lib.hid B4
    have R4 := At.refl ((w2.alloc (.cells #[.int .i64 x3, .int .i64 x4, .int .i64 x0, .int .i64 x1, .int .i64 x2] 3)).alloc (.cells #[.int .i64 x4, .int .i64 x3, .int .i64 x2, .int .i64 x1, .int .i64 x0] 3))
    clear hall k1 k2 k3 k4 k5 HL A2 B4
    go_wp2_with (first
      | (go_at_call 8; ((with_reducible refine (K1.out _ R4).mono ?_)); rintro e w5 ⟨rfl, R5⟩)
      | (go_at_call 8; ((with_reducible refine (K2.out _ R5).mono ?_)); rintro e w6 ⟨rfl, R6⟩)
      | (go_at_call 8; ((with_reducible refine (K3.out _ R6).mono ?_)); rintro e w7 ⟨rfl, R7⟩)
      | (go_at_call 10; ((with_reducible refine (K4.out _ R7).mono ?_)); rintro e w8 ⟨rfl, R8⟩)
      | (go_at_call 10; ((with_reducible refine (K5.out _ R8).mono ?_)); rintro e w9 ⟨rfl, R9⟩)
      | (go_at_call 7; refine (law8_awake _ _ R9).mono ?_; rintro e w' ⟨rfl, R10⟩))
    all_goals go_ret
    all_goals exact ⟨rfl, KB.out.trans R10⟩
  · have hL := fun w2 A2 hlt D0 D1 D2 D3 D4 => laid w w2 x0 x1 x2 x3 x4 x4 x0 x1 x2 x3 A2 hlt D0 D1 D2 D3 D4 (by exact List.perm_append_comm (l₁ := [x0, x1, x2, x3]) (l₂ := [x4]))
    have HL := Lib.hid hL
    clear hL
    go_enter Try.func6, Try.ntmps6
    go_wp2
    go_still_tail 23, (by kernel_rfl)
    change wpList _ _ _ _ _ w1.drew
    have A2 : At w w1.drew := A1.drew
    have hlt2 : w.heap.size < w1.drew.heap.size := hlt
    have D0 : w1.drew.cell? ⟨w.heap.size, 0, none⟩ = some (.int .i64 x0) := C0
    have D1 : w1.drew.cell? ⟨w.heap.size, 1, none⟩ = some (.int .i64 x1) := C1
    have D2 : w1.drew.cell? ⟨w.heap.size, 2, none⟩ = some (.int .i64 x2) := C2
    have D3 : w1.drew.cell? ⟨w.heap.size, 3, none⟩ = some (.int .i64 x3) := C3
    have D4 : w1.drew.cell? ⟨w.heap.size, 4, none⟩ = some (.int .i64 x4) := C4
    clear C0 C1 C2 C3 C4 A1 hlt hw1 hk
    generalize w1.drew = w2 at *
    clear w1
    obtain ⟨M, S, hall⟩ := HL.out w2 A2 hlt2 D0 D1 D2 D3 D4
    obtain ⟨B4, k1, k2, k3, k4, k5⟩ := hall _ rfl
    have K1 := Lib.hid k1
    have K2 := Lib.hid k2
    have K3 := Lib.hid k3
    have K4 := Lib.hid k4
    have K5 := Lib.hid k5
    have KB := Lib.hid B4
    have R4 := At.refl ((w2.alloc (.cells #[.int .i64 x4, .int .i64 x0, .int .i64 x1, .int .i64 x2, .int .i64 x3] 3)).alloc (.cells #[.int .i64 x4, .int .i64 x3, .int .i64 x2, .int .i64 x1, .int .i64 x0] 3))
    clear hall k1 k2 k3 k4 k5 HL A2 B4
    go_wp2_with (first
      | (go_at_call 8; ((with_reducible refine (K1.out _ R4).mono ?_)); rintro e w5 ⟨rfl, R5⟩)
      | (go_at_call 8; ((with_reducible refine (K2.out _ R5).mono ?_)); rintro e w6 ⟨rfl, R6⟩)
      | (go_at_call 8; ((with_reducible refine (K3.out _ R6).mono ?_)); rintro e w7 ⟨rfl, R7⟩)
      | (go_at_call 10; ((with_reducible refine (K4.out _ R7).mono ?_)); rintro e w8 ⟨rfl, R8⟩)
      | (go_at_call 10; ((with_reducible refine (K5.out _ R8).mono ?_)); rintro e w9 ⟨rfl, R9⟩)
      | (go_at_call 7; refine (law8_awake _ _ R9).mono ?_; rintro e w' ⟨rfl, R10⟩))
    all_goals go_ret
    all_goals exact ⟨rfl, KB.out.trans R10⟩

theorem lifted (os : Os) (started : os.Started) (H : Type) (enc : TypeId × Value → H) :
    ReturnsInHanded {} Try.checked os 6 .any (Rows.medianTurnsSpec.pre6 enc Try.prog Try.f6 Rows.medianTurnsRow.domain false) (Rows.medianTurnsSpec.post enc Try.prog Try.f6 false true false false) := by
  refine law_lift started (by kernel_rfl) Try.func6 rfl rfl ?_ (by kernel_rfl)
    (ChangeSpec.witness6 (enc := enc) (C := Try.checked) false ⟨#[], #[.agg #[.int .i64 0, .int .i64 0, .int .i64 0, .int .i64 0, .int .i64 0], .int .u8 0], []⟩ 8 (by kernel_rfl) (by kernel_rfl) (by kernel_rfl) (by kernel_rfl)) ?_
  · intro ds hl
    match ds, hl with
    | [_, _], _ => exact ⟨rfl, rfl, rfl⟩
  · intro W base args ds p hval hA hlt hwt
    rw [Try.params6] at hA hval hwt
    obtain ⟨v0, vs0, d0, ds0, p0, q0, hargs, rfl, rfl, h0, r0⟩ := trodAll_cons hA
    obtain ⟨v1, vs1, d1, ds1, p1, q1, rfl, rfl, rfl, h1, r1⟩ := trodAll_cons r0
    obtain ⟨rfl, rfl, rfl⟩ := trodAll_nil r1
    obtain rfl : args = #[v0, v1] := by cases args; simp_all
    obtain ⟨xs0, rfl, l0, w0⟩ := open_int_cells Try.underlying29 Try.underlying3 (by kernel_rfl) (by kernel_rfl) (hval 0 29 v0 rfl rfl) h0
    match xs0, l0, w0 with
    | [x0_0, x0_1, x0_2, x0_3, x0_4], _, w0 =>
    obtain ⟨a1, rfl, rfl, rfl, w1⟩ := open_int Try.underlying5 (hval 1 5 v1 rfl rfl) h1
    exact walk x0_0 (w0 _ (by simp)) x0_1 (w0 _ (by simp)) x0_2 (w0 _ (by simp)) x0_3 (w0 _ (by simp)) x0_4 (w0 _ (by simp)) a1 w1 W

theorem over : Rows.medianTurnsRow.holds Try.pinned (OpenSpec.ofChange Rows.medianTurnsSpec) :=
  OpenClaim.holds_of_wide 6 Try.f6 rfl rfl rfl rfl rfl rfl rfl ⟨rfl, rfl, rfl, rfl, rfl⟩ rfl rfl rfl rfl rfl (by kernel_rfl) Try.func6 (by kernel_rfl)
    (of_decide_eq_true (by kernel_rfl)) (by unfold Func.isWrapper; first | (rw [if_pos (by decide +kernel)]; kernel_rfl) | (rw [if_neg (by decide +kernel)]; exact ⟨rfl, rfl⟩))
    (fun os started H enc _ => lifted os started H enc)

theorem proved : Rows.MedianTurnsSaid := over
#print axioms proved
end Go.Proofs.Ytmdhmnpkiolmmaa.medianTurns
