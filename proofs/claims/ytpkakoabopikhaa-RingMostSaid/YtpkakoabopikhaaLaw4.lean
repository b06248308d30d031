/- The law package's own check 'awake' of stage 4; what a law's walk takes of the calls. -/
import Derived.Test.YtpkakoabopikhaaMake
namespace Go.Proofs.Ytpkakoabopikhaa
open Go.RowKit
set_option linter.unusedVariables false

theorem l4_ints (W : World) (A B : Option Addr) (n c m d : Nat) (xs ys : List Int) (w : World) (hb : At W w) (h : Ints w A n xs) (g : Ints w B m ys) (hn : n ≤ 9223372036854775807) (hm : m ≤ 9223372036854775807) :
    Calls Try.prog 13 #[.slice A n c, .slice B m d] w fun e w' => e = .returned (.bool (eqL xs ys)) ∧ At w w' ∧ At W w' :=
  (law4_ints A B n c m d xs ys w h g hn hm).mono fun e w' ⟨he, t, hw⟩ => ⟨he, hw ▸ (At.refl w).draws t, hw ▸ hb.draws t⟩

theorem Ints.at_W {W w : World} {A : Option Addr} {n : Nat} {xs : List Int} (h : Ints W A n xs) (hb : At W w) : Ints w A n xs := h.below hb
theorem At.trans {a b c : World} (h : At a b) (g : At b c) : At a c := Below.trans h (g.mono h.size)

theorem ints_new (w : World) (xs : List Int) : Ints (w.alloc (.cells (xs.map (Value.int .i64)).toArray 3)) (some ⟨w.heap.size, 0, none⟩) xs.length xs := by
  refine ⟨rfl, fun _ => ⟨w.heap.size, 0, rfl, by simp, fun i hi => ?_⟩⟩
  rw [World.cell?_alloc_at _ _ _ _ (by simp)]
  simp [List.getD, List.getElem?_eq_getElem hi]

theorem law4_awake (W w : World) (h : At W w) :
    Calls Try.prog 6 #[] w fun e w' => e = .returned (.bool true) ∧ At W w' := by
  have hn : ∀ w : World, Ints (w.alloc (.cells #[.int .i64 2, .int .i64 3, .int .i64 4] 3)) (some ⟨w.heap.size, 0, none⟩) 3 [2, 3, 4] := fun w => ints_new w [2, 3, 4]
  have e0 : pushL [1, 2, 3] 3 4 = [2, 3, 4] := by decide
  have e1 : backV [2, 3, 4] 0 = 4 := by decide
  have e2 : backB 3 0 = true := by decide
  have e3 : mostV [2, 3, 4] = 4 := by decide
  have e4 : mostB 3 = true := by decide
  have e5 : sumV [2, 3, 4] = 9 := by decide
  have e6 : sumB [2, 3, 4] = false := by decide
  have e7 : lastL [2, 3, 4] 2 = [3, 4] := by decide
  have e8 : eqL [2, 3, 4] [2, 3, 4] = true := by decide
  have hP := ring_push (some ⟨w.heap.size, 0, none⟩) 3 3 [1, 2, 3] 3 4 (w.alloc (.cells #[.int .i64 1, .int .i64 2, .int .i64 3] 3)) (ints_lit w) (by omega) (by omega)
  rw [e0] at hP
  have HP := Lib.hid hP
  clear hP e0
  go_enter Try.func6, Try.ntmps6
  go_wp2_with (go_at_call 14; refine HP.out.mono ?_; rintro e w1 ⟨B, d, rfl, hd, hi, hb1⟩)
  have hi1 : Ints w1 B 3 [2, 3, 4] := hi
  have hd1 : 3 ≤ d := hd
  have A1 : At W w1 := (h.below ((Below.refl _ _).alloc (Nat.le_refl _) _)).below hb1
  clear hi hd hb1 h
  go_wp2_with (first
    | (go_at_call 7; refine (ring_back B 3 d [2, 3, 4] _ _ hi1 (by omega) (by omega) (by omega)).mono ?_; rintro e w' ⟨rfl, rfl⟩)
    | (go_at_call 9; refine (ring_most B 3 d [2, 3, 4] _ hi1 (by omega)).mono ?_; rintro e w' ⟨rfl, rfl⟩)
    | (go_at_call 11; refine (ring_total B 3 d [2, 3, 4] _ hi1 (by omega)).mono ?_; rintro e w' ⟨rfl, rfl⟩)
    | (go_at_call 13; refine (l4_ints W _ _ _ _ _ _ [2, 3, 4] [2, 3, 4] _ (A1.below ((Below.refl _ _).alloc (Nat.le_refl _) _)) (hi1.below ((Below.refl _ _).alloc (Nat.le_refl _) _)) (hn w1) (by omega) (by omega)).mono ?_; rintro e w2 ⟨rfl, a2, A2⟩)
    | (go_at_call 16; refine (ring_last B 3 d [2, 3, 4] 2 _ ((hi1.below ((Below.refl _ _).alloc (Nat.le_refl _) _)).below a2) hd1 (by omega)).mono ?_; rintro e w3 ⟨B3, d3, rfl, _, _, hb3⟩))
  go_ret
  exact ⟨rfl, A2.below hb3⟩
end Go.Proofs.Ytpkakoabopikhaa
