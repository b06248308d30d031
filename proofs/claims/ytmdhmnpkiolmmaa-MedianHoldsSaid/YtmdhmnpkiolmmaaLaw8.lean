/- The law package's own check 'awake' of stage 8; what a law's walk takes of the calls. -/
import Derived.Test.YtmdhmnpkiolmmaaMed
import Derived.Test.YtmdhmnpkiolmmaaLaw4
namespace Go.Proofs.Ytmdhmnpkiolmmaa
open Go.RowKit
set_option linter.unusedVariables false

theorem l8_mid (W : World) (A : Option Addr) (n c : Nat) (xs : List Int) (w : World) (hb : At W w) (h : Ints w A n xs) (hc : n ≤ c) (hr : n * 8 ≤ 140737488351232) :
    Calls Try.prog 8 #[.slice A n c] w fun e w' => e = .returned (.tuple #[.int .i64 (midV xs), .bool (anyB n)]) ∧ At w w' ∧ At W w' :=
  (median_mid A n c xs w h hc hr).mono fun e w' ⟨he, hw⟩ => ⟨he, hw, hb.below hw⟩
theorem l8_spread (W : World) (A : Option Addr) (n c : Nat) (xs : List Int) (w : World) (hb : At W w) (h : Ints w A n xs) (hc : n ≤ c) (hr : n * 8 ≤ 140737488351232) :
    Calls Try.prog 10 #[.slice A n c] w fun e w' => e = .returned (.tuple #[.int .i64 (sprV xs), .bool (anyB n)]) ∧ At w w' ∧ At W w' :=
  (median_spread A n c xs w h hc hr).mono fun e w' ⟨he, hw⟩ => ⟨he, hw, hb.below hw⟩
theorem alloc_at (w : World) (o : Obj) : At w (w.alloc o) := (Below.refl _ _).alloc (Nat.le_refl _) _

theorem mid_1 : midV [5, 1, 9] = 5 := by
  have e : fiveL [5, 1, 9] = [1, 5, 9] := by
    unfold fiveL; rw [show lastL [5, 1, 9] 5 = [5, 1, 9] by decide]; exact sortL_of (by unfold Up; decide) (by decide)
  unfold midV; rw [e]; rfl
theorem mid_2 : midV [1, 2, 3, 4] = 2 := by
  have e : fiveL [1, 2, 3, 4] = [1, 2, 3, 4] := by
    unfold fiveL; rw [show lastL [1, 2, 3, 4] 5 = [1, 2, 3, 4] by decide]; exact sortL_of (by unfold Up; decide) (by decide)
  unfold midV; rw [e]; rfl
theorem spr_1 : sprV [99, 1, 2, 3, 4, 7] = 6 := by
  have e : fiveL [99, 1, 2, 3, 4, 7] = [1, 2, 3, 4, 7] := by
    unfold fiveL; rw [show lastL [99, 1, 2, 3, 4, 7] 5 = [1, 2, 3, 4, 7] by decide]; exact sortL_of (by unfold Up; decide) (by decide)
  unfold sprV; rw [e]; decide

theorem law8_awake (W w : World) (h : At W w) :
    Calls Try.prog 7 #[] w fun e w' => e = .returned (.bool true) ∧ At W w' := by
  have h1 : ∀ w : World, Calls Try.prog 8 #[.slice (some ⟨w.heap.size, 0, none⟩) 3 3] (w.alloc (.cells #[.int .i64 5, .int .i64 1, .int .i64 9] 3)) fun e w' => e = .returned (.tuple #[.int .i64 5, .bool true]) ∧ At w w' := fun w => by
    have h := l8_mid w (some ⟨w.heap.size, 0, none⟩) 3 3 [5, 1, 9] _ (alloc_at w _) (ints_new w [5, 1, 9]) (by omega) (by omega)
    rw [mid_1, show anyB 3 = true by decide] at h
    exact h.mono fun e w' ⟨he, _, hb⟩ => ⟨he, hb⟩
  have h2 : ∀ w : World, Calls Try.prog 8 #[.slice (some ⟨w.heap.size, 0, none⟩) 4 4] (w.alloc (.cells #[.int .i64 1, .int .i64 2, .int .i64 3, .int .i64 4] 3)) fun e w' => e = .returned (.tuple #[.int .i64 2, .bool true]) ∧ At w w' := fun w => by
    have h := l8_mid w (some ⟨w.heap.size, 0, none⟩) 4 4 [1, 2, 3, 4] _ (alloc_at w _) (ints_new w [1, 2, 3, 4]) (by omega) (by omega)
    rw [mid_2, show anyB 4 = true by decide] at h
    exact h.mono fun e w' ⟨he, _, hb⟩ => ⟨he, hb⟩
  have h3 : ∀ w : World, Calls Try.prog 10 #[.slice (some ⟨w.heap.size, 0, none⟩) 6 6] (w.alloc (.cells #[.int .i64 99, .int .i64 1, .int .i64 2, .int .i64 3, .int .i64 4, .int .i64 7] 3)) fun e w' => e = .returned (.tuple #[.int .i64 6, .bool true]) ∧ At w w' := fun w => by
    have h := l8_spread w (some ⟨w.heap.size, 0, none⟩) 6 6 [99, 1, 2, 3, 4, 7] _ (alloc_at w _) (ints_new w [99, 1, 2, 3, 4, 7]) (by omega) (by omega)
    rw [spr_1, show anyB 6 = true by decide] at h
    exact h.mono fun e w' ⟨he, _, hb⟩ => ⟨he, hb⟩
  have h4 : ∀ w : World, Calls Try.prog 8 #[.slice none 0 0] w fun e w' => e = .returned (.tuple #[.int .i64 0, .bool false]) ∧ At w w' := fun w => by
    have h := l8_mid w none 0 0 [] w (At.refl w) ⟨rfl, fun h => absurd h (by omega)⟩ (by omega) (by omega)
    rw [show midV [] = 0 by rfl, show anyB 0 = false by decide] at h
    exact h.mono fun e w' ⟨he, _, hb⟩ => ⟨he, hb⟩
  have H1 := Lib.hid h1
  have H2 := Lib.hid h2
  have H3 := Lib.hid h3
  have H4 := Lib.hid h4
  clear h1 h2 h3 h4
  go_enter Try.func7, Try.ntmps7
  go_wp2_with (first
    | (go_at_call 8; ((with_reducible refine (H1.out _).mono ?_)); rintro e w1 ⟨rfl, b1⟩; have A1 := h.trans b1; clear b1)
    | (go_at_call 8; ((with_reducible refine (H2.out _).mono ?_)); rintro e w2 ⟨rfl, b2⟩; have A2 := A1.trans b2; clear b2)
    | (go_at_call 10; refine (H3.out _).mono ?_; rintro e w3 ⟨rfl, b3⟩; have A3 := A2.trans b3; clear b3)
    | (go_at_call 8; ((with_reducible refine (H4.out _).mono ?_)); rintro e w4 ⟨rfl, b4⟩; have A4 := A3.trans b4; clear b4))
  all_goals go_ret
  all_goals exact ⟨rfl, A4⟩
end Go.Proofs.Ytmdhmnpkiolmmaa
