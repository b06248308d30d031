/- The law package's own check 'awake' of stage 7; what a law's walk takes of the calls. -/
import Derived.Test.YtfgdbgpfmkhooaaUnpack
import Derived.Test.YtfgdbgpfmkhooaaMake
import Derived.ChangeMaps5
namespace Go.Proofs.Ytfgdbgpfmkhooaa
open Go.RowKit
set_option linter.unusedVariables false

theorem l7_ints (W : World) (A B : Option Addr) (n c m d : Nat) (xs ys : List Int) (w : World) (hb : At W w) (h : Ints w A n xs) (g : Ints w B m ys) (hn : n ≤ 9223372036854775807) (hm : m ≤ 9223372036854775807) :
    Calls Try.prog 11 #[.slice A n c, .slice B m d] w fun e w' => e = .returned (.bool (eqL xs ys)) ∧ At w w' ∧ At W w' :=
  (law4_ints A B n c m d xs ys w h g hn hm).mono fun e w' ⟨he, t, hw⟩ => ⟨he, hw ▸ (At.refl w).draws t, hw ▸ hb.draws t⟩
theorem ints_new7 (w : World) (xs : List Int) : Ints (w.alloc (.cells (xs.map (Value.int .i64)).toArray 3)) (some ⟨w.heap.size, 0, none⟩) xs.length xs := by
  refine ⟨rfl, fun _ => ⟨w.heap.size, 0, rfl, by simp, fun i hi => ?_⟩⟩
  rw [World.cell?_alloc_at _ _ _ _ (by simp)]
  simp [List.getD, List.getElem?_eq_getElem hi]

theorem law7_awake (W w : World) (h : At W w) :
    Calls Try.prog 6 #[] w fun e w' => e = .returned (.bool true) ∧ At W w' := by
  have hT : ∀ w, Calls Try.prog 12 #[.string ⟨#[0, 1, 2]⟩, .int .i64 1, .int .i64 2] w fun e w' => e = .returned (.tuple #[.int .i64 258, .bool true]) ∧ w = w' := fun w => by
    have h := code_take ⟨#[0, 1, 2]⟩ 1 2 (by decide) (by decide) w
    rwa [show takV (ByteArray.mk #[0, 1, 2]).data.toList 1 2 = 258 by decide +kernel, show takB (ByteArray.mk #[0, 1, 2]).size 1 2 = true by decide +kernel] at h
  have hP : ∀ w : World, Calls Try.prog 7 #[.slice (some ⟨w.heap.size, 0, none⟩) 2 2, .slice (some ⟨w.heap.size + 1, 0, none⟩) 2 2]
      ((w.alloc (.cells #[.int .i64 1, .int .i64 258] 3)).alloc (.cells #[.int .i64 1, .int .i64 2] 3)) fun e w' => e = .returned (.tuple #[.string ⟨#[1, 1, 2]⟩, .bool true]) ∧ Below w.heap.size w w' := fun w => by
    have a1 := ints_new7 w [1, 258]
    have a2 := ints_new7 (w.alloc (.cells #[.int .i64 1, .int .i64 258] 3)) [1, 2]
    have b1 : Below w.heap.size w (w.alloc (.cells #[.int .i64 1, .int .i64 258] 3)) := (Below.refl _ _).alloc (Nat.le_refl _) _
    have b2 : Below (w.alloc (.cells #[.int .i64 1, .int .i64 258] 3)).heap.size (w.alloc (.cells #[.int .i64 1, .int .i64 258] 3)) ((w.alloc (.cells #[.int .i64 1, .int .i64 258] 3)).alloc (.cells #[.int .i64 1, .int .i64 2] 3)) := (Below.refl _ _).alloc (Nat.le_refl _) _
    have h := code_pack (some ⟨w.heap.size, 0, none⟩) (some ⟨w.heap.size + 1, 0, none⟩) 2 2 2 2 [1, 258] [1, 2] _ (Ints.below a1 b2) (by simpa using a2) (by omega) (by omega) (by decide)
    rw [show pkS [1, 258] [1, 2] = ⟨#[1, 1, 2]⟩ by decide +kernel, show pkB [1, 258] [1, 2] = true by decide +kernel] at h
    exact h.mono fun e w' ⟨he, hb⟩ => ⟨he, Below.trans (Below.trans b1 (b2.mono b1.size)) (hb.mono (Nat.le_trans b1.size b2.size))⟩
  have hU : ∀ w : World, Calls Try.prog 9 #[.string ⟨#[1, 1, 2]⟩, .slice (some ⟨w.heap.size, 0, none⟩) 2 2]
      (w.alloc (.cells #[.int .i64 1, .int .i64 2] 3)) fun e w' => ∃ B d, e = .returned (.tuple #[.slice B 2 d, .bool true]) ∧ Ints w' B 2 [1, 258] ∧ Below w.heap.size w w' := fun w => by
    have a1 := ints_new7 w [1, 2]
    have b1 : Below w.heap.size w (w.alloc (.cells #[.int .i64 1, .int .i64 2] 3)) := (Below.refl _ _).alloc (Nat.le_refl _) _
    have h := code_unpack ⟨#[1, 1, 2]⟩ (some ⟨w.heap.size, 0, none⟩) 2 2 [1, 2] _ a1 (by decide) (by omega)
    rw [show upV (ByteArray.mk #[1, 1, 2]).data.toList [1, 2] = [1, 258] by decide +kernel, show upB (ByteArray.mk #[1, 1, 2]).data.toList [1, 2] = true by decide +kernel] at h
    exact h.mono fun e w' ⟨B, d, he, hd, hi, hb⟩ => ⟨B, d, he, hi, Below.trans b1 (hb.mono b1.size)⟩
  have hN1 : ∀ w, Calls Try.prog 14 #[.int .i64 258, .int .i64 3] w fun e w' => e = .returned (.string ⟨#[0, 1, 2]⟩) ∧ Below w.heap.size w w' := fun w => by
    have h := code_num 258 3 (by decide) (by decide) w
    rwa [show numS 258 3 = ⟨#[0, 1, 2]⟩ by decide +kernel] at h
  have hN2 : ∀ w, Calls Try.prog 14 #[.int .i64 256, .int .i64 1] w fun e w' => e = .returned (.string ⟨#[]⟩) ∧ Below w.heap.size w w' := fun w => by
    have h := code_num 256 1 (by decide) (by decide) w
    rwa [show numS 256 1 = ⟨#[]⟩ by decide +kernel] at h
  have hn : ∀ w : World, Ints (w.alloc (.cells #[.int .i64 1, .int .i64 258] 3)) (some ⟨w.heap.size, 0, none⟩) 2 [1, 258] := fun w => ints_new7 w [1, 258]
  have hal : ∀ w : World, At w (w.alloc (.cells #[.int .i64 1, .int .i64 258] 3)) := fun w => (Below.refl _ _).alloc (Nat.le_refl _) _
  have e8 : eqL [1, 258] [1, 258] = true := by decide
  have HT := Lib.hid hT
  have HP := Lib.hid hP
  have HU := Lib.hid hU
  have HN1 := Lib.hid hN1
  have HN2 := Lib.hid hN2
  have HNN := Lib.hid hn
  have HAL := Lib.hid hal
  clear hT hP hU hN1 hN2 hn hal
  go_enter Try.func6, Try.ntmps6
  go_wp2_with (first
    | (go_at_call 12; refine (HT.out _).mono ?_; rintro e w' ⟨rfl, rfl⟩)
    | (go_at_call 7; refine (HP.out _).mono ?_; rintro e w1 ⟨rfl, b1⟩; have A1 := h.below b1; clear b1)
    | (go_at_call 9; refine (HU.out _).mono ?_; rintro e w2 ⟨B, d, rfl, hi, b2⟩; have A2 := A1.below b2; have HI := Lib.hid hi; clear b2 hi)
    | (go_at_call 14; ((with_reducible refine (HN1.out _).mono ?_)); rintro e w3 ⟨rfl, b3⟩; have A3 := A2.below b3; have HI3 := Lib.hid (HI.out.below b3); clear b3)
    | (go_at_call 11; refine (l7_ints W _ _ _ _ _ _ [1, 258] [1, 258] _ (A3.below (HAL.out _)) (HI3.out.below (HAL.out _)) (HNN.out _) (by omega) (by omega)).mono ?_; rintro e w4 ⟨rfl, _, A4⟩)
    | (go_at_call 14; ((with_reducible refine (HN2.out _).mono ?_)); rintro e w5 ⟨rfl, b5⟩; have A5 := A4.below b5; clear b5))
  all_goals go_ret
  all_goals exact ⟨rfl, A5⟩
end Go.Proofs.Ytfgdbgpfmkhooaa
