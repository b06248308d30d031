/- For the laws of stage 6: the contracts with a world in which nothing old has turned; what is sealed is opened; awake. -/
import Derived.Test.YticgapfknbceoaaOpen
import Derived.ChangeMaps5
namespace Go.Proofs.Yticgapfknbceoaa
open Go.RowKit
set_option linter.unusedVariables false

theorem l6_more (W : World) (c : Nat) (s : ByteArray) (w : World) (hc : c < 65536) (hl : s.size ≤ 9223372036854775807) (h : At W w) :
    Calls Try.prog 10 #[.int .u16 (c : Int), .string s] w fun e w' => e = .returned (.int .u16 (moreN c s.data.toList : Nat)) ∧ At W w' :=
  (crc_moreB c s w hc hl).mono fun e w' ⟨he, n, hw⟩ => ⟨he, hw ▸ h.draws n⟩
theorem l6_sum (W : World) (s : ByteArray) (w : World) (hl : s.size ≤ 9223372036854775807) (h : At W w) :
    Calls Try.prog 12 #[.string s] w fun e w' => e = .returned (.int .u16 (sumB s : Nat)) ∧ At W w' :=
  (crc_sum s w hl).mono fun e w' ⟨he, n, hw⟩ => ⟨he, hw ▸ h.draws n⟩
theorem l6_seal (W : World) (s : ByteArray) (w : World) (hl : s.size ≤ 9223372036854775805) (h : At W w) :
    Calls Try.prog 14 #[.string s] w fun e w' => e = .returned (.string (sealB s)) ∧ At W w' :=
  (crc_seal s w hl).mono fun e w' ⟨he, hw⟩ => ⟨he, h.below hw⟩
theorem l6_open (W : World) (s : ByteArray) (w : World) (hl : s.size ≤ 9223372036854775805) (h : At W w) :
    Calls Try.prog 8 #[.string s] w fun e w' => e = .returned (.tuple #[.string (toldB s), .bool (openB s)]) ∧ At W w' :=
  (crc_open s w hl).mono fun e w' ⟨he, hw⟩ => ⟨he, h.below hw⟩
theorem l6r_seal (W : World) (s : ByteArray) (w : World) (hl : s.size ≤ 9223372036854775805) (h : At W w) :
    Calls Try.prog 15 #[.string s] w fun e w' => e = .returned (.string (sealB s)) ∧ At W w' :=
  (ref6_seal s w hl).mono fun e w' ⟨he, hw⟩ => ⟨he, h.below hw⟩

theorem inside_seal (s : ByteArray) : insideB (sealB s) = s := by
  unfold insideB
  rw [seal_size, Nat.add_sub_cancel]
  unfold sealB
  apply ByteArray.ext
  rw [ByteArray.data_extract, ByteArray.data_append]
  apply Array.ext
  · simp [show s.data.size = s.size from rfl]
  · intro i a b
    simp
theorem open_seal (s : ByteArray) : openB (sealB s) = true := by
  unfold openB
  rw [inside_seal, seal_size]
  simp
theorem told_seal (s : ByteArray) : toldB (sealB s) = s := by
  unfold toldB
  rw [open_seal, inside_seal, if_pos rfl]

theorem law6_awake (W w : World) (h : At W w) :
    Calls Try.prog 7 #[] w fun e w' => e = .returned (.bool true) ∧ At W w' := by
  have hb := h
  have e1 : sealB ⟨#[]⟩ = ⟨#[255, 255]⟩ := by decide +kernel
  have e2 : openB ⟨#[97, 98]⟩ = false := by decide +kernel
  have e3 : sumB ⟨#[49, 50, 51, 52, 53, 54, 55, 56, 57]⟩ = 10673 := by decide +kernel
  obtain ⟨s, hs⟩ : ∃ s : ByteArray, ⟨#[97, 98]⟩ = s := ⟨_, rfl⟩
  have z0 : s.size = 2 := by rw [← hs]; rfl
  have z1 : (ByteArray.mk #[]).size = 0 := rfl
  have z2 : (ByteArray.mk #[49, 50, 51, 52, 53, 54, 55, 56, 57]).size = 9 := rfl
  have z3 := seal_size s
  have e4 := open_seal s
  have e5 := told_seal s
  rw [hs] at e2
  go_enter Try.func7, Try.ntmps7
  go_wp2_with (first
    | (go_at_call 14; refine (l6_seal _ _ _ (by omega) (by assumption)).mono ?_; rintro e w' ⟨rfl, hb⟩)
    | (go_at_call 8; refine (l6_open _ _ _ (by omega) (by assumption)).mono ?_; rintro e w' ⟨rfl, hb⟩)
    | (go_at_call 12; refine (l6_sum _ _ _ (by omega) (by assumption)).mono ?_; rintro e w' ⟨rfl, hb⟩))
  all_goals go_ret
  all_goals exact ⟨rfl, hb⟩
end Go.Proofs.Yticgapfknbceoaa
