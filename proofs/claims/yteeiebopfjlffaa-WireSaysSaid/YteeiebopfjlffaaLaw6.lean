/- For the laws of stage 6: the contracts with a world in which nothing old has turned; what is sealed is opened; awake. -/
import Derived.Test.YteeiebopfjlffaaOpen
import Derived.ChangeMaps5
namespace Go.Proofs.Yteeiebopfjlffaa
set_option maxRecDepth 100000
open Go.RowKit
set_option linter.unusedVariables false
set_option linter.unusedSimpArgs false

theorem l6_more (W : World) (c : Nat) (s : ByteArray) (w : World) (hc : c < 65536) (hl : s.size ≤ 9223372036854775807) (h : At W w) :
    Calls Try.prog 40 #[.int .u16 (c : Int), .string s] w fun e w' => e = .returned (.int .u16 (moreN c s.data.toList : Nat)) ∧ At W w' :=
  (crc_moreB c s w hc hl).mono fun e w' ⟨he, n, hw⟩ => ⟨he, hw ▸ h.draws n⟩
theorem l6_sum (W : World) (s : ByteArray) (w : World) (hl : s.size ≤ 9223372036854775807) (h : At W w) :
    Calls Try.prog 26 #[.string s] w fun e w' => e = .returned (.int .u16 (sumB s : Nat)) ∧ At W w' :=
  (crc_sum s w hl).mono fun e w' ⟨he, n, hw⟩ => ⟨he, hw ▸ h.draws n⟩
theorem l6_seal (W : World) (s : ByteArray) (w : World) (hl : s.size ≤ 9223372036854775805) (h : At W w) :
    Calls Try.prog 14 #[.string s] w fun e w' => e = .returned (.string (sealB s)) ∧ At W w' :=
  (crc_seal s w hl).mono fun e w' ⟨he, hw⟩ => ⟨he, h.below hw⟩
theorem l6_open (W : World) (s : ByteArray) (w : World) (hl : s.size ≤ 9223372036854775805) (h : At W w) :
    Calls Try.prog 18 #[.string s] w fun e w' => e = .returned (.tuple #[.string (toldB s), .bool (openB s)]) ∧ At W w' :=
  (crc_open s w hl).mono fun e w' ⟨he, hw⟩ => ⟨he, h.below hw⟩
theorem l6r_seal (W : World) (s : ByteArray) (w : World) (hl : s.size ≤ 9223372036854775805) (h : At W w) :
    Calls Try.prog 17 #[.string s] w fun e w' => e = .returned (.string (sealB s)) ∧ At W w' :=
  (ref6_seal s w hl).mono fun e w' ⟨he, hw⟩ => ⟨he, h.below hw⟩

theorem inside_seal (s : ByteArray) : insideB (sealB s) = s := by
  unfold insideB
  rw [seal_size, Nat.add_sub_cancel]
  unfold sealB
  apply ByteArray.ext
  rw [ByteArray.data_extract, ByteArray.data_append]
  apply Array.ext
  · simp [show s.data.size = s.size from rfl]
  · intro i a b
    simp
theorem open_seal (s : ByteArray) : openB (sealB s) = true := by
  unfold openB
  rw [inside_seal, seal_size]
  simp
theorem told_seal (s : ByteArray) : toldB (sealB s) = s := by
  unfold toldB
  rw [open_seal, inside_seal, if_pos rfl]

end Go.Proofs.Yteeiebopfjlffaa
