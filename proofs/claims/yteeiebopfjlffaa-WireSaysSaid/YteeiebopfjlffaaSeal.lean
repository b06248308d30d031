/- Contracts of package crc and of the document's own: Sum, Seal, Open. -/
import Derived.Test.YteeiebopfjlffaaCrc
import Derived.Laws.Concat
namespace Go.Proofs.Yteeiebopfjlffaa
set_option maxRecDepth 100000
open Go.RowKit
set_option linter.unusedVariables false
set_option linter.unusedSimpArgs false

def sumB (s : ByteArray) : Nat := moreN 65535 s.data.toList
theorem sumB_lt (s : ByteArray) : sumB s < 65536 := more_lt _ _ (by decide)

theorem crc_moreB (c : Nat) (s : ByteArray) (w : World) (hc : c < 65536) (hl : s.size ≤ 9223372036854775807) :
    Calls Try.prog 40 #[.int .u16 (c : Int), .string s] w fun e w' => e = .returned (.int .u16 (moreN c s.data.toList : Nat)) ∧ ∃ n, w' = w.drewN n :=
  crc_more c s.data.toList w hc (by rw [Array.length_toList]; exact hl)
theorem ref6_moreB (c : Nat) (s : ByteArray) (w : World) (hc : c < 65536) (hl : s.size ≤ 9223372036854775807) :
    Calls Try.prog 42 #[.int .u16 (c : Int), .string s] w fun e w' => e = .returned (.int .u16 (moreN c s.data.toList : Nat)) ∧ w = w' :=
  ref6_more c s.data.toList w hc (by rw [Array.length_toList]; exact hl)
theorem crc_sum (s : ByteArray) (w : World) (hl : s.size ≤ 9223372036854775807) :
    Calls Try.prog 26 #[.string s] w fun e w' => e = .returned (.int .u16 (sumB s : Nat)) ∧ ∃ n, w' = w.drewN n := by
  have H := Lib.hid (crc_moreB 65535 s w (by decide) hl)
  unfold sumB
  go_enter Try.func26, Try.ntmps26
  go_wp2_with (go_at_call 40; refine H.out.mono ?_; rintro e w' ⟨rfl, n, rfl⟩)
  all_goals go_ret
  all_goals exact ⟨rfl, n, rfl⟩
theorem ref6_sum (s : ByteArray) (w : World) (hl : s.size ≤ 9223372036854775807) :
    Calls Try.prog 30 #[.string s] w fun e w' => e = .returned (.int .u16 (sumB s : Nat)) ∧ w = w' := by
  have H := Lib.hid (ref6_moreB 65535 s w (by decide) hl)
  unfold sumB
  go_enter Try.func30, Try.ntmps30
  go_wp2_with (go_at_call 42; refine H.out.mono ?_; rintro e w' ⟨rfl, rfl⟩)
  all_goals go_ret
  all_goals exact ⟨rfl, rfl⟩

/-- What is sealed: the sum behind it, the higher byte first. -/
def tailB (c : Nat) : ByteArray := ⟨#[UInt8.ofNat (c / 256), UInt8.ofNat c]⟩
def sealB (s : ByteArray) : ByteArray := s ++ tailB (sumB s)

theorem tail_size (c : Nat) : (tailB c).size = 2 := rfl
theorem seal_size (s : ByteArray) : (sealB s).size = s.size + 2 := by unfold sealB; rw [ByteArray.size_append, tail_size]
theorem conv_tail (w : World) (n c : Nat) (hc : c < 65536) : (convert 37 9 (.slice (some ⟨w.heap.size, 0, none⟩) 2 2)).run Try.prog ((w.drewN n).alloc (.cells #[.int .u8 ((c : Int) / 256), .int .u8 ((c : Int) % 256)] 5)) = .ok (.string (tailB c)) ((w.drewN n).alloc (.cells #[.int .u8 ((c : Int) / 256), .int .u8 ((c : Int) % 256)] 5)) := by
  have h := run_convert_bytes_back (P := Try.prog) ((w.drewN n).alloc (.cells #[.int .u8 ((c : Int) / 256), .int .u8 ((c : Int) % 256)] 5)) 37 9 5 ⟨w.heap.size, 0, none⟩ 2 [UInt8.ofNat (c / 256), UInt8.ofNat c]
    Try.underlying37 Try.underlying5 Try.underlying9 (fun j hj => by
      have e : ((⟨w.heap.size, 0, none⟩ : Addr).add j) = ⟨(w.drewN n).heap.size, j, none⟩ := by unfold Addr.add; split <;> simp_all
      rw [e, World.cell?_alloc_at _ _ _ _ rfl]
      match j, hj with
      | 0, _ =>
        have : (UInt8.ofNat (c / 256)).toNat = c / 256 := by rw [UInt8.toNat_ofNat']; omega
        simp only [List.getElem_cons_zero, this]
        rfl
      | 1, _ =>
        have : (UInt8.ofNat c).toNat = c % 256 := by rw [UInt8.toNat_ofNat']
        simp only [List.getElem_cons_succ, List.getElem_cons_zero, this]
        rfl)
  exact h
theorem below_tail {w : World} (n : Nat) (o : Obj) : Below w.heap.size w ((w.drewN n).alloc o) := (below_drewN (Below.refl _ _) n).alloc (Nat.le_refl _) _

theorem crc_seal (s : ByteArray) (w : World) (hl : s.size ≤ 9223372036854775805) :
    Calls Try.prog 14 #[.string s] w fun e w' => e = .returned (.string (sealB s)) ∧ Below w.heap.size w w' := by
  have H := Lib.hid (crc_sum s w (by omega))
  unfold sealB
  have hc := sumB_lt s
  generalize sumB s = c at *
  have hv := fun n => conv_tail w n c hc
  have ht := tail_size c
  generalize tailB c = T at *
  go_enter Try.func14, Try.ntmps14
  go_wp2_with (go_at_call 26; refine H.out.mono ?_; rintro e w' ⟨rfl, n, rfl⟩)
  all_goals go_ret
  all_goals exact ⟨rfl, below_tail _ _⟩
theorem ref6_seal (s : ByteArray) (w : World) (hl : s.size ≤ 9223372036854775805) :
    Calls Try.prog 17 #[.string s] w fun e w' => e = .returned (.string (sealB s)) ∧ Below w.heap.size w w' := by
  have H := Lib.hid (ref6_sum s w (by omega))
  unfold sealB
  have hc := sumB_lt s
  generalize sumB s = c at *
  have hv := conv_tail w 0 c hc
  rw [show w.drewN 0 = w from rfl] at hv
  have ht := tail_size c
  have ha : bits .and .u16 (c : Int) 255 = (c : Int) % 256 := by
    have := u16_and_nat c 255 hc (by omega)
    rw [Nat.and_two_pow_sub_one_eq_mod c 8] at this
    simpa using this
  generalize tailB c = T at *
  go_enter Try.func17, Try.ntmps17
  go_wp2_with (go_at_call 30; refine H.out.mono ?_; rintro e w' ⟨rfl, rfl⟩)
  all_goals go_ret
  all_goals exact ⟨rfl, below_tail 0 _⟩
end Go.Proofs.Yteeiebopfjlffaa
