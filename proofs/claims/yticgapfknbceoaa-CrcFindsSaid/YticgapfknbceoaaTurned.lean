/- A text of which one byte is another one: the law package's own 'turned'; what a turned text's sum is. -/
import Derived.Test.YticgapfknbceoaaLaw6
namespace Go.Proofs.Yticgapfknbceoaa
open Go.RowKit
set_option linter.unusedVariables false

def turnB (s : ByteArray) (k : Nat) (x : UInt8) : ByteArray := ⟨(s.data.toList.modify k (· ^^^ x)).toArray⟩
theorem turn_list (s : ByteArray) (k : Nat) (x : UInt8) : (turnB s k x).data.toList = s.data.toList.modify k (· ^^^ x) := rfl
theorem turn_size (s : ByteArray) (k : Nat) (x : UInt8) : (turnB s k x).size = s.size := by
  show (turnB s k x).data.size = s.data.size
  rw [← Array.length_toList, turn_list, List.length_modify, Array.length_toList]

set_option maxHeartbeats 1000000 in
theorem law6_turned (s : ByteArray) (k : Nat) (x : UInt8) (w : World) (hk : k < s.size) (hl : s.size ≤ 9223372036854775807) :
    Calls Try.prog 16 #[.string s, .int .i64 (k : Int), .int .u8 (x.toNat : Int)] w fun e w' => e = .returned (.string (turnB s k x)) ∧ Below w.heap.size w w' := by
  have hcv := run_bytes_of_string (P := Try.prog) w 9 35 5 s Try.underlying9 Try.underlying35 Try.underlying5
  obtain ⟨C, hC⟩ : ∃ C, grownCap w s.size 0 5 = C := ⟨_, rfl⟩
  rw [hC] at hcv
  obtain ⟨w1, hw1⟩ : ∃ w1, w.drew.alloc (.cells (bytesRow s C) 5 ((bytesRow s C).size, (bytesRow s C).size + 1)) = w1 := ⟨_, rfl⟩
  rw [hw1] at hcv
  have hb1 : Below w.heap.size w w1 := hw1 ▸ (Below.refl _ _).drew.alloc (Nat.le_refl _) _
  have hds : s.data.size = s.size := rfl
  have hcell : ∀ j (hj : j < s.size), w1.cell? ⟨w.heap.size, j, none⟩ = some (.int .u8 (s[j].toNat : Int)) := by
    intro j hj
    rw [← hw1]
    exact (World.cell?_alloc_mark w.drew (bytesRow s C) 5 _ j).trans (bytesRow_at s C j hj)
  have hrow : s.size ≤ (bytesRow s C).size := by unfold bytesRow; simp [hds]
  have hfr : w1.frozen? ⟨w.heap.size, k, none⟩ = false := by
    rw [← hw1]
    refine (World.frozen?_alloc_mark w.drew (bytesRow s C) 5 _ _ k).trans ?_
    simp; omega
  have hck := hcell k hk
  have hx : bits .xor .u8 (s[k].toNat : Int) (x.toNat : Int) = ((s[k] ^^^ x).toNat : Int) := by
    rw [u8_xor_nat _ _ (UInt8.toNat_lt _) (UInt8.toNat_lt _), UInt8.toNat_xor]
  have hlen : (s.data.toList.modify k (· ^^^ x)).length = s.size := by rw [List.length_modify, Array.length_toList]; rfl
  have hback := run_convert_bytes_back (P := Try.prog) (w1.setCell ⟨w.heap.size, k, none⟩ (.int .u8 ((s[k] ^^^ x).toNat : Int))) 35 9 5 ⟨w.heap.size, 0, none⟩ C (s.data.toList.modify k (· ^^^ x))
    Try.underlying35 Try.underlying5 Try.underlying9 (fun j hj => by
      have e : ((⟨w.heap.size, 0, none⟩ : Addr).add j) = ⟨w.heap.size, j, none⟩ := by unfold Addr.add; split <;> simp_all
      rw [e]
      by_cases hjk : j = k
      · subst hjk
        rw [World.cell?_setCell_same w1 _ _ hck]
        rw [List.getElem_modify]
        simp
        rfl
      · rw [World.cell?_setCell_other w1 _ _ _ (show (⟨w.heap.size, k, none⟩ : Addr) ≠ ⟨w.heap.size, j, none⟩ by intro h; injection h with _ h _; exact hjk h.symm), hcell j (by omega), List.getElem_modify, if_neg (by omega)]
        simp
        rfl)
  rw [hlen] at hback
  have hback2 : (convert 35 9 (.slice (some ⟨w.heap.size, 0, none⟩) s.size C)).run Try.prog (w1.setCell ⟨w.heap.size, k, none⟩ (.int .u8 ((s[k] ^^^ x).toNat : Int))) =
      .ok (.string (turnB s k x)) (w1.setCell ⟨w.heap.size, k, none⟩ (.int .u8 ((s[k] ^^^ x).toNat : Int))) := hback
  clear hback hlen hcell hrow hw1 hC
  have HB := Lib.hid hb1
  clear hb1
  generalize (s[k] ^^^ x).toNat = y at *
  go_enter Try.func16, Try.ntmps16
  go_wp2
  all_goals go_ret
  all_goals exact ⟨rfl, HB.out.setCell (Nat.le_refl _) _⟩
end Go.Proofs.Yticgapfknbceoaa
