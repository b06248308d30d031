/- A reader of bytes: contracts of torn, real. -/
import Derived.Test.YteeiebopfjlffaaRdN
import Derived.Maps.AppendAt
namespace Go.Proofs.Yteeiebopfjlffaa
open Go.RowKit Ieee
set_option linter.unusedVariables false
set_option linter.unusedSimpArgs false
set_option maxRecDepth 100000
attribute [local go_sem] cell_set_ite

theorem rdR_len (l : List UInt8) (W : Nat) : (rdR l W).length ≤ l.length := by
  unfold rdR; split
  · rw [List.length_drop]; omega
  · omega
/-- From w the reader in block g has come to these bytes. -/
def Rdr (g : Nat) (w : World) (l : List UInt8) (b : Bool) (w' : World) : Prop := Box w' g (rdC l b) ∧ w.grownBy w' (some g)
theorem Rdr.then {g : Nat} {w w1 w2 : World} {l l2 : List UInt8} {b b2 : Bool} (h : Rdr g w l b w1) (k : Rdr g w1 l2 b2 w2) : Rdr g w l2 b2 w2 := ⟨k.1, h.2.trans k.2⟩
theorem take_bytes (l : List UInt8) (n : Nat) (h : n ≤ l.length) : (ByteArray.mk l.toArray).extract 0 n = ⟨(l.take n).toArray⟩ := by
  apply ByteArray.ext
  rw [ByteArray.data_extract]
  simp
theorem rd_wrong {g : Nat} {w w1 : World} {l : List UInt8} {b : Bool} (h : Rdr g w l b w1) : Rdr g w l true (w1.setCell ⟨g, 1, none⟩ (.bool true)) :=
  ⟨h.1.set (i := 1) (by simp [rdC]) (.bool true), h.2.trans (gb_set _ _ _ _)⟩
theorem rd_rest {g : Nat} {w w1 : World} {l : List UInt8} {b : Bool} (h : Rdr g w l b w1) (l2 : List UInt8) : Rdr g w l2 b (w1.setCell ⟨g, 0, none⟩ (.string ⟨l2.toArray⟩)) :=
  ⟨h.1.set (i := 0) (by simp [rdC]) (.string ⟨l2.toArray⟩), h.2.trans (gb_set _ _ _ _)⟩
theorem rd_torn (g : Nat) (l : List UInt8) (b : Bool) (hl : l.length ≤ 100000) (w : World) (hB : Box w g (rdC l b)) :
    Calls Try.prog 33 #[.pointer (some ⟨g, 0, none⟩)] w fun e w' => e = .returned (.string (tnV l)) ∧ Rdr g w (tnR l) (b || tnW l) w' := by
  have KN := Lib.hid (rd_number g 1 l b (by omega) (by omega) hl w hB)
  have hrl := rdR_len l 1
  have hv : rdV l 1 < 256 := rdV_lt l 1
  have eB : tnB l = (decide (64 < rdV l 1) || decide ((rdR l 1).length < rdV l 1)) := rfl
  have eV : tnV l = if tnB l then ⟨#[]⟩ else ⟨((rdR l 1).take (rdV l 1)).toArray⟩ := rfl
  have eR : tnR l = if tnB l then rdR l 1 else (rdR l 1).drop (rdV l 1) := rfl
  have eW : (b || tnW l) = ((b || rdW l 1) || tnB l) := by unfold tnW; rw [Bool.or_assoc]
  rw [eV, eR, eW]
  clear eV eR eW
  generalize rdV l 1 = k at *
  generalize rdR l 1 = r at *
  generalize (b || rdW l 1) = b1 at *
  have hs : (ByteArray.mk r.toArray).size = r.length := List.size_toArray
  have HD := Lib.hid (drop_bytes r k)
  cases hB2 : tnB l with
  | true =>
    rw [hB2] at eB
    rw [Bool.or_true]
    clear hB2
    have HE := Lib.hid eB
    clear eB
    go_enter Try.func33, Try.ntmps33
    go_wp2_with (fail)
    refine KN.out.mono ?_
    rintro e w1 ⟨rfl, x1⟩
    have c0 : w1.cell? ⟨g, 0, none⟩ = some (.string ⟨r.toArray⟩) := x1.1.2.1 0
    have c1 : w1.cell? ⟨g, 1, none⟩ = some (.bool b1) := x1.1.2.1 1
    have f0 := x1.1.2.2 0
    have f1 := x1.1.2.2 1
    have X1 := Lib.hid x1
    clear x1
    by_cases h64 : 64 < k
    · go_wp2_with (fail)
      all_goals go_ret
      all_goals exact ⟨rfl, rd_wrong X1.out⟩
    · have hrk : r.length < k := by have eB := HE.out; rw [decide_eq_false h64, Bool.false_or] at eB; exact of_decide_eq_true eB.symm
      go_wp2_with (fail)
      all_goals go_ret
      all_goals exact ⟨rfl, rd_wrong X1.out⟩
  | false =>
    rw [hB2] at eB
    rw [Bool.or_false]
    clear hB2
    have hb := eB.symm
    simp only [Bool.or_eq_false_iff, decide_eq_false_iff_not, Nat.not_lt] at hb
    obtain ⟨h64, hrk⟩ := hb
    clear eB
    have HT := Lib.hid (take_bytes r k hrk)
    go_enter Try.func33, Try.ntmps33
    go_wp2_with (fail)
    refine KN.out.mono ?_
    rintro e w1 ⟨rfl, x1⟩
    have c0 : w1.cell? ⟨g, 0, none⟩ = some (.string ⟨r.toArray⟩) := x1.1.2.1 0
    have c1 : w1.cell? ⟨g, 1, none⟩ = some (.bool b1) := x1.1.2.1 1
    have f0 := x1.1.2.2 0
    have f1 := x1.1.2.2 1
    have X1 := Lib.hid x1
    clear x1
    go_wp2_with (fail)
    all_goals go_ret
    all_goals exact ⟨by rw [← HT.out]; rfl, by rw [HD.out]; exact rd_rest X1.out _⟩
theorem or_words (H L : Nat) (h1 : H < 4294967296) (h2 : L < 4294967296) : bits .or .u64 ((H : Int) * 4294967296) (L : Int) = ((H * 4294967296 + L : Nat) : Int) := by
  have hx : H * 4294967296 ||| L = H * 4294967296 + L := by
    rw [Nat.mul_comm]; exact (Nat.two_pow_add_eq_or_of_lt (i := 32) h2 H).symm
  rw [show (H : Int) * 4294967296 = ((H * 4294967296 : Nat) : Int) by omega]
  show IntKind.u64.wrap ((BitVec.ofInt 64 ((H * 4294967296 : Nat) : Int) ||| BitVec.ofInt 64 ((L : Nat) : Int)).toNat : Int) = _
  rw [BitVec.toNat_or, BitVec.ofInt_natCast, BitVec.ofInt_natCast, BitVec.toNat_ofNat, BitVec.toNat_ofNat, Nat.mod_eq_of_lt (by omega), Nat.mod_eq_of_lt (show L < 2 ^ 64 by omega), hx]
  have : H * 4294967296 + L < 18446744073709551616 := by omega
  show ((H * 4294967296 + L : Nat) : Int) % 18446744073709551616 = _
  omega
end Go.Proofs.Yteeiebopfjlffaa
