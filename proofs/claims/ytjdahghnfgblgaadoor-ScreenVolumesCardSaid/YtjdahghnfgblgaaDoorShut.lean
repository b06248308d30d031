/- One byte of what is sealed is another one: it does not open; bytes as numbers. -/
import Derived.Test.YtjdahghnfgblgaaDoorTurned
import Derived.Test.YtjdahghnfgblgaaDoorArr
namespace Go.Proofs.YtjdahghnfgblgaaDoor.crcFinds
set_option maxRecDepth 100000
open Go.ChangeShapes Go.WideShapes Go.ChangeAt Go.RowKit
set_option linter.unusedVariables false
set_option linter.unusedSimpArgs false

theorem more_off (q : List UInt8) : ∀ (u v : Nat), u < 65536 → v < 65536 → moreN (u ^^^ v) q = moreN u q ^^^ moreN v (List.replicate q.length 0) := by
  induction q with
  | nil => intro u v _ _; rfl
  | cons a q ih =>
    intro u v hu hv
    have h := thru_lin u v a.toNat 0 hu hv
    rw [Nat.xor_zero] at h
    rw [List.length_cons, List.replicate_succ, more_cons, more_cons, more_cons, h]
    exact ih _ _ (thru_lt _ hu) (thru_lt _ hv)
theorem turn_sum (l : List UInt8) (k : Nat) (x : UInt8) (c : Nat) (hc : c < 65536) (hk : k < l.length) :
    moreN c (l.modify k (· ^^^ x)) = moreN c l ^^^ moreN (thru 0 x.toNat) (List.replicate (l.length - (k + 1)) 0) := by
  have hl : l = l.take k ++ l[k] :: l.drop (k + 1) := by rw [← List.drop_eq_getElem_cons hk, List.take_append_drop]
  rw [List.modify_eq_take_cons_drop hk]
  conv => rhs; arg 1; rw [hl]
  rw [more_append, more_append, more_cons, more_cons, UInt8.toNat_xor]
  have hu := more_lt (l.take k) c hc
  generalize moreN c (l.take k) = u at *
  have h := thru_lin u 0 l[k].toNat x.toNat hu (by decide)
  rw [Nat.xor_zero] at h
  rw [h, more_off _ _ _ (thru_lt _ hu) (thru_lt _ (by decide)), List.length_drop]
theorem seal_zero (s : ByteArray) : moreN 65535 (sealB s).data.toList = 0 := by
  unfold sealB
  rw [ByteArray.data_append, Array.toList_append, more_append]
  have e : (tailB (sumB s)).data.toList = [UInt8.ofNat (sumB s / 256), UInt8.ofNat (sumB s)] := rfl
  have hc := sumB_lt s
  rw [e, more_cons, more_cons, more_nil]
  change thru (thru (sumB s) (UInt8.ofNat (sumB s / 256)).toNat) (UInt8.ofNat (sumB s)).toNat = 0
  rw [UInt8.toNat_ofNat', UInt8.toNat_ofNat', Nat.mod_eq_of_lt (show sumB s / 256 < 2 ^ 8 by omega)]
  exact sealed_zero _ hc
theorem open_zero (t : ByteArray) (h : openB t = true) : moreN 65535 t.data.toList = 0 := by
  unfold openB at h
  rw [Bool.and_eq_true] at h
  have e := eq_of_beq h.2
  rw [ByteArray.toList_eq, ByteArray.toList_eq] at e
  rw [← e]
  exact seal_zero _
theorem xor_none {a : Nat} (h : 0 ^^^ a = 0) : a = 0 := by rwa [Nat.zero_xor] at h
theorem one_shut (s : ByteArray) (k : Nat) (x : UInt8) (hk : k < (sealB s).size) (hx : x.toNat ≠ 0) : openB (turnB (sealB s) k x) = false := by
  rw [Bool.eq_false_iff]
  intro h
  have h0 := open_zero _ h
  rw [turn_list, turn_sum _ _ _ _ (by decide) (by rw [Array.length_toList]; exact hk), seal_zero] at h0
  exact one_found _ (UInt8.toNat_lt x) hx (more_zero _ _ (thru_lt _ (by decide)) (xor_none h0))
theorem two_shut (s : ByteArray) (k : Nat) (x y : UInt8) (hk : k + 1 < (sealB s).size) (hx : x.toNat ≠ 0) : openB (turnB (turnB (sealB s) k x) (k + 1) y) = false := by
  rw [Bool.eq_false_iff]
  intro h
  have h0 := open_zero _ h
  have hlen : (sealB s).data.toList.length = (sealB s).size := Array.length_toList
  rw [turn_list, turn_list, turn_sum _ _ _ _ (by decide) (by rw [List.length_modify, hlen]; exact hk), turn_sum _ _ _ _ (by decide) (by rw [hlen]; omega), seal_zero, List.length_modify, hlen, Nat.zero_xor] at h0
  obtain ⟨m, hm⟩ : ∃ m, (sealB s).size = k + 2 + m := ⟨(sealB s).size - (k + 2), by omega⟩
  rw [hm, show k + 2 + m - (k + 1) = m + 1 by omega, show k + 2 + m - (k + 1 + 1) = m by omega, List.replicate_succ, more_cons] at h0
  have hu : thru 0 x.toNat < 65536 := thru_lt _ (by decide)
  have hv : thru 0 y.toNat < 65536 := thru_lt _ (by decide)
  have h1 := more_off (List.replicate m 0) (thru (thru 0 x.toNat) 0) (thru 0 y.toNat) (thru_lt _ hu) hv
  rw [List.length_replicate] at h1
  rw [show (0 : UInt8).toNat = 0 from rfl, ← h1] at h0
  have h2 := thru_lin (thru 0 x.toNat) 0 0 y.toNat hu (by decide)
  rw [Nat.xor_zero, Nat.zero_xor] at h2
  rw [← h2] at h0
  exact two_found _ _ (UInt8.toNat_lt x) (UInt8.toNat_lt y) hx (more_zero _ _ (thru_lt _ hu) h0)

theorem byte_of (x : Int) (h : (Lit.int .u8 x).wf = true) : ∃ b : UInt8, x = (b.toNat : Int) := by
  have c0 : 0 ≤ x ∧ x ≤ 255 := by simp only [Lit.wf, IntKind.min, IntKind.max, IntKind.signed, IntKind.bits, Bool.and_eq_true] at h; simpa using h
  refine ⟨UInt8.ofNat x.toNat, ?_⟩
  rw [UInt8.toNat_ofNat']
  omega
end Go.Proofs.YtjdahghnfgblgaaDoor.crcFinds
