/- Contracts of crc.Open and of the document's. -/
import Derived.Test.YteeiebopfjlffaaSeal
namespace Go.Proofs.Yteeiebopfjlffaa
set_option maxRecDepth 100000
open Go.RowKit
set_option linter.unusedVariables false
set_option linter.unusedSimpArgs false

/-- Is it sealed, and what is inside? -/
def insideB (s : ByteArray) : ByteArray := s.extract 0 (s.size - 2)
def openB (s : ByteArray) : Bool := decide (2 ≤ s.size) && ((sealB (insideB s)).toList == s.toList)
def toldB (s : ByteArray) : ByteArray := if openB s = true then insideB s else ⟨#[]⟩

theorem crc_open (s : ByteArray) (w : World) (hl : s.size ≤ 9223372036854775805) :
    Calls Try.prog 18 #[.string s] w fun e w' => e = .returned (.tuple #[.string (toldB s), .bool (openB s)]) ∧ Below w.heap.size w w' := by
  by_cases h2 : 2 ≤ s.size
  · obtain ⟨n, hn⟩ : ∃ n, s.size = n + 2 := ⟨s.size - 2, by omega⟩
    have hi : insideB s = s.extract 0 n := by unfold insideB; rw [hn]; rfl
    have hb : openB s = ((sealB (s.extract 0 n)).toList == s.toList) := by unfold openB; rw [hi]; simp [h2]
    have ht : toldB s = if openB s = true then s.extract 0 n else ⟨#[]⟩ := by unfold toldB; rw [hi]
    have H := Lib.hid (crc_seal (s.extract 0 n) w (by rw [ByteArray.size_extract]; omega))
    generalize sealB (s.extract 0 n) = T at *
    generalize openB s = b at *
    generalize toldB s = u at *
    subst ht
    clear hi h2
    cases b
    all_goals
      have hb' := hb.symm
      clear hb
      go_enter Try.func18, Try.ntmps18
      go_wp2_with (go_at_call 14; refine H.out.mono ?_; rintro e w' ⟨rfl, hw⟩)
      all_goals go_ret2
      all_goals exact ⟨rfl, hw⟩
  · have hb : openB s = false := by unfold openB; simp [h2]
    have ht : toldB s = ⟨#[]⟩ := by unfold toldB; rw [hb]; rfl
    rw [hb, ht]
    clear hb ht
    go_enter Try.func18, Try.ntmps18
    go_wp2
    all_goals go_ret2
    all_goals exact ⟨rfl, Below.refl _ _⟩

/-- What is sealed ends in the two bytes of its sum. -/
theorem open_bytes (s : ByteArray) (n : Nat) (hn : s.size = n + 2) (h0 : n < s.size) (h1 : n + 1 < s.size) :
    openB s = (decide (s[n].toNat = sumB (s.extract 0 n) / 256) && decide (s[n + 1].toNat = sumB (s.extract 0 n) % 256)) := by
  have hi : insideB s = s.extract 0 n := by unfold insideB; rw [hn]; rfl
  have hc := sumB_lt (s.extract 0 n)
  have e : s = s.extract 0 n ++ ⟨#[s[n], s[n + 1]]⟩ := by
    apply ByteArray.ext
    rw [ByteArray.data_append, ByteArray.data_extract]
    apply Array.ext
    · simp [show s.data.size = s.size from rfl]; omega
    · intro i a b
      rw [Array.getElem_append]
      split
      · simp
      · next hge =>
        simp [show s.data.size = s.size from rfl] at hge
        have : i = n ∨ i = n + 1 := by have : s.data.size = s.size := rfl; omega
        rcases this with rfl | rfl
        · simp [show s.data.size = s.size from rfl, hn]; rfl
        · simp [show s.data.size = s.size from rfl, hn]; rfl
  have e2 : s.data.toList = (s.extract 0 n).data.toList ++ [s[n], s[n + 1]] := by
    have := congrArg (fun t => t.data.toList) e
    simpa only [ByteArray.data_append, Array.toList_append] using this
  clear e
  unfold openB
  rw [hi, Bool.eq_iff_iff]
  unfold sealB
  generalize sumB (s.extract 0 n) = c at *
  simp only [hn, Bool.and_eq_true, decide_eq_true_eq, beq_iff_eq]
  rw [ByteArray.toList_eq, ByteArray.toList_eq, ByteArray.data_append, Array.toList_append, e2, List.append_cancel_left_eq]
  have e3 : (tailB c).data.toList = [UInt8.ofNat (c / 256), UInt8.ofNat c] := rfl
  rw [e3]
  generalize s[n] = x
  generalize s[n + 1] = y
  have q1 : (UInt8.ofNat (c / 256)).toNat = c / 256 := by rw [UInt8.toNat_ofNat']; omega
  have q2 : (UInt8.ofNat c).toNat = c % 256 := by rw [UInt8.toNat_ofNat']
  constructor
  · rintro ⟨_, h⟩
    injection h with h h'
    injection h' with h'
    rw [← h, ← h']
    exact ⟨q1, q2⟩
  · rintro ⟨h, h'⟩
    refine ⟨by omega, ?_⟩
    rw [UInt8.toNat_inj.1 (q1.trans h.symm), UInt8.toNat_inj.1 (q2.trans h'.symm)]

theorem ref6_open (s : ByteArray) (w : World) (hl : s.size ≤ 9223372036854775805) :
    Calls Try.prog 20 #[.string s] w fun e w' => e = .returned (.tuple #[.string (toldB s), .bool (openB s)]) ∧ w = w' := by
  by_cases h2 : 2 ≤ s.size
  · obtain ⟨n, hn⟩ : ∃ n, s.size = n + 2 := ⟨s.size - 2, by omega⟩
    have hi : insideB s = s.extract 0 n := by unfold insideB; rw [hn]; rfl
    have hn0 : n < s.size := by omega
    have hn1 : n + 1 < s.size := by omega
    have hb := open_bytes s n hn hn0 hn1
    have ht : toldB s = if openB s = true then s.extract 0 n else ⟨#[]⟩ := by unfold toldB; rw [hi]
    have H := Lib.hid (ref6_sum (s.extract 0 n) w (by rw [ByteArray.size_extract]; omega))
    have hc := sumB_lt (s.extract 0 n)
    generalize sumB (s.extract 0 n) = c at *
    have ha : bits .and .u16 (c : Int) 255 = (c : Int) % 256 := by
      have := u16_and_nat c 255 hc (by omega)
      rw [Nat.and_two_pow_sub_one_eq_mod c 8] at this
      simpa using this
    generalize openB s = b at *
    generalize toldB s = u at *
    subst ht
    clear hi h2
    by_cases hx : s[n].toNat = c / 256
    · have f1 : ((s[n].toNat : Int) != (c : Int) / 256) = false := by simp; omega
      by_cases hy : s[n + 1].toNat = c % 256
      · have f2 : ((s[n + 1].toNat : Int) != (c : Int) % 256) = false := by simp; omega
        obtain rfl : b = true := by simp [hb, hx, hy]
        clear hb hx hy
        go_enter Try.func20, Try.ntmps20
        go_wp2_with (go_at_call 30; refine H.out.mono ?_; rintro e w' ⟨rfl, rfl⟩)
        all_goals go_ret2
        all_goals exact ⟨rfl, rfl⟩
      · have f2 : ((s[n + 1].toNat : Int) != (c : Int) % 256) = true := by simp; omega
        obtain rfl : b = false := by simp [hb, hx, hy]
        clear hb hx hy
        go_enter Try.func20, Try.ntmps20
        go_wp2_with (go_at_call 30; refine H.out.mono ?_; rintro e w' ⟨rfl, rfl⟩)
        all_goals go_ret2
        all_goals exact ⟨rfl, rfl⟩
    · have f1 : ((s[n].toNat : Int) != (c : Int) / 256) = true := by simp; omega
      obtain rfl : b = false := by simp [hb, hx]
      clear hb hx
      go_enter Try.func20, Try.ntmps20
      go_wp2_with (go_at_call 30; refine H.out.mono ?_; rintro e w' ⟨rfl, rfl⟩)
      all_goals go_ret2
      all_goals exact ⟨rfl, rfl⟩
  · have hb : openB s = false := by unfold openB; simp [h2]
    have ht : toldB s = ⟨#[]⟩ := by unfold toldB; rw [hb]; rfl
    rw [hb, ht]
    clear hb ht
    go_enter Try.func20, Try.ntmps20
    go_wp2
    all_goals go_ret2
    all_goals exact ⟨rfl, rfl⟩
end Go.Proofs.Yteeiebopfjlffaa
