/- What scripts are as bytes: plain functions, there and back. -/
import Derived.Test.YteeiebopfjlffaaLaw3
import Derived.Test.YteeiebopfjlffaaCodeN
import Derived.Test.YteeiebopfjlffaaLaw6
namespace Go.Proofs.Yteeiebopfjlffaa
set_option maxRecDepth 100000
open Go.RowKit Ieee
set_option linter.unusedVariables false
set_option linter.unusedSimpArgs false

def NANW : Nat := 9221120237041090561
/-- No number, told as one such. -/
def nm (x : Nat) : Nat := if nanB x then NANW else x
def reL (x : Nat) : List UInt8 := UInt8.ofNat (kdV x).toNat :: (if kdV x = 6 then numL (x / 4294967296) 4 ++ numL (x % 4294967296) 4 else [])
structure Rw where
  adc : Nat
  tilt : Nat
  bat : Nat
  enc : Nat
  door : Bool
  key : Int
  wr : Bool
structure Sp where
  raw : Rw
  cut : Bool
  torn : ByteArray
def trN (d w : Bool) : Nat := (if d then 1 else 0) + (if w then 2 else 0)
def tkL (r : Rw) : List UInt8 := 0 :: (reL r.adc ++ (reL r.tilt ++ (reL r.bat ++ (reL r.enc ++ [UInt8.ofNat (trN r.door r.wr), UInt8.ofNat r.key.toNat]))))
def stL (x : Sp) : List UInt8 := if x.cut then 1 :: UInt8.ofNat x.torn.size :: x.torn.data.toList else tkL x.raw
def stB (x : Sp) : Bool := if x.cut then decide (x.torn.size ≤ 64) else decide (0 ≤ x.raw.key ∧ x.raw.key < 256)
def wfR (r : Rw) : Prop := r.adc < 18446744073709551616 ∧ r.tilt < 18446744073709551616 ∧ r.bat < 18446744073709551616 ∧ r.enc < 18446744073709551616
/-- What a reader tells, what is left, and what is wrong with it. -/
def rdV (s : List UInt8) (W : Nat) : Nat := if W ≤ s.length then valL (s.take W) else 0
def rdR (s : List UInt8) (W : Nat) : List UInt8 := if W ≤ s.length then s.drop W else s
def rdW (s : List UInt8) (W : Nat) : Bool := decide (s.length < W)
def plX (s : List UInt8) : Nat := rdV (rdR s 1) 4 * 4294967296 + rdV (rdR (rdR s 1) 4) 4
def reV (s : List UInt8) : Nat :=
  if rdV s 1 = 1 then NANW else if rdV s 1 = 2 then 18442240474082181120 else if rdV s 1 = 3 then 9218868437227405312 else if rdV s 1 = 4 then 9223372036854775808 else if rdV s 1 = 5 then 0 else if rdV s 1 = 6 then (if kdV (plX s) = 6 then plX s else 0) else 0
def reR (s : List UInt8) : List UInt8 := if rdV s 1 = 6 then rdR (rdR (rdR s 1) 4) 4 else rdR s 1
def reW (s : List UInt8) : Bool :=
  rdW s 1 || (if rdV s 1 = 6 then rdW (rdR s 1) 4 || rdW (rdR (rdR s 1) 4) 4 || !decide (kdV (plX s) = 6) else !decide (1 ≤ rdV s 1 ∧ rdV s 1 ≤ 5))
def rwV (s : List UInt8) : Rw :=
  let s4 := reR (reR (reR (reR s)))
  { adc := reV s, tilt := reV (reR s), bat := reV (reR (reR s)), enc := reV (reR (reR (reR s))), door := rdV s4 1 % 2 == 1, key := (rdV (rdR s4 1) 1 : Nat), wr := rdV s4 1 / 2 % 2 == 1 }
def rwR (s : List UInt8) : List UInt8 := rdR (rdR (reR (reR (reR (reR s)))) 1) 1
def rwW (s : List UInt8) : Bool :=
  let s4 := reR (reR (reR (reR s)))
  reW s || reW (reR s) || reW (reR (reR s)) || reW (reR (reR (reR s))) || rdW s4 1 || decide (3 < rdV s4 1) || rdW (rdR s4 1) 1
def tnB (s : List UInt8) : Bool := decide (64 < rdV s 1) || decide ((rdR s 1).length < rdV s 1)
def tnV (s : List UInt8) : ByteArray := if tnB s then ⟨#[]⟩ else ⟨((rdR s 1).take (rdV s 1)).toArray⟩
def tnR (s : List UInt8) : List UInt8 := if tnB s then rdR s 1 else (rdR s 1).drop (rdV s 1)
def tnW (s : List UInt8) : Bool := rdW s 1 || tnB s
def noR : Rw := ⟨0, 0, 0, 0, false, 0, false⟩
def stV (s : List UInt8) : Sp := if rdV s 1 = 0 then ⟨rwV (rdR s 1), false, ⟨#[]⟩⟩ else if rdV s 1 = 1 then ⟨noR, true, tnV (rdR s 1)⟩ else ⟨noR, false, ⟨#[]⟩⟩
def stR (s : List UInt8) : List UInt8 := if rdV s 1 = 0 then rwR (rdR s 1) else if rdV s 1 = 1 then tnR (rdR s 1) else rdR s 1
def stW (s : List UInt8) : Bool := rdW s 1 || (if rdV s 1 = 0 then rwW (rdR s 1) else if rdV s 1 = 1 then tnW (rdR s 1) else true)
def nrm (x : Sp) : Sp := if x.cut then ⟨noR, true, x.torn⟩ else ⟨{ adc := nm x.raw.adc, tilt := nm x.raw.tilt, bat := nm x.raw.bat, enc := nm x.raw.enc, door := x.raw.door, key := x.raw.key, wr := x.raw.wr }, false, ⟨#[]⟩⟩

theorem rd_num (N W : Nat) (t : List UInt8) (h : N < 256 ^ W) : rdV (numL N W ++ t) W = N ∧ rdR (numL N W ++ t) W = t ∧ rdW (numL N W ++ t) W = false := by
  have hl := numL_len N W
  have hle : W ≤ (numL N W ++ t).length := by rw [List.length_append, hl]; omega
  unfold rdV rdR rdW
  rw [if_pos hle, if_pos hle, List.take_left' hl, List.drop_left' hl, val_num W N h]
  exact ⟨rfl, rfl, decide_eq_false (by omega)⟩
theorem num_one (N : Nat) : numL N 1 = [UInt8.ofNat N] := by
  have := numL_succ N 0
  simpa [numL] using this
theorem rd_one (N : Nat) (t : List UInt8) (h : N < 256) : rdV (UInt8.ofNat N :: t) 1 = N ∧ rdR (UInt8.ofNat N :: t) 1 = t ∧ rdW (UInt8.ofNat N :: t) 1 = false := by
  have := rd_num N 1 t (by omega)
  rw [num_one] at this
  exact this
theorem rd_back (s : List UInt8) (W : Nat) (h : rdW s W = false) : s = numL (rdV s W) W ++ rdR s W ∧ rdV s W < 256 ^ W := by
  have hle : W ≤ s.length := by have := of_decide_eq_false h; omega
  unfold rdV rdR
  rw [if_pos hle, if_pos hle]
  have ht : (s.take W).length = W := by rw [List.length_take]; omega
  refine ⟨?_, ?_⟩
  · rw [num_val W _ ht, List.take_append_drop]
  · have := val_lt (s.take W)
    rwa [ht] at this
theorem rd_back1 (s : List UInt8) (h : rdW s 1 = false) : s = UInt8.ofNat (rdV s 1) :: rdR s 1 ∧ rdV s 1 < 256 := by
  obtain ⟨h1, h2⟩ := rd_back s 1 h
  rw [num_one] at h1
  exact ⟨h1, h2⟩
theorem rdV_lt (s : List UInt8) (W : Nat) : rdV s W < 256 ^ W := by
  unfold rdV
  split
  · rename_i hle
    have ht : (s.take W).length = W := by rw [List.length_take]; omega
    have := val_lt (s.take W)
    rwa [ht] at this
  · exact Nat.pow_pos (by omega)
theorem kd_word {x : Nat} (hx : x < 18446744073709551616) :
    (kdV x = 1 ∧ nanB x = true) ∨ (kdV x = 2 ∧ x = 18442240474082181120) ∨ (kdV x = 3 ∧ x = 9218868437227405312) ∨ (kdV x = 4 ∧ x = 9223372036854775808) ∨ (kdV x = 5 ∧ x = 0) ∨ kdV x = 6 := by
  rcases kinds x with ⟨h1, hk⟩ | ⟨h1, h2, h3, h4, hk⟩ | ⟨h1, h2, h3, h4, h5, hk⟩ | ⟨h1, h2, h3, h4, h5, h6, hk⟩ | ⟨h1, h2, h3, h4, h5, h6, hk⟩ | ⟨h1, h2, h3, h4, h5, h6, hk⟩
  · exact .inl ⟨hk, h1⟩
  · refine .inr (.inl ⟨hk, ?_⟩)
    unfold rg at h3; unfold sgn at h4; simp at h4; omega
  · refine .inr (.inr (.inl ⟨hk, ?_⟩))
    unfold rg at h4; unfold sgn at h5; simp at h5; omega
  · exact .inr (.inr (.inr (.inr (.inr hk))))
  · refine .inr (.inr (.inr (.inl ⟨hk, ?_⟩)))
    unfold rg at h5; unfold sgn at h6; simp at h6; omega
  · refine .inr (.inr (.inr (.inr (.inl ⟨hk, ?_⟩))))
    unfold rg at h5; unfold sgn at h6; simp at h6; omega
theorem kd_nanw : kdV NANW = 1 := by decide +kernel
theorem nan_nanw : nanB NANW = true := by decide +kernel
theorem nan_of_kd {x : Nat} (h : kdV x ≠ 1) : nanB x = false := by
  cases hn : nanB x
  · rfl
  · exact absurd (kd_nan hn) h
theorem re_small (x k : Nat) (hk : kdV x = (k : Int)) (h6 : k ≠ 6) (hk8 : k < 256) (t : List UInt8) : ∃ s, reL x ++ t = s ∧ rdV s 1 = k ∧ rdR s 1 = t ∧ rdW s 1 = false := by
  refine ⟨_, rfl, ?_⟩
  unfold reL
  rw [hk, if_neg (by omega), Int.toNat_natCast]
  exact rd_one k t hk8
theorem re_of (x : Nat) (hx : x < 18446744073709551616) (t : List UInt8) : reV (reL x ++ t) = nm x ∧ reR (reL x ++ t) = t ∧ reW (reL x ++ t) = false := by
  rcases kd_word hx with ⟨hk, hn⟩ | ⟨hk, he⟩ | ⟨hk, he⟩ | ⟨hk, he⟩ | ⟨hk, he⟩ | hk
  · obtain ⟨s, hs, r1, r2, r3⟩ := re_small x 1 hk (by decide) (by decide) t
    rw [hs]
    unfold reV reR reW nm
    rw [hn]
    simp [r1, r2, r3]
  · have hn := nan_of_kd (x := x) (by omega)
    obtain ⟨s, hs, r1, r2, r3⟩ := re_small x 2 hk (by decide) (by decide) t
    rw [hs]
    unfold reV reR reW nm
    rw [hn]
    simp [r1, r2, r3, he]
  · have hn := nan_of_kd (x := x) (by omega)
    obtain ⟨s, hs, r1, r2, r3⟩ := re_small x 3 hk (by decide) (by decide) t
    rw [hs]
    unfold reV reR reW nm
    rw [hn]
    simp [r1, r2, r3, he]
  · have hn := nan_of_kd (x := x) (by omega)
    obtain ⟨s, hs, r1, r2, r3⟩ := re_small x 4 hk (by decide) (by decide) t
    rw [hs]
    unfold reV reR reW nm
    rw [hn]
    simp [r1, r2, r3, he]
  · have hn := nan_of_kd (x := x) (by omega)
    obtain ⟨s, hs, r1, r2, r3⟩ := re_small x 5 hk (by decide) (by decide) t
    rw [hs]
    unfold reV reR reW nm
    rw [hn]
    simp [r1, r2, r3, he]
  · have hn := nan_of_kd (x := x) (by omega)
    obtain ⟨a1, a2, a3⟩ := rd_num (x / 4294967296) 4 (numL (x % 4294967296) 4 ++ t) (by omega)
    obtain ⟨b1, b2, b3⟩ := rd_num (x % 4294967296) 4 t (by omega)
    have e : x / 4294967296 * 4294967296 + x % 4294967296 = x := by omega
    obtain ⟨s, hs, r1, r2, r3⟩ : ∃ s, reL x ++ t = s ∧ rdV s 1 = 6 ∧ rdR s 1 = numL (x / 4294967296) 4 ++ (numL (x % 4294967296) 4 ++ t) ∧ rdW s 1 = false := by
      refine ⟨_, rfl, ?_⟩
      unfold reL
      rw [hk, if_pos rfl, List.cons_append, List.append_assoc]
      exact rd_one 6 _ (by decide)
    have hp : plX s = x := by
      unfold plX
      rw [r2, a1, a2, b1, e]
    rw [hs]
    unfold reV reR reW nm
    rw [hn, hp, r1, r2, r3, a2, a3, b2, b3]
    simp [hk]
theorem re_back (s : List UInt8) (h : reW s = false) : s = reL (reV s) ++ reR s ∧ reV s < 18446744073709551616 ∧ nm (reV s) = reV s := by
  unfold reW at h
  rw [Bool.or_eq_false_iff] at h
  obtain ⟨h1, h2⟩ := h
  obtain ⟨e1, l1⟩ := rd_back1 s h1
  unfold reV reR
  generalize hk : rdV s 1 = k at *
  generalize hr : rdR s 1 = r at *
  by_cases k6 : k = 6
  · subst k6
    rw [if_pos rfl] at h2 ⊢
    simp only [Bool.or_eq_false_iff, Bool.not_eq_eq_eq_not, Bool.not_false, decide_eq_true_eq] at h2
    obtain ⟨⟨w1, w2⟩, kx⟩ := h2
    obtain ⟨f1, v1⟩ := rd_back r 4 w1
    obtain ⟨f2, v2⟩ := rd_back (rdR r 4) 4 w2
    have hp : plX s = rdV r 4 * 4294967296 + rdV (rdR r 4) 4 := by unfold plX; rw [hr]
    rw [kx, if_neg (by decide), if_neg (by decide), if_neg (by decide), if_neg (by decide), if_neg (by decide), if_pos rfl, if_pos rfl]
    refine ⟨?_, by rw [hp]; omega, by unfold nm; rw [nan_of_kd (by omega)]; rfl⟩
    unfold reL
    rw [kx, if_pos rfl, hp, show (rdV r 4 * 4294967296 + rdV (rdR r 4) 4) / 4294967296 = rdV r 4 by omega, show (rdV r 4 * 4294967296 + rdV (rdR r 4) 4) % 4294967296 = rdV (rdR r 4) 4 by omega]
    rw [List.cons_append, List.append_assoc, ← f2, ← f1]
    exact e1
  · rw [if_neg k6] at h2 ⊢
    simp only [Bool.not_eq_eq_eq_not, Bool.not_false, decide_eq_true_eq] at h2
    rcases (show k = 1 ∨ k = 2 ∨ k = 3 ∨ k = 4 ∨ k = 5 by omega) with c | c | c | c | c
    all_goals subst c
    · exact ⟨e1, by decide, by decide +kernel⟩
    · exact ⟨e1, by decide, by decide +kernel⟩
    · exact ⟨e1, by decide, by decide +kernel⟩
    · exact ⟨e1, by decide, by decide +kernel⟩
    · exact ⟨e1, by decide, by decide +kernel⟩
end Go.Proofs.Yteeiebopfjlffaa
