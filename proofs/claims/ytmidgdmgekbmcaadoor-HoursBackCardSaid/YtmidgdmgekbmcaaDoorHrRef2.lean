/- Contracts of the document's hours: the text, a number, and the tick of a text. -/
import Derived.Test.YtmidgdmgekbmcaaDoorHrRef
namespace Go.Proofs.YtmidgdmgekbmcaaDoor
open Go.RowKit Go.Deep
set_option linter.unusedVariables false
set_option linter.unusedSimpArgs false
set_option maxRecDepth 100000
attribute [local go_sem] cell_set_ite Near.cell Near.frozen
attribute [-go_sem] run_string_add_if

set_option maxHeartbeats 2000000 in
theorem rh_text (W : World) (t : Int) (w : World) (h : At W w) :
    Calls Tryd.prog 9 #[.int .i64 t] w fun e w' => e = .returned (.string (bS (txL (ckN t)))) ∧ At W w' := by
  have hk := ck_le t
  obtain ⟨k, hkk⟩ : ∃ k, ckN t = k := ⟨_, rfl⟩
  rw [hkk] at hk ⊢
  have hw3 : t < 0 ∧ (k : Int) = 0 ∨ 0 ≤ t ∧ t ≤ 1099511627776 ∧ (k : Int) = t ∨ 1099511627776 < t ∧ (k : Int) = 1099511627776 := by unfold ckN at hkk; omega
  obtain ⟨a, ha⟩ : ∃ a, k / 360000 = a := ⟨_, rfl⟩
  obtain ⟨b, hb⟩ : ∃ b, k % 360000 / 6000 = b := ⟨_, rfl⟩
  obtain ⟨c, hc⟩ : ∃ c, k % 6000 / 100 = c := ⟨_, rfl⟩
  obtain ⟨d, hd⟩ : ∃ d, k % 100 = d := ⟨_, rfl⟩
  have e1 : (k : Int) / 360000 = (a : Int) := by omega
  have e2 : (k : Int) / 6000 % 60 = (b : Int) := by omega
  have e3 : (k : Int) / 100 % 60 = (c : Int) := by omega
  have e4 : (k : Int) % 100 = (d : Int) := by omega
  have K1 := Lib.hid (fun w h => rh_digits1 W a (by omega) w h)
  have K2 := Lib.hid (fun w h => rh_digits2 W b (by omega) w h)
  have K3 := Lib.hid (fun w h => rh_digits2 W c (by omega) w h)
  have K4 := Lib.hid (fun w h => rh_digits2 W d (by omega) w h)
  unfold txL tailL
  rw [ha, hb, hc, hd]
  have l1 : (Lib.decDigits a).length ≤ 7 := by rw [Lib.decDigits_length]; exact nd_le 7 a (by omega) (by omega)
  have l2 := two_len (show b < 100 by omega)
  have l3 := two_len (show c < 100 by omega)
  have l4 := two_len (show d < 100 by omega)
  generalize Lib.decDigits a = x at *
  generalize two b = y at *
  generalize two c = z at *
  generalize two d = v at *
  have s1 := Lib.hid (fun w => bS_byte x 58 w (by omega))
  have s2 := Lib.hid (fun w => bS_add (x ++ [58]) y w (by simp; omega))
  have s3 := Lib.hid (fun w => bS_byte (x ++ [58] ++ y) 58 w (by simp; omega))
  have s4 := Lib.hid (fun w => bS_add (x ++ [58] ++ y ++ [58]) z w (by simp; omega))
  have s5 := Lib.hid (fun w => bS_byte (x ++ [58] ++ y ++ [58] ++ z) 46 w (by simp; omega))
  have s6 := Lib.hid (fun w => bS_add (x ++ [58] ++ y ++ [58] ++ z ++ [46]) v w (by simp; omega))
  have HE := Lib.hid (show x ++ [58] ++ y ++ [58] ++ z ++ [46] ++ v = x ++ 58 :: (y ++ 58 :: (z ++ 46 :: v)) by simp)
  generalize x ++ [58] ++ y ++ [58] ++ z ++ [46] ++ v = L6 at *
  generalize x ++ [58] ++ y ++ [58] ++ z ++ [46] = L5 at *
  generalize x ++ [58] ++ y ++ [58] ++ z = L4 at *
  generalize x ++ [58] ++ y ++ [58] = L3 at *
  generalize x ++ [58] ++ y = L2 at *
  generalize x ++ [58] = L1 at *
  have H := Lib.hid h
  have HW := Lib.hid hw3
  clear ha hb hc hd l1 l2 l3 l4 h hkk hw3
  go_enter Tryd.func9, Tryd.ntmps9
  go_upto_region 1 with (fail)
  go_cut [3] (fun v wx => v = .int .i64 (k : Int) ∧ w = wx)
  case first =>
    clear e1 e2 e3 e4
    rcases HW.out with ⟨h1, h2⟩ | ⟨h1, h2, h3⟩ | ⟨h1, h2⟩
    all_goals go_wp2
    all_goals go_meet
    all_goals exact ⟨by simp <;> omega, rfl⟩
  case rest =>
    obtain ⟨rfl, rfl⟩ := hcut
    go_wp2_with (fail)
    refine (K1.out _ H.out).mono ?_
    rintro e w1 ⟨rfl, h1⟩
    have H1 := Lib.hid h1
    clear h1
    have t1 := s1.out
    go_wp2_with (fail)
    refine (K2.out _ H1.out).mono ?_
    rintro e w2 ⟨rfl, h2⟩
    have H2 := Lib.hid h2
    clear h2
    have t2 := s2.out
    have t3 := s3.out
    go_wp2_with (fail)
    refine (K3.out _ H2.out).mono ?_
    rintro e w3 ⟨rfl, h3⟩
    have H3 := Lib.hid h3
    clear h3
    have t4 := s4.out
    have t5 := s5.out
    go_wp2_with (fail)
    refine (K4.out _ H3.out).mono ?_
    rintro e w4 ⟨rfl, h4⟩
    have H4 := Lib.hid h4
    clear h4
    have t6 := s6.out
    go_wp2
    go_ret
    exact ⟨by rw [← HE.out]; rfl, H4.out⟩

/-- The number of from 1 to 8 digits. -/
def rnO (l : List UInt8) : Option Nat := if 1 ≤ l.length ∧ l.length ≤ 8 then Lib.decFrom 0 l else none
def rnV (l : List UInt8) : Int := ((rnO l).getD 0 : Nat)
def rnB (l : List UInt8) : Bool := (rnO l).isSome
theorem rn_bd (l : List UInt8) : 0 ≤ rnV l ∧ rnV l ≤ 100000000 := by
  unfold rnV
  cases h : rnO l with
  | none => exact ⟨by simp, by simp⟩
  | some m =>
    unfold rnO at h
    split at h
    · rename_i h2
      have := Lib.decFrom_lt l 0 m h
      have h3 : 10 ^ l.length ≤ 10 ^ 8 := Nat.pow_le_pow_right (by omega) h2.2
      simp only [Option.getD_some]
      omega
    · cases h
theorem decFrom_none : ∀ (l : List UInt8) (k acc : Nat) (b : UInt8), l[k]? = some b → Lib.digitVal b = none → Lib.decFrom acc l = none
  | [], k, acc, b, h, _ => by simp at h
  | x :: l, 0, acc, b, h, hd => by
    simp only [List.getElem?_cons_zero, Option.some.injEq] at h
    subst h
    simp only [Lib.decFrom, hd]
  | x :: l, k + 1, acc, b, h, hd => by
    simp only [List.getElem?_cons_succ] at h
    simp only [Lib.decFrom]
    cases Lib.digitVal x with
    | none => rfl
    | some d => exact decFrom_none l k _ b h hd

set_option maxHeartbeats 2000000 in
theorem rh_number (s : ByteArray) (hs : s.size ≤ 1000) (w : World) :
    Calls Tryd.prog 12 #[.string s] w fun e w' => e = .returned (.tuple #[.int .i64 (rnV s.data.toList), .bool (rnB s.data.toList)]) ∧ w = w' := by
  have hsz : s.data.toList.length = s.size := Array.length_toList
  by_cases h1 : s.size < 1
  · have e1 : rnV s.data.toList = 0 := by unfold rnV rnO; rw [if_neg (by omega)]; rfl
    have e2 : rnB s.data.toList = false := by unfold rnB rnO; rw [if_neg (by omega)]; rfl
    rw [e1, e2]
    have t1 : decide ((s.size : Int) < 1) = true := by simp; omega
    clear e1 e2 hsz
    go_enter Tryd.func12, Tryd.ntmps12
    go_wp2
    go_ret2
    exact ⟨rfl, rfl⟩
  by_cases h8 : 8 < s.size
  · have e1 : rnV s.data.toList = 0 := by unfold rnV rnO; rw [if_neg (by omega)]; rfl
    have e2 : rnB s.data.toList = false := by unfold rnB rnO; rw [if_neg (by omega)]; rfl
    rw [e1, e2]
    have t1 : decide ((s.size : Int) < 1) = false := by simp; omega
    have t2 : decide ((8 : Int) < (s.size : Int)) = true := by simp; omega
    clear e1 e2 hsz h1
    go_enter Tryd.func12, Tryd.ntmps12
    go_wp2
    go_ret2
    exact ⟨rfl, rfl⟩
  have t1 : decide ((s.size : Int) < 1) = false := by simp; omega
  have t2 : decide ((8 : Int) < (s.size : Int)) = false := by simp; omega
  have HL := Lib.hid hsz
  have HO := Lib.hid (show rnO s.data.toList = Lib.decFrom 0 s.data.toList by unfold rnO; rw [if_pos (by omega)])
  clear hsz
  go_enter Tryd.func12, Tryd.ntmps12
  go_wp2
  clear t1 t2
  go_loopg [4, 5, 16] s.size (fun gk v j i wr => ∃ k n : Nat, gk = s.size - k ∧ k ≤ s.size ∧ i = .int .i64 (k : Int) ∧ v = .int .i64 (n : Int) ∧ Lib.decFrom 0 (s.data.toList.take k) = some n ∧ w = wr)
  case atStart => exact ⟨0, 0, by simp, by omega, rfl, rfl, rfl, rfl⟩
  case round =>
    obtain ⟨k, n, rfl, hk, rfl, rfl, hn, rfl⟩ := hrel
    have hn2 := Lib.hid hn
    have hnb : n ≤ 100000000 := by
      have := Lib.decFrom_lt _ 0 n hn
      rw [List.length_take, HL.out, Nat.min_eq_left hk] at this
      have h3 : 10 ^ k ≤ 10 ^ 8 := Nat.pow_le_pow_right (by omega) (by omega)
      omega
    clear hn
    by_cases hlt : k < s.size
    · have hg : s.data.toList[k]? = some s[k] := by
        rw [List.getElem?_eq_getElem (by rw [HL.out]; exact hlt)]; rfl
      by_cases hd : 48 ≤ s[k].toNat ∧ s[k].toNat ≤ 57
      · obtain ⟨hd1, hd2⟩ := hd
        have hv : Lib.digitVal s[k] = some (s[k].toNat - 48) := by unfold Lib.digitVal; rw [if_pos ⟨hd1, hd2⟩]
        have HS := Lib.hid (Lib.decFrom_take _ k 0 n s[k] _ hn2.out hg hv)
        clear hg hv
        have t1 : decide ((s[k].toNat : Int) < 48) = false := by simp; omega
        have t2 : decide ((57 : Int) < (s[k].toNat : Int)) = false := by simp; omega
        have HV := Lib.hid (show ((n * 10 + (s[k].toNat - 48) : Nat) : Int) = (n : Int) * 10 + ((s[k].toNat : Int) - 48) by omega)
        go_wp2
        go_roundg (s.size - (k + 1))
        case measure => omega
        case rel => exact ⟨k + 1, n * 10 + (s[k].toNat - 48), rfl, by omega, by go_num, by rw [HV.out], HS.out, rfl⟩
      · have hv : Lib.digitVal s[k] = none := by unfold Lib.digitVal; rw [if_neg hd]
        have hz := decFrom_none _ k 0 _ hg hv
        have e1 : rnV s.data.toList = 0 := by unfold rnV; rw [HO.out, hz]; rfl
        have e2 : rnB s.data.toList = false := by unfold rnB; rw [HO.out, hz]; rfl
        have HR := Lib.hid (show Value.tuple #[.int .i64 (rnV s.data.toList), .bool (rnB s.data.toList)] = Value.tuple #[.int .i64 0, .bool false] by rw [e1, e2])
        clear hg hv hz e1 e2
        rcases (by omega : s[k].toNat < 48 ∨ 48 ≤ s[k].toNat ∧ 57 < s[k].toNat) with h | ⟨h, h2⟩
        · have t1 : decide ((s[k].toNat : Int) < 48) = true := by simp; omega
          clear hd h
          go_wp2
          go_ret2
          exact ⟨by rw [HR.out]; rfl, rfl⟩
        · have t1 : decide ((s[k].toNat : Int) < 48) = false := by simp; omega
          have t2 : decide ((57 : Int) < (s[k].toNat : Int)) = true := by simp; omega
          clear hd h h2
          go_wp2
          go_ret2
          exact ⟨by rw [HR.out]; rfl, rfl⟩
    · obtain rfl : k = s.size := by omega
      have hf : s.data.toList.take s.size = s.data.toList := List.take_of_length_le (by rw [HL.out]; omega)
      have hn := hn2.out
      rw [hf] at hn
      have e1 : rnV s.data.toList = n := by unfold rnV; rw [HO.out, hn]; rfl
      have e2 : rnB s.data.toList = true := by unfold rnB; rw [HO.out, hn]; rfl
      have HR := Lib.hid (show Value.tuple #[.int .i64 (rnV s.data.toList), .bool (rnB s.data.toList)] = Value.tuple #[.int .i64 (n : Int), .bool true] by rw [e1, e2])
      clear hf hn e1 e2 hn2 hlt
      go_wp2
      go_ret2
      exact ⟨by rw [HR.out]; rfl, rfl⟩
end Go.Proofs.YtmidgdmgekbmcaaDoor
