/- Contracts of the document's hours. -/
import Derived.Test.YtmidgdmgekbmcaaDoorHr
import Derived.LoopTactic
import Derived.Deep.LoopGhost
import Derived.WalkLawsBesides
namespace Go.Proofs.YtmidgdmgekbmcaaDoor
open Go.RowKit Go.Deep
set_option linter.unusedVariables false
set_option linter.unusedSimpArgs false
set_option maxRecDepth 100000
attribute [local go_sem] cell_set_ite Near.cell Near.frozen
attribute [-go_sem] run_string_add_if

theorem conv_one (w : World) (d : Nat) (hd : d < 10) (T : TypeId) : (convert 37 9 (.slice (some ⟨w.heap.size, 0, none⟩) 1 1)).run Tryd.prog (w.alloc (.cells #[.int .u8 (48 + (d : Int))] T)) = .ok (.string (bS [UInt8.ofNat (48 + d)])) (w.alloc (.cells #[.int .u8 (48 + (d : Int))] T)) := by
  have h := run_convert_bytes_back (P := Tryd.prog) (w.alloc (.cells #[.int .u8 (48 + (d : Int))] T)) 37 9 5 ⟨w.heap.size, 0, none⟩ 1 [UInt8.ofNat (48 + d)]
    Tryd.underlying37 Tryd.underlying5 Tryd.underlying9 (fun j hj => by
      have e : ((⟨w.heap.size, 0, none⟩ : Addr).add j) = ⟨w.heap.size, j, none⟩ := by unfold Addr.add; split <;> simp_all
      rw [e, World.cell?_alloc_at _ _ _ _ rfl]
      match j, hj with
      | 0, _ =>
        have : (UInt8.ofNat (48 + d)).toNat = 48 + d := (dig_of d hd).2
        simp only [List.getElem_cons_zero, this]
        simp)
  exact h

/-- What is left of the digits. -/
def leftL (m : Nat) : List UInt8 := if m = 0 then [] else Lib.decDigits m
theorem left_step {m : Nat} : Lib.decDigits m = leftL (m / 10) ++ [UInt8.ofNat (48 + m % 10)] := by
  by_cases h : m < 10
  · rw [Lib.decDigits_one h, leftL, if_pos (by omega), Nat.mod_eq_of_lt h]; rfl
  · rw [dec_big h, leftL, if_neg (by omega)]

set_option maxHeartbeats 2000000 in
theorem rh_digits1 (W : World) (n : Nat) (hn : n ≤ 100000000) (w : World) (h : At W w) :
    Calls Tryd.prog 15 #[.int .i64 (n : Int), .int .i64 1] w fun e w' => e = .returned (.string (bS (Lib.decDigits n))) ∧ At W w' := by
  have H := Lib.hid h
  have hl : (Lib.decDigits n).length ≤ 9 := by rw [Lib.decDigits_length]; exact nd_le 9 n (by omega) (by omega)
  clear h
  go_enter Tryd.func15, Tryd.ntmps15
  go_wp2
  go_loopg [0, 5] (2 * n + 1) (fun gk i v wr => ∃ (m : Nat) (l : List UInt8), gk = 2 * m + (if l = [] then 1 else 0) ∧ i = .int .i64 (m : Int) ∧ v = .string (bS l) ∧ m ≤ n ∧ (l = [] ∧ m = n ∨ l ≠ [] ∧ Lib.decDigits n = leftL m ++ l) ∧ At W wr)
  case atStart => exact ⟨n, [], by simp, rfl, rfl, Nat.le_refl _, .inl ⟨rfl, rfl⟩, H.out⟩
  case round =>
    obtain ⟨m, l, hgk, rfl, rfl, hm, hst, hA⟩ := hrel
    have hlen : l.length ≤ 9 := by
      rcases hst with ⟨rfl, _⟩ | ⟨_, h⟩
      · simp
      · have := congrArg List.length h
        rw [List.length_append] at this
        omega
    have hz : (bS l).size = l.length := bS_size l
    have HA := Lib.hid hA
    have HM := Lib.hid hm
    by_cases hgo : 0 < m ∨ l = []
    · obtain ⟨m', hm'⟩ : ∃ m', m / 10 = m' := ⟨_, rfl⟩
      obtain ⟨d, hd⟩ : ∃ d, m % 10 = d := ⟨_, rfl⟩
      have hd10 : d < 10 := by omega
      have e1 : (m : Int) / 10 = (m' : Int) := by omega
      have e2 : (m : Int) % 10 = (d : Int) := by omega
      have hst' : Lib.decDigits n = leftL m' ++ (UInt8.ofNat (48 + d) :: l) := by
        rcases hst with ⟨rfl, rfl⟩ | ⟨hne, he⟩
        · rw [left_step, hm', hd]
        · rw [he]
          have : 0 < m := by rcases hgo with h | h; exact h; exact absurd h hne
          rw [show leftL m = Lib.decDigits m by unfold leftL; rw [if_neg (by omega)], left_step, hm', hd]
          simp
      have HS := Lib.hid hst'
      have hb9 : m' ≤ 100000000 := by omega
      have HG := Lib.hid (show 2 * m' + 0 < gk by
        rw [hgk]
        split
        · omega
        · rename_i hne; have : 0 < m := by rcases hgo with h | h; exact h; exact absurd h hne
          omega)
      have cv := fun w T => conv_one w d hd10 T
      have ad := fun w => bS_add [UInt8.ofNat (48 + d)] l w (by simp; omega)
      have cv0 : d = 0 → ∀ (w : World) (T : TypeId), (convert 37 9 (.slice (some ⟨w.heap.size, 0, none⟩) 1 1)).run Tryd.prog (w.alloc (.cells #[.int .u8 48] T)) = .ok (.string (bS [UInt8.ofNat (48 + d)])) (w.alloc (.cells #[.int .u8 48] T)) := by
        rintro rfl; exact fun w T => conv_one w 0 (by omega) T
      generalize UInt8.ofNat (48 + d) = ch at *
      have HX := Lib.hid (show m' ≤ n by omega)
      have hw : decide (0 < (m : Int)) = true ∨ decide (0 < (m : Int)) = false ∧ l.length = 0 := by
        rcases hgo with h | rfl
        · left; simpa using h
        · by_cases h : 0 < m
          · left; simpa using h
          · right; exact ⟨by simpa using h, rfl⟩
      clear hst hst' hgo hm hA hlen hgk
      rcases hw with t1 | ⟨t1, t2⟩
      · have t0 : 0 < m := by simpa using t1
        have t2 : decide (0 < m) = true := by simpa using t1
        clear hz cv0
        go_wp2
        go_roundg (2 * m' + 0)
        case measure => exact HG.out
        case rel => exact ⟨m', ch :: l, by simp, rfl, rfl, HX.out, .inr ⟨by simp, HS.out⟩, HA.out.below ((Below.refl _ _).alloc (Nat.le_refl _) _)⟩
      · rw [t2] at hz
        have m0 : m = 0 := by simpa using t1
        have d0 : d = 0 := by omega
        have cv1 := cv0 d0
        clear t2 t1 cv0 e1 e2 cv d0
        subst m0
        have e3 : m' = 0 := by omega
        subst e3
        clear hm' hd
        go_wp2
        go_roundg 0
        case measure => exact HG.out
        case rel => exact ⟨0, ch :: l, by simp, rfl, rfl, HX.out, .inr ⟨by simp, HS.out⟩, HA.out.below ((Below.refl _ _).alloc (Nat.le_refl _) _)⟩
    · have h0 : m = 0 := by omega
      have h1 : l ≠ [] := fun h => hgo (.inr h)
      have hfin : Lib.decDigits n = l := by
        rcases hst with ⟨h, _⟩ | ⟨_, h⟩
        · exact absurd h h1
        · rw [h, h0]; rfl
      have h2 : 1 ≤ l.length := by cases l; exact absurd rfl h1; simp
      have HF := Lib.hid hfin
      clear hgo hst hm HM hA hfin hgk
      subst h0
      have hz2 : decide ((bS l).size < 1) = false := by rw [hz]; simpa using h1
      have hz3 : decide (((bS l).size : Int) < 1) = false := by rw [hz]; simp; omega
      clear hz h1 h2
      go_wp2
      go_ret
      exact ⟨by rw [HF.out]; rfl, HA.out⟩

set_option maxHeartbeats 2000000 in
theorem rh_digits2 (W : World) (n : Nat) (hn : n < 100) (w : World) (h : At W w) :
    Calls Tryd.prog 15 #[.int .i64 (n : Int), .int .i64 2] w fun e w' => e = .returned (.string (bS (two n))) ∧ At W w' := by
  have H := Lib.hid h
  obtain ⟨a, ha⟩ : ∃ a, n / 10 = a := ⟨_, rfl⟩
  obtain ⟨b, hb⟩ : ∃ b, n % 10 = b := ⟨_, rfl⟩
  have ha10 : a < 10 := by omega
  have hb10 : b < 10 := by omega
  have HT := Lib.hid (two_is hn)
  rw [ha, hb] at HT
  have e1 : (n : Int) / 10 = (a : Int) := by omega
  have e2 : (n : Int) % 10 = (b : Int) := by omega
  have ca := fun w T => conv_one w a ha10 T
  have cb := fun w T => conv_one w b hb10 T
  have za := Lib.hid (fun w => conv_one w 0 (by omega) 5)
  have z0 : a = 0 → ∀ (w : World) (T : TypeId), (convert 37 9 (.slice (some ⟨w.heap.size, 0, none⟩) 1 1)).run Tryd.prog (w.alloc (.cells #[.int .u8 48] T)) = .ok (.string (bS [UInt8.ofNat (48 + a)])) (w.alloc (.cells #[.int .u8 48] T)) := by
    rintro rfl; exact fun w T => conv_one w 0 (by omega) T
  have y0 : b = 0 → ∀ (w : World) (T : TypeId), (convert 37 9 (.slice (some ⟨w.heap.size, 0, none⟩) 1 1)).run Tryd.prog (w.alloc (.cells #[.int .u8 48] T)) = .ok (.string (bS [UInt8.ofNat (48 + b)])) (w.alloc (.cells #[.int .u8 48] T)) := by
    rintro rfl; exact fun w T => conv_one w 0 (by omega) T
  generalize UInt8.ofNat (48 + a) = ca' at *
  generalize UInt8.ofNat (48 + b) = cb' at *
  have s0 : (bS []).size = 0 := rfl
  have s1 : ∀ c, (bS [c]).size = 1 := fun c => rfl
  have s2 : ∀ c d, (bS [c, d]).size = 2 := fun c d => rfl
  have d1 := fun w => bS_add [cb'] [] w (by simp)
  have d2 := fun w => bS_add [ca'] [cb'] w (by simp)
  simp only [List.append_nil, List.singleton_append] at d1 d2
  clear h
  rw [show Value.string (bS (two n)) = Value.string (bS [ca', cb']) by rw [HT.out]]
  go_enter Tryd.func15, Tryd.ntmps15
  go_wp2
  go_loopg [0, 5] 2 (fun gk i v wr => ∃ j m : Nat, gk = 2 - j ∧ i = .int .i64 (m : Int) ∧ (j = 0 ∧ m = n ∧ v = .string (bS []) ∨ j = 1 ∧ m = a ∧ v = .string (bS [cb']) ∨ j = 2 ∧ m = 0 ∧ v = .string (bS [ca', cb'])) ∧ At W wr)
  case atStart => exact ⟨0, n, by simp, rfl, .inl ⟨rfl, rfl, rfl⟩, H.out⟩
  case round =>
    obtain ⟨j, m, rfl, rfl, hst, hA⟩ := hrel
    have HA := Lib.hid hA
    clear hA
    rcases hst with ⟨rfl, rfl, rfl⟩ | ⟨rfl, rfl, rfl⟩ | ⟨rfl, rfl, rfl⟩
    · clear ca z0 d2 s1 s2
      have K2 := Lib.hid e1
      by_cases h0 : 0 < m
      · have t2 : decide (0 < m) = true := by simpa using h0
        clear s0 y0
        go_wp2
        go_roundg 1
        case measure => omega
        case rel => exact ⟨1, a, rfl, rfl, .inr (.inl ⟨rfl, rfl, rfl⟩), HA.out.below ((Below.refl _ _).alloc (Nat.le_refl _) _)⟩
      · have hm : m = 0 := by omega
        have b0 : b = 0 := by omega
        have a0 : a = 0 := by omega
        have y1 := y0 b0
        subst hm a0
        clear y0 e1 e2 cb K2
        go_wp2
        go_roundg 1
        case measure => omega
        case rel => exact ⟨1, 0, rfl, rfl, .inr (.inl ⟨rfl, rfl, rfl⟩), HA.out.below ((Below.refl _ _).alloc (Nat.le_refl _) _)⟩
    · have e3 : (m : Int) / 10 = 0 := by omega
      have e4 : (m : Int) % 10 = (m : Int) := by omega
      clear e1 e2 cb y0 d1 s0 s2
      have s3 := s1 cb'
      clear s1
      by_cases h0 : 0 < m
      · have t2 : decide (0 < m) = true := by simpa using h0
        clear s3 z0
        go_wp2
        go_roundg 0
        case measure => omega
        case rel => exact ⟨2, 0, rfl, rfl, .inr (.inr ⟨rfl, rfl, rfl⟩), HA.out.below ((Below.refl _ _).alloc (Nat.le_refl _) _)⟩
      · have hm : m = 0 := by omega
        have z1 := z0 hm
        subst hm
        clear z0 e3 e4 ca
        go_wp2
        go_roundg 0
        case measure => omega
        case rel => exact ⟨2, 0, rfl, rfl, .inr (.inr ⟨rfl, rfl, rfl⟩), HA.out.below ((Below.refl _ _).alloc (Nat.le_refl _) _)⟩
    · have s3 := s2 ca' cb'
      clear e1 e2 ca cb z0 y0 d1 d2 s0 s1 s2
      go_wp2
      go_ret
      exact ⟨rfl, HA.out⟩
end Go.Proofs.YtmidgdmgekbmcaaDoor
