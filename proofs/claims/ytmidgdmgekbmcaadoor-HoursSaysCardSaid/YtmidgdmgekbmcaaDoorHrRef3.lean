/- Contracts of the document's hours: the tick of a text; the law package's awake. -/
import Derived.Test.YtmidgdmgekbmcaaDoorHrRef2
namespace Go.Proofs.YtmidgdmgekbmcaaDoor
open Go.RowKit Go.Deep
set_option linter.unusedVariables false
set_option linter.unusedSimpArgs false
set_option maxRecDepth 100000
attribute [local go_sem] cell_set_ite Near.cell Near.frozen
attribute [-go_sem] run_string_add_if

theorem ext_list (l : List UInt8) (a b : Nat) : ((bS l).extract a b).data.toList = (l.drop a).take (b - a) := by
  rw [Lib.extract_data, bS_list]
theorem rn_some {l : List UInt8} {n : Nat} (h1 : 1 ≤ l.length) (h2 : l.length ≤ 8) (h : Lib.decFrom 0 l = some n) : rnV l = n ∧ rnB l = true := by
  have e : rnO l = some n := by unfold rnO; rw [if_pos ⟨h1, h2⟩, h]
  unfold rnV rnB
  rw [e]
  exact ⟨rfl, rfl⟩
theorem rn_two {n : Nat} (h : n < 100) : rnV (two n) = n ∧ rnB (two n) = true := rn_some (by rw [two_len h]; omega) (by rw [two_len h]; omega) (two_num h)
theorem rn_dec {n : Nat} (h : n < 100000000) : rnV (Lib.decDigits n) = n ∧ rnB (Lib.decDigits n) = true :=
  rn_some (by rw [Lib.decDigits_length]; exact Lib.nDigits_pos n) (by rw [Lib.decDigits_length]; exact nd_le 8 n (by omega) (by omega)) (decFrom_dec n)

/-- The bytes of a text, and its pieces. -/
theorem tx_bytes (t N : Nat) (h : t ≤ 1099511627776) (hN : Lib.nDigits (t / 360000) = N) :
    (txL t).getD N 0 = 58 ∧ (txL t).getD (N + 3) 0 = 58 ∧ (txL t).getD (N + 6) 0 = 46 ∧
    ((txL t).drop 0).take (N - 0) = Lib.decDigits (t / 360000) ∧ ((txL t).drop (N + 1)).take (N + 3 - (N + 1)) = two (t % 360000 / 6000) ∧ ((txL t).drop (N + 4)).take (N + 6 - (N + 4)) = two (t % 6000 / 100) ∧ ((txL t).drop (N + 7)).take (N + 9 - (N + 7)) = two (t % 100) := by
  have hl : (Lib.decDigits (t / 360000)).length = N := by rw [Lib.decDigits_length, hN]
  have h2 := two_is (show t % 360000 / 6000 < 100 by omega)
  have h3 := two_is (show t % 6000 / 100 < 100 by omega)
  have h4 := two_is (show t % 100 < 100 by omega)
  unfold txL tailL
  rw [h2, h3, h4]
  generalize Lib.decDigits (t / 360000) = p at *
  subst hl
  have hg : ∀ (q : List UInt8) (i : Nat), (p ++ q).getD (p.length + i) 0 = q.getD i 0 := fun q i => by
    rw [List.getD_eq_getElem?_getD, List.getD_eq_getElem?_getD, List.getElem?_append_right (by omega)]
    congr 2; omega
  have hd : ∀ (q : List UInt8) (i : Nat), (p ++ q).drop (p.length + i) = q.drop i := fun q i => by
    rw [List.drop_append, List.drop_of_length_le (by omega)]
    simp
  refine ⟨hg _ 0, hg _ 3, hg _ 6, by simp, ?_, ?_, ?_⟩
  · rw [hd _ 1, show p.length + 3 - (p.length + 1) = 2 by omega]; rfl
  · rw [hd _ 4, show p.length + 6 - (p.length + 4) = 2 by omega]; rfl
  · rw [hd _ 7, show p.length + 9 - (p.length + 7) = 2 by omega]; rfl
theorem get_bS (l : List UInt8) (k : Nat) (h : k < (bS l).size) : (bS l)[k] = l.getD k 0 := by
  have : k < l.length := by rw [bS_size] at h; exact h
  rw [List.getD_eq_getElem?_getD, List.getElem?_eq_getElem this]
  rfl

set_option maxHeartbeats 8000000 in
theorem rh_parse_yes (W : World) (t : Nat) (ht : t ≤ 1099511627776) (w : World) (h : At W w) :
    Calls Tryd.prog 7 #[.string (bS (txL t))] w fun e w' => e = .returned (.tuple #[.int .i64 (t : Int), .bool true]) ∧ At W w' := by
  obtain ⟨N, hN⟩ : ∃ N, Lib.nDigits (t / 360000) = N := ⟨_, rfl⟩
  have hN1 : 1 ≤ N := by rw [← hN]; exact Lib.nDigits_pos _
  have hN7 : N ≤ 7 := by rw [← hN]; exact nd_le 7 _ (by omega) (by omega)
  obtain ⟨g1, g2, g3, p1, p2, p3, p4⟩ := tx_bytes t N ht hN
  obtain ⟨s, es, hs, i1, i2, i3⟩ : ∃ s : ByteArray, bS (txL t) = s ∧ ∃ hs : s.size = N + 9, s[N]'(by omega) = 58 ∧ s[N + 3]'(by omega) = 58 ∧ s[N + 6]'(by omega) = 46 :=
    ⟨_, rfl, by rw [bS_size, tx_len, hN], by rw [get_bS, g1], by rw [get_bS, g2], by rw [get_bS, g3]⟩
  have q1 := rn_dec (show t / 360000 < 100000000 by omega)
  have q2 := rn_two (show t % 360000 / 6000 < 100 by omega)
  have q3 := rn_two (show t % 6000 / 100 < 100 by omega)
  have q4 := rn_two (show t % 100 < 100 by omega)
  rw [← p1, ← ext_list] at q1
  rw [← p2, ← ext_list] at q2
  rw [← p3, ← ext_list] at q3
  rw [← p4, ← ext_list] at q4
  have hsum := tx_sum t
  have heq : ((bS (txL t)).toList == (bS (txL t)).toList) = true := by rw [bS_beq]; exact beq_self_eq_true _
  have HT := Lib.hid (fun w h => rh_text W (t : Int) w h)
  rw [ck_id ht] at HT
  rw [es] at q1 q2 q3 q4 heq HT
  rw [es]
  clear es
  obtain ⟨a, ha⟩ : ∃ a, t / 360000 = a := ⟨_, rfl⟩
  obtain ⟨b, hb⟩ : ∃ b, t % 360000 / 6000 = b := ⟨_, rfl⟩
  obtain ⟨c, hc⟩ : ∃ c, t % 6000 / 100 = c := ⟨_, rfl⟩
  obtain ⟨d, hd⟩ : ∃ d, t % 100 = d := ⟨_, rfl⟩
  have ba : a ≤ 3054198 := by omega
  have bb : b < 100 := by omega
  have bc : c < 100 := by omega
  have bd : d < 100 := by omega
  rw [ha, hb, hc, hd] at hsum
  rw [ha] at q1
  rw [hb] at q2
  rw [hc] at q3
  rw [hd] at q4
  have hS : (a : Int) * 360000 + (b : Int) * 6000 + (c : Int) * 100 + (d : Int) = (t : Int) := by omega
  have K1 := Lib.hid (fun w => rh_number (s.extract 0 N) (by rw [ByteArray.size_extract]; omega) w)
  have K2 := Lib.hid (fun w => rh_number (s.extract (N + 1) (N + 3)) (by rw [ByteArray.size_extract]; omega) w)
  have K3 := Lib.hid (fun w => rh_number (s.extract (N + 4) (N + 6)) (by rw [ByteArray.size_extract]; omega) w)
  have K4 := Lib.hid (fun w => rh_number (s.extract (N + 7) (N + 9)) (by rw [ByteArray.size_extract]; omega) w)
  rw [q1.1, q1.2] at K1
  rw [q2.1, q2.2] at K2
  rw [q3.1, q3.2] at K3
  rw [q4.1, q4.2] at K4
  have H := Lib.hid h
  have htm : decide ((1099511627776 : Int) < (t : Int)) = false := by simp; omega
  clear ha hb hc hd p1 p2 p3 p4 q1 q2 q3 q4 hsum h g1 g2 g3 hN
  have s1 : (0 : Int) ≤ (N : Int) + 1 := by omega
  have s2 : (N : Int) + 1 ≤ (N : Int) + 3 := by omega
  have s3 : (N : Int) + 3 ≤ (N : Int) + 9 := by omega
  have s4 : (0 : Int) ≤ (N : Int) + 4 := by omega
  have s5 : (N : Int) + 4 ≤ (N : Int) + 6 := by omega
  have s6 : (N : Int) + 6 ≤ (N : Int) + 9 := by omega
  have s7 : (0 : Int) ≤ (N : Int) + 7 := by omega
  have s8 : (N : Int) + 7 ≤ (N : Int) + 9 := by omega
  go_enter Tryd.func7, Tryd.ntmps7
  go_wp2_with (first
    | (go_at_call 12; (first | (with_reducible refine (K1.out _).mono ?_) | (with_reducible refine (K2.out _).mono ?_) | (with_reducible refine (K3.out _).mono ?_) | (with_reducible refine (K4.out _).mono ?_)); rintro e w' ⟨rfl, rfl⟩)
    | (go_at_call 9; refine (HT.out _ H.out).mono ?_; rintro e w' ⟨rfl, hb⟩))
  go_ret2
  exact ⟨rfl, hb⟩

set_option maxHeartbeats 8000000 in
theorem rh_parse_no (W : World) (l : List UInt8) (hl : l.length ≤ 60) (hn : ∀ t, t ≤ 1099511627776 → txL t ≠ l) (w : World) (h : At W w) :
    Calls Tryd.prog 7 #[.string (bS l)] w fun e w' => e = .returned (.tuple #[.int .i64 0, .bool false]) ∧ At W w' := by
  have HN := Lib.hid (fun t : Int => show ((bS (txL (ckN t))).toList == (bS l).toList) = false by
    rw [bS_beq, beq_eq_false_iff_ne]; exact hn _ (ck_le t))
  have HT := Lib.hid (fun t w h => rh_text W t w h)
  have hsz := bS_size l
  have hs60 : (bS l).size ≤ 60 := by omega
  clear hn hsz hl
  generalize bS l = s at *
  have H := Lib.hid h
  have K : Hid (∀ (x : ByteArray) (w : World), x.size ≤ 60 → Calls Tryd.prog 12 #[.string x] w fun e w' => (∃ m b, 0 ≤ m ∧ m ≤ 100000000 ∧ e = .returned (.tuple #[.int .i64 m, .bool b])) ∧ w = w') :=
    Lib.hid (fun x w hx => (rh_number x (by omega) w).mono fun e w' ⟨he, hw⟩ => ⟨⟨_, _, (rn_bd _).1, (rn_bd _).2, he⟩, hw⟩)
  clear h
  by_cases h9 : s.size < 10
  · have t1 : decide ((s.size : Int) - 9 < 1) = true := by simp; omega
    go_enter Tryd.func7, Tryd.ntmps7
    go_wp2
    go_ret2
    exact ⟨rfl, H.out⟩
  obtain ⟨N, hN⟩ : ∃ N, s.size = N + 9 := ⟨s.size - 9, by omega⟩
  have hN1 : 1 ≤ N := by omega
  have t1 : decide ((N : Int) < 1) = false := by simp; omega
  clear h9
  have bN : N + 9 ≤ 60 := by omega
  have q0 : s.size ≤ 60 := hs60
  clear hs60
  by_cases c1 : s[N]'(by omega) = 58
  · by_cases c2 : s[N + 3]'(by omega) = 58
    · by_cases c3 : s[N + 6]'(by omega) = 46
      · have K1 := Lib.hid (fun w => K.out (s.extract 0 N) w (by rw [ByteArray.size_extract]; omega))
        have K2 := Lib.hid (fun w => K.out (s.extract (N + 1) (N + 3)) w (by rw [ByteArray.size_extract]; omega))
        have K3 := Lib.hid (fun w => K.out (s.extract (N + 4) (N + 6)) w (by rw [ByteArray.size_extract]; omega))
        have K4 := Lib.hid (fun w => K.out (s.extract (N + 7) (N + 9)) w (by rw [ByteArray.size_extract]; omega))
        clear K q0
        have s1 : (0 : Int) ≤ (N : Int) + 1 := by omega
        have s2 : (N : Int) + 1 ≤ (N : Int) + 3 := by omega
        have s3 : (N : Int) + 3 ≤ (N : Int) + 9 := by omega
        have s4 : (0 : Int) ≤ (N : Int) + 4 := by omega
        have s5 : (N : Int) + 4 ≤ (N : Int) + 6 := by omega
        have s6 : (N : Int) + 6 ≤ (N : Int) + 9 := by omega
        have s7 : (0 : Int) ≤ (N : Int) + 7 := by omega
        have s8 : (N : Int) + 7 ≤ (N : Int) + 9 := by omega
        go_enter Tryd.func7, Tryd.ntmps7
        go_wp2_with (fail)
        refine (K1.out _).mono ?_
        rintro e w1 ⟨⟨a, b1, a0, a1, rfl⟩, rfl⟩
        go_wp2_with (fail)
        refine (K2.out _).mono ?_
        rintro e w1 ⟨⟨b, b2, b0, b1', rfl⟩, rfl⟩
        go_wp2_with (fail)
        refine (K3.out _).mono ?_
        rintro e w1 ⟨⟨c, b3, c0, c1', rfl⟩, rfl⟩
        go_wp2_with (fail)
        refine (K4.out _).mono ?_
        rintro e w1 ⟨⟨d, b4, d0, d1, rfl⟩, rfl⟩
        obtain ⟨T, hT⟩ : ∃ T, a * 360000 + b * 6000 + c * 100 + d = T := ⟨_, rfl⟩
        have hx := HN.out T
        have x0 : 0 ≤ a * 360000 + b * 6000 := by omega
        have x1 : a * 360000 + b * 6000 ≤ 37000000000000 := by omega
        have x2 : a * 360000 + b * 6000 + c * 100 ≤ 38000000000000 := by omega
        have x3 : a * 360000 + b * 6000 + c * 100 + d ≤ 39000000000000 := by omega
        cases b1
        · go_wp2
          go_ret2
          exact ⟨rfl, H.out⟩
        cases b2
        · go_wp2
          go_ret2
          exact ⟨rfl, H.out⟩
        cases b3
        · go_wp2
          go_ret2
          exact ⟨rfl, H.out⟩
        cases b4
        · go_wp2
          go_ret2
          exact ⟨rfl, H.out⟩
        by_cases hM : 1099511627776 < T
        · go_wp2
          go_ret2
          exact ⟨rfl, H.out⟩
        · have t2 : decide (1099511627776 < T) = false := by simpa using hM
          go_wp2_with (go_at_call 9; refine (HT.out _ _ H.out).mono ?_; rintro e w' ⟨rfl, hb⟩)
          go_ret2
          exact ⟨rfl, hb⟩
      · have z : ((s[N + 6].toNat : Int) != 46) = true := by
          rw [bne_iff_ne]; intro h; exact c3 (UInt8.toNat_inj.1 (by simpa using (by omega : s[N + 6].toNat = 46)))
        clear c3 K
        go_enter Tryd.func7, Tryd.ntmps7
        go_wp2
        go_ret2
        exact ⟨rfl, H.out⟩
    · have z : ((s[N + 3].toNat : Int) != 58) = true := by
        rw [bne_iff_ne]; intro h; exact c2 (UInt8.toNat_inj.1 (by simpa using (by omega : s[N + 3].toNat = 58)))
      clear c2 K
      go_enter Tryd.func7, Tryd.ntmps7
      go_wp2
      go_ret2
      exact ⟨rfl, H.out⟩
  · have z : ((s[N].toNat : Int) != 58) = true := by
      rw [bne_iff_ne]; intro h; exact c1 (UInt8.toNat_inj.1 (by simpa using (by omega : s[N].toNat = 58)))
    clear c1 K
    go_enter Tryd.func7, Tryd.ntmps7
    go_wp2
    go_ret2
    exact ⟨rfl, H.out⟩
end Go.Proofs.YtmidgdmgekbmcaaDoor
