/- The part of a word: contract of term. -/
import Derived.Test.YtaccamlplikkfaaGreatDoorAsking
namespace Go.Proofs.YtaccamlplikkfaaGreatDoor
open Go.RowKit Go.Deep
set_option linter.unusedVariables false
set_option linter.unusedSimpArgs false
set_option maxRecDepth 100000
attribute [local go_sem] cell_set_ite Near.cell Near.frozen
attribute [-go_sem] run_string_add_if

theorem cpS_yes {p t : ByteArray} (h : p.data.toList.isPrefixOf t.data.toList = true) : (cpS p t).data.toList = t.data.toList.drop p.data.toList.length := by
  unfold cpS
  rw [if_pos h]
  rw [ByteArray.data_extract, Array.toList_extract]
  show (t.data.toList.drop p.size).take (t.size - p.size) = _
  rw [List.take_of_length_le (by rw [List.length_drop]; exact Nat.le_refl _)]
  rfl
theorem cpS_size (p t : ByteArray) : (cpS p t).size ≤ t.size := by
  unfold cpS
  split
  · rw [ByteArray.size_extract]; omega
  · exact Nat.le_refl _
theorem cutL_len (l sep : List UInt8) : (Lib.cut l sep).1.length ≤ l.length ∧ (Lib.cut l sep).2.1.length ≤ l.length := by
  unfold Lib.cut
  split
  · simp; omega
  · simp
set_option maxHeartbeats 8000000 in
theorem fo_term (s : ByteArray) (hs : s.size ≤ 1000) (w : World) (g : Gl w) (E : Ge w) : Calls Tryz.prog 26 #[.string s] w fun e w' => e = .returned (tmP s.data.toList).val ∧ Below w.heap.size w w' := by
  have HC := Lib.hid (fun (t : ByteArray) (ht : t.size ≤ 1000) w' (hb : Below w.heap.size w w') => fo_count t ht w' (E.below hb))
  have HA := Lib.hid (fun (t : ByteArray) w' (hb : Below w.heap.size w w') => fo_asking t w' (g.below hb))
  have HX := Lib.hid (fun (t sep : ByteArray) (ht : t.size ≤ 1000) w' (hb : Below w.heap.size w w') => fo_cut t sep ht w' (E.below hb))
  have sl : s.toList = s.data.toList := ByteArray.toList_eq s
  have A0 := below_alloc_on (Below.refl w.heap.size w) (.cells #[.int .i64 0, .int .i64 0, .int .i64 0] 35)
  have X := box_new w #[.int .i64 0, .int .i64 0, .int .i64 0] 35
  obtain ⟨l, hl⟩ : ∃ l, s.data.toList = l := ⟨_, rfl⟩
  have HL := Lib.hid hl
  have HS := Lib.hid hs
  rw [hl] at sl
  rw [hl]
  clear g E hl hs
  unfold tmP
  by_cases e0 : l = wTrue
  · have q0 : (s.toList == [116, 114, 117, 101]) = true := by rw [sl, e0]; rfl
    rw [if_pos e0]
    show Calls _ _ _ _ (fun e w' => e = .returned (.agg #[.int .i64 1, .int .i64 0, .int .i64 0]) ∧ _)
    clear e0 sl HC HA HX
    go_enter Tryz.func26, Tryz.ntmps26
    go_wp2_with (fail)
    all_goals exact bodyPost_ret (v := .agg #[.int .i64 1, .int .i64 0, .int .i64 0]) (by simp [results, Tryz.results26, go_sem]) rfl ⟨rfl, by (repeat (first | (with_reducible exact Below.refl _ _) | (with_reducible assumption) | (with_reducible refine Near.up _ ?_) | (with_reducible refine Below.drew ?_) | (with_reducible refine below_alloc_on ?_ _) | (with_reducible refine below_set_on ?_ (by first | (simp; done) | (simp; omega) | omega) _)))⟩
  rw [if_neg e0]
  have q0 : (s.toList == [116, 114, 117, 101]) = false := by rw [sl, beq_eq_false_iff_ne]; exact e0
  clear e0
  by_cases e1 : l = wNot
  · have q1 : (s.toList == [110, 111, 116]) = true := by rw [sl, e1]; rfl
    rw [if_pos e1]
    show Calls _ _ _ _ (fun e w' => e = .returned (.agg #[.int .i64 3, .int .i64 0, .int .i64 0]) ∧ _)
    clear e1 sl HC HA HX
    go_enter Tryz.func26, Tryz.ntmps26
    go_wp2_with (fail)
    all_goals exact bodyPost_ret (v := .agg #[.int .i64 3, .int .i64 0, .int .i64 0]) (by simp [results, Tryz.results26, go_sem]) rfl ⟨rfl, by (repeat (first | (with_reducible exact Below.refl _ _) | (with_reducible assumption) | (with_reducible refine Near.up _ ?_) | (with_reducible refine Below.drew ?_) | (with_reducible refine below_alloc_on ?_ _) | (with_reducible refine below_set_on ?_ (by first | (simp; done) | (simp; omega) | omega) _)))⟩
  rw [if_neg e1]
  have q1 : (s.toList == [110, 111, 116]) = false := by rw [sl, beq_eq_false_iff_ne]; exact e1
  clear e1
  by_cases e2 : l = wAnd
  · have q2 : (s.toList == [97, 110, 100]) = true := by rw [sl, e2]; rfl
    rw [if_pos e2]
    show Calls _ _ _ _ (fun e w' => e = .returned (.agg #[.int .i64 4, .int .i64 0, .int .i64 0]) ∧ _)
    clear e2 sl HC HA HX
    go_enter Tryz.func26, Tryz.ntmps26
    go_wp2_with (fail)
    all_goals exact bodyPost_ret (v := .agg #[.int .i64 4, .int .i64 0, .int .i64 0]) (by simp [results, Tryz.results26, go_sem]) rfl ⟨rfl, by (repeat (first | (with_reducible exact Below.refl _ _) | (with_reducible assumption) | (with_reducible refine Near.up _ ?_) | (with_reducible refine Below.drew ?_) | (with_reducible refine below_alloc_on ?_ _) | (with_reducible refine below_set_on ?_ (by first | (simp; done) | (simp; omega) | omega) _)))⟩
  rw [if_neg e2]
  have q2 : (s.toList == [97, 110, 100]) = false := by rw [sl, beq_eq_false_iff_ne]; exact e2
  clear e2
  by_cases e3 : l = wOr
  · have q3 : (s.toList == [111, 114]) = true := by rw [sl, e3]; rfl
    rw [if_pos e3]
    show Calls _ _ _ _ (fun e w' => e = .returned (.agg #[.int .i64 5, .int .i64 0, .int .i64 0]) ∧ _)
    clear e3 sl HC HA HX
    go_enter Tryz.func26, Tryz.ntmps26
    go_wp2_with (fail)
    all_goals exact bodyPost_ret (v := .agg #[.int .i64 5, .int .i64 0, .int .i64 0]) (by simp [results, Tryz.results26, go_sem]) rfl ⟨rfl, by (repeat (first | (with_reducible exact Below.refl _ _) | (with_reducible assumption) | (with_reducible refine Near.up _ ?_) | (with_reducible refine Below.drew ?_) | (with_reducible refine below_alloc_on ?_ _) | (with_reducible refine below_set_on ?_ (by first | (simp; done) | (simp; omega) | omega) _)))⟩
  rw [if_neg e3]
  have q3 : (s.toList == [111, 114]) = false := by rw [sl, beq_eq_false_iff_ne]; exact e3
  clear e3
  by_cases e4 : l = wSince
  · have q4 : (s.toList == [115, 105, 110, 99, 101]) = true := by rw [sl, e4]; rfl
    rw [if_pos e4]
    show Calls _ _ _ _ (fun e w' => e = .returned (.agg #[.int .i64 8, .int .i64 0, .int .i64 0]) ∧ _)
    clear e4 sl HC HA HX
    go_enter Tryz.func26, Tryz.ntmps26
    go_wp2_with (fail)
    all_goals exact bodyPost_ret (v := .agg #[.int .i64 8, .int .i64 0, .int .i64 0]) (by simp [results, Tryz.results26, go_sem]) rfl ⟨rfl, by (repeat (first | (with_reducible exact Below.refl _ _) | (with_reducible assumption) | (with_reducible refine Near.up _ ?_) | (with_reducible refine Below.drew ?_) | (with_reducible refine below_alloc_on ?_ _) | (with_reducible refine below_set_on ?_ (by first | (simp; done) | (simp; omega) | omega) _)))⟩
  rw [if_neg e4]
  have q4 : (s.toList == [115, 105, 110, 99, 101]) = false := by rw [sl, beq_eq_false_iff_ne]; exact e4
  clear e4
  have P0 := Lib.hid (fun w' => fo_cutp ⟨#[111, 110, 99, 101, 58]⟩ s (by have := HS.out; omega) w')
  rw [show (⟨#[111, 110, 99, 101, 58]⟩ : ByteArray).data.toList = wOnce from rfl, HL.out] at P0
  cases p0 : wOnce.isPrefixOf l
  case true =>
    rw [show cutP wOnce l = some (l.drop wOnce.length) from if_pos p0]
    have hd : (cpS ⟨#[111, 110, 99, 101, 58]⟩ s).data.toList = l.drop wOnce.length := by
      rw [cpS_yes (by rw [HL.out]; exact p0), HL.out]
      rfl
    obtain ⟨x, hx⟩ : ∃ x, cntF (l.drop wOnce.length) = x := ⟨_, rfl⟩
    have HC2 := Lib.hid (show ∀ w', Below w.heap.size w w' → Calls Tryz.prog 35 #[.string (cpS ⟨#[111, 110, 99, 101, 58]⟩ s)] w' fun e w'' => e = .returned (.int .i64 x) ∧ Below w'.heap.size w' w'' from fun w' hb => by
      have := HC.out (cpS ⟨#[111, 110, 99, 101, 58]⟩ s) (by have := HS.out; have := cpS_size ⟨#[111, 110, 99, 101, 58]⟩ s; omega) w' hb
      rw [hd, hx] at this
      exact this)
    rw [p0] at P0
    show Calls _ _ _ _ (fun e w' => e = .returned (.agg #[.int .i64 6, .int .i64 (cntF (l.drop wOnce.length)), .int .i64 0]) ∧ _)
    rw [hx]
    generalize cpS ⟨#[111, 110, 99, 101, 58]⟩ s = d at *
    clear hd hx p0 sl HA HX HC
    go_enter Tryz.func26, Tryz.ntmps26
    go_wp2_with (fail)
    refine (P0.out _).mono ?_
    rintro e w' ⟨rfl, rfl⟩
    go_wp2_with (fail)
    refine (HC2.out _ A0).mono ?_
    rintro e w1 ⟨rfl, hb⟩
    have A1 := below_call A0 hb
    have X1 := X.below hb
    obtain ⟨b0, b1, b2, bf, bl⟩ := X1.three
    clear HC2 hb X1 X A0
    go_wp2_with (fail)
    all_goals exact bodyPost_ret (v := .agg #[.int .i64 6, .int .i64 x, .int .i64 0]) (by simp [results, Tryz.results26, go_sem, b0, b1, b2]) rfl ⟨rfl, by (repeat (first | (with_reducible exact Below.refl _ _) | (with_reducible assumption) | (with_reducible refine Near.up _ ?_) | (with_reducible refine Below.drew ?_) | (with_reducible refine below_alloc_on ?_ _) | (with_reducible refine below_set_on ?_ (by first | (simp; done) | (simp; omega) | omega) _)))⟩
  rw [show cutP wOnce l = none from if_neg (by rw [p0]; simp)]
  rw [p0] at P0
  generalize cpS ⟨#[111, 110, 99, 101, 58]⟩ s = d0 at P0
  clear p0
  have P1 := Lib.hid (fun w' => fo_cutp ⟨#[97, 108, 119, 97, 121, 115, 58]⟩ s (by have := HS.out; omega) w')
  rw [show (⟨#[97, 108, 119, 97, 121, 115, 58]⟩ : ByteArray).data.toList = wAlways from rfl, HL.out] at P1
  cases p1 : wAlways.isPrefixOf l
  case true =>
    rw [show cutP wAlways l = some (l.drop wAlways.length) from if_pos p1]
    have hd : (cpS ⟨#[97, 108, 119, 97, 121, 115, 58]⟩ s).data.toList = l.drop wAlways.length := by
      rw [cpS_yes (by rw [HL.out]; exact p1), HL.out]
      rfl
    obtain ⟨x, hx⟩ : ∃ x, cntF (l.drop wAlways.length) = x := ⟨_, rfl⟩
    have HC2 := Lib.hid (show ∀ w', Below w.heap.size w w' → Calls Tryz.prog 35 #[.string (cpS ⟨#[97, 108, 119, 97, 121, 115, 58]⟩ s)] w' fun e w'' => e = .returned (.int .i64 x) ∧ Below w'.heap.size w' w'' from fun w' hb => by
      have := HC.out (cpS ⟨#[97, 108, 119, 97, 121, 115, 58]⟩ s) (by have := HS.out; have := cpS_size ⟨#[97, 108, 119, 97, 121, 115, 58]⟩ s; omega) w' hb
      rw [hd, hx] at this
      exact this)
    rw [p1] at P1
    show Calls _ _ _ _ (fun e w' => e = .returned (.agg #[.int .i64 7, .int .i64 (cntF (l.drop wAlways.length)), .int .i64 0]) ∧ _)
    rw [hx]
    generalize cpS ⟨#[97, 108, 119, 97, 121, 115, 58]⟩ s = d at *
    clear hd hx p1 sl HA HX HC
    go_enter Tryz.func26, Tryz.ntmps26
    go_wp2_with (fail)
    refine (P0.out _).mono ?_
    rintro e w' ⟨rfl, rfl⟩
    go_wp2_with (fail)
    refine (P1.out _).mono ?_
    rintro e w' ⟨rfl, rfl⟩
    go_wp2_with (fail)
    refine (HC2.out _ A0).mono ?_
    rintro e w1 ⟨rfl, hb⟩
    have A1 := below_call A0 hb
    have X1 := X.below hb
    obtain ⟨b0, b1, b2, bf, bl⟩ := X1.three
    clear HC2 hb X1 X A0
    go_wp2_with (fail)
    all_goals exact bodyPost_ret (v := .agg #[.int .i64 7, .int .i64 x, .int .i64 0]) (by simp [results, Tryz.results26, go_sem, b0, b1, b2]) rfl ⟨rfl, by (repeat (first | (with_reducible exact Below.refl _ _) | (with_reducible assumption) | (with_reducible refine Near.up _ ?_) | (with_reducible refine Below.drew ?_) | (with_reducible refine below_alloc_on ?_ _) | (with_reducible refine below_set_on ?_ (by first | (simp; done) | (simp; omega) | omega) _)))⟩
  rw [show cutP wAlways l = none from if_neg (by rw [p1]; simp)]
  rw [p1] at P1
  generalize cpS ⟨#[97, 108, 119, 97, 121, 115, 58]⟩ s = d1 at P1
  clear p1
  have P2 := Lib.hid (fun w' => fo_cutp ⟨#[104, 97, 122, 97, 114, 100, 58]⟩ s (by have := HS.out; omega) w')
  rw [show (⟨#[104, 97, 122, 97, 114, 100, 58]⟩ : ByteArray).data.toList = wHazard from rfl, HL.out] at P2
  cases p2 : wHazard.isPrefixOf l
  case true =>
    rw [show cutP wHazard l = some (l.drop wHazard.length) from if_pos p2]
    have hd : (cpS ⟨#[104, 97, 122, 97, 114, 100, 58]⟩ s).data.toList = l.drop wHazard.length := by
      rw [cpS_yes (by rw [HL.out]; exact p2), HL.out]
      rfl
    obtain ⟨x, hx⟩ : ∃ x, cntF (l.drop wHazard.length) = x := ⟨_, rfl⟩
    have HC2 := Lib.hid (show ∀ w', Below w.heap.size w w' → Calls Tryz.prog 35 #[.string (cpS ⟨#[104, 97, 122, 97, 114, 100, 58]⟩ s)] w' fun e w'' => e = .returned (.int .i64 x) ∧ Below w'.heap.size w' w'' from fun w' hb => by
      have := HC.out (cpS ⟨#[104, 97, 122, 97, 114, 100, 58]⟩ s) (by have := HS.out; have := cpS_size ⟨#[104, 97, 122, 97, 114, 100, 58]⟩ s; omega) w' hb
      rw [hd, hx] at this
      exact this)
    rw [p2] at P2
    show Calls _ _ _ _ (fun e w' => e = .returned (.agg #[.int .i64 2, .int .i64 11, .int .i64 (cntF (l.drop wHazard.length))]) ∧ _)
    rw [hx]
    generalize cpS ⟨#[104, 97, 122, 97, 114, 100, 58]⟩ s = d at *
    clear hd hx p2 sl HA HX HC
    go_enter Tryz.func26, Tryz.ntmps26
    go_wp2_with (fail)
    refine (P0.out _).mono ?_
    rintro e w' ⟨rfl, rfl⟩
    go_wp2_with (fail)
    refine (P1.out _).mono ?_
    rintro e w' ⟨rfl, rfl⟩
    go_wp2_with (fail)
    refine (P2.out _).mono ?_
    rintro e w' ⟨rfl, rfl⟩
    go_wp2_with (fail)
    refine (HC2.out _ A0).mono ?_
    rintro e w1 ⟨rfl, hb⟩
    have A1 := below_call A0 hb
    have X1 := X.below hb
    obtain ⟨b0, b1, b2, bf, bl⟩ := X1.three
    clear HC2 hb X1 X A0
    go_wp2_with (fail)
    all_goals exact bodyPost_ret (v := .agg #[.int .i64 2, .int .i64 11, .int .i64 x]) (by simp [results, Tryz.results26, go_sem, b0, b1, b2]) rfl ⟨rfl, by (repeat (first | (with_reducible exact Below.refl _ _) | (with_reducible assumption) | (with_reducible refine Near.up _ ?_) | (with_reducible refine Below.drew ?_) | (with_reducible refine below_alloc_on ?_ _) | (with_reducible refine below_set_on ?_ (by first | (simp; done) | (simp; omega) | omega) _)))⟩
  rw [show cutP wHazard l = none from if_neg (by rw [p2]; simp)]
  rw [p2] at P2
  generalize cpS ⟨#[104, 97, 122, 97, 114, 100, 58]⟩ s = d2 at P2
  clear p2
  have h0 : Calls Tryz.prog 36 #[.string s, .string ⟨#[62, 61]⟩] (w.alloc (.cells #[.int .i64 0, .int .i64 0, .int .i64 0] 35)) fun e w' => e = .returned (.tuple #[.string ⟨(Lib.cut l wLeast).1.toArray⟩, .string ⟨(Lib.cut l wLeast).2.1.toArray⟩, .bool (Lib.cut l wLeast).2.2]) ∧ Below (w.alloc (.cells #[.int .i64 0, .int .i64 0, .int .i64 0] 35)).heap.size (w.alloc (.cells #[.int .i64 0, .int .i64 0, .int .i64 0] 35)) w' := by
    have := HX.out s ⟨#[62, 61]⟩ HS.out _ A0
    rw [HL.out] at this
    exact this
  have ll := cutL_len l wLeast
  have sz : l.length = s.size := by rw [← HL.out]; rfl
  have s2 := HS.out
  show Calls _ _ _ _ (fun e w' => e = .returned (.agg #[.int .i64 2, .int .i64 (askF (Lib.cut l wLeast).1), .int .i64 (cntF (Lib.cut l wLeast).2.1)]) ∧ _)
  generalize Lib.cut l wLeast = cc at *
  obtain ⟨cn, cd, cb⟩ := cc
  have hd : (⟨cd.toArray⟩ : ByteArray).size ≤ 1000 := by
    show cd.toArray.size ≤ 1000
    rw [List.size_toArray]
    have := ll.2
    simp only at this
    omega
  have KA := Lib.hid (fun w' hb => HA.out ⟨cn.toArray⟩ w' hb)
  have KC := Lib.hid (fun w' hb => HC.out ⟨cd.toArray⟩ hd w' hb)
  have K0 := Lib.hid h0
  clear h0 ll sz s2 hd sl HA HC HX
  go_enter Tryz.func26, Tryz.ntmps26
  go_wp2_with (fail)
  refine (P0.out _).mono ?_
  rintro e w' ⟨rfl, rfl⟩
  go_wp2_with (fail)
  refine (P1.out _).mono ?_
  rintro e w' ⟨rfl, rfl⟩
  go_wp2_with (fail)
  refine (P2.out _).mono ?_
  rintro e w' ⟨rfl, rfl⟩
  go_wp2_with (fail)
  refine K0.out.mono ?_
  rintro e w1 ⟨rfl, hb⟩
  have A1 := below_call A0 hb
  have X1 := X.below hb
  clear hb A0 X K0
  go_wp2_with (fail)
  refine (KA.out _ A1).mono ?_
  rintro e w2 ⟨rfl, rfl⟩
  go_wp2_with (fail)
  refine (KC.out _ A1).mono ?_
  rintro e w3 ⟨rfl, hb⟩
  have A3 := below_call A1 hb
  have X3 := X1.below hb
  obtain ⟨b0, b1, b2, bf, bl⟩ := X3.three
  clear hb A1 X1 X3 KA KC
  go_wp2_with (fail)
  all_goals exact bodyPost_ret (v := .agg #[.int .i64 2, .int .i64 (askF cn), .int .i64 (cntF cd)]) (by simp [results, Tryz.results26, go_sem, b0, b1, b2]) rfl ⟨rfl, by (repeat (first | (with_reducible exact Below.refl _ _) | (with_reducible assumption) | (with_reducible refine Near.up _ ?_) | (with_reducible refine Below.drew ?_) | (with_reducible refine below_alloc_on ?_ _) | (with_reducible refine below_set_on ?_ (by first | (simp; done) | (simp; omega) | omega) _)))⟩
end Go.Proofs.YtaccamlplikkfaaGreatDoor
