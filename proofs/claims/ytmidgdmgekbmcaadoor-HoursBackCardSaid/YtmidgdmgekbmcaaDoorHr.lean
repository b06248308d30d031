/- Contracts of package hours. -/
import Derived.Test.YtmidgdmgekbmcaaDoorItoa
import Derived.Test.YtmidgdmgekbmcaaDoorHrLay
import Derived.Test.YtmidgdmgekbmcaaDoorHrN
import Derived.Test.YtmidgdmgekbmcaaDoorWorld
import Derived.Test.YtmidgdmgekbmcaaDoorCalm
import Derived.Lib.SmallJoins
import Derived.Laws.Concat
import Derived.Lib.ItoaLen
import Derived.Lib.CutLaws
import Derived.Lib.IndexBytes
import Derived.Stop.LaidErr
import Derived.Deep.CutBlock
import Derived.Deep.DeepCutAuto
import Derived.Deep.QuietTactic
import Derived.BigQuiet
namespace Go.Proofs.YtmidgdmgekbmcaaDoor
open Go.RowKit Go.Deep
set_option linter.unusedVariables false
set_option linter.unusedSimpArgs false
set_option maxRecDepth 100000
attribute [local go_sem] cell_set_ite Near.cell Near.frozen
attribute [-go_sem] run_string_add_if

/-- A text of these bytes. -/
def bS (l : List UInt8) : ByteArray := ⟨l.toArray⟩
theorem bS_size (l : List UInt8) : (bS l).size = l.length := by show l.toArray.size = _; simp
theorem bS_list (l : List UInt8) : (bS l).data.toList = l := rfl
theorem bS_of (s : ByteArray) : bS s.data.toList = s := by cases s; rfl
theorem bS_app (a b : List UInt8) : bS a ++ bS b = bS (a ++ b) := by
  apply ByteArray.ext
  rw [ByteArray.data_append]
  simp [bS]
theorem bS_add (a b : List UInt8) (w : World) (h : a.length + b.length ≤ 1000) : (Op.stringOp .add (bS a) (bS b)).run Tryd.prog w = .ok (.string (bS (a ++ b))) w := by
  rw [← bS_app]
  exact run_string_add_sum w _ _ (by rw [bS_size, bS_size]; omega)
theorem bS_byte (a : List UInt8) (c : UInt8) (w : World) (h : a.length ≤ 900) : (Op.stringOp .add (bS a) ⟨#[c]⟩).run Tryd.prog w = .ok (.string (bS (a ++ [c]))) w := bS_add a [c] w (by simp; omega)
theorem itS_nat (n : Nat) : itS (n : Int) = bS (Lib.decDigits n) := by unfold itS bS; rw [Lib.itoa_nonneg]

/-! ### the tables -/
theorem hr_grow (w : World) (os : Array Obj) : Below w.heap.size w (Sort.grow w os) :=
  ⟨rfl, rfl, rfl, by show w.heap.size ≤ (w.heap ++ os).size; rw [Array.size_append]; omega, fun j hj => Array.getElem?_append_left hj⟩
abbrev HrTab (w : World) : Prop := Lib.TabIs Tryd.prog w "internal/strconv.uint64pow10" .u64 Lib.pow10Tab
theorem HrTab.stays {w w' : World} (h : HrTab w) (hb : Below w.heap.size w w') : HrTab w' := Joins.tab_stays (g := 3) (by kernel_rfl) h hb (Nat.le_refl _)
/-- The two errors of strconv stand where they stood. -/
def HrErr (w : World) : Prop := (∃ te pe, w.cell? ⟨1, 0, none⟩ = some (.iface te pe)) ∧ (∃ te pe, w.cell? ⟨2, 0, none⟩ = some (.iface te pe))
theorem hr_lt {w : World} {g i : Nat} {v : Value} (h : w.cell? ⟨g, i, none⟩ = some v) : g < w.heap.size := cell_lt h
theorem HrErr.stays {w w' : World} (h : HrErr w) (hb : Below w.heap.size w w') : HrErr w' := by
  obtain ⟨⟨a, b, h1⟩, c, d, h2⟩ := h
  exact ⟨⟨a, b, (hb.cell (p := ⟨_, 0, none⟩) (hr_lt h1)).trans h1⟩, c, d, (hb.cell (p := ⟨_, 0, none⟩) (hr_lt h2)).trans h2⟩

theorem hr_itoa (W : World) (T : HrTab W) (n : Int) (h0 : -9223372036854775808 ≤ n) (h1 : n ≤ 9223372036854775807) (w : World) (h : At W w) :
    Calls Tryd.prog 13 #[.int .i64 n] w fun e w' => e = .returned (.string (itS n)) ∧ At W w' :=
  (itoa_is n h0 h1 w (T.stays h)).mono fun _ _ ⟨he, k, os, hw⟩ => ⟨he, h.below (by rw [hw]; exact below_call (below_drewN (Below.refl _ _) k) (hr_grow _ os))⟩
theorem hr_dec (W : World) (T : HrTab W) (n : Nat) (hn : n ≤ 9223372036854775807) (w : World) (h : At W w) :
    Calls Tryd.prog 13 #[.int .i64 (n : Int)] w fun e w' => e = .returned (.string (bS (Lib.decDigits n))) ∧ At W w' := by
  rw [← itS_nat]; exact hr_itoa W T _ (by omega) (by omega) w h

set_option maxHeartbeats 1000000 in
theorem hr_two (W : World) (T : HrTab W) (n : Nat) (hn : n < 100) (w : World) (h : At W w) :
    Calls Tryd.prog 14 #[.int .i64 (n : Int)] w fun e w' => e = .returned (.string (bS (two n))) ∧ At W w' := by
  obtain ⟨a, ha⟩ : ∃ a, n / 10 = a := ⟨_, rfl⟩
  obtain ⟨b, hb⟩ : ∃ b, n % 10 = b := ⟨_, rfl⟩
  have e1 : (n : Int) / 10 = (a : Int) := by omega
  have e2 : (n : Int) % 10 = (b : Int) := by omega
  have K1 := Lib.hid (fun w h => hr_dec W T a (by omega) w h)
  have K2 := Lib.hid (fun w h => hr_dec W T b (by omega) w h)
  unfold two
  rw [ha, hb]
  have l1 : (Lib.decDigits a).length ≤ 1 := by rw [Lib.decDigits_length]; exact nd_le 1 a (by omega) (by omega)
  have l2 : (Lib.decDigits b).length ≤ 1 := by rw [Lib.decDigits_length]; exact nd_le 1 b (by omega) (by omega)
  have ea := fun w => bS_add (Lib.decDigits a) (Lib.decDigits b) w (by omega)
  generalize Lib.decDigits a = x at *
  generalize Lib.decDigits b = y at *
  have H := Lib.hid h
  clear ha hb l1 l2 h T
  go_enter Tryd.func14, Tryd.ntmps14
  go_wp2_with (fail)
  refine (K1.out _ H.out).mono ?_
  rintro e w1 ⟨rfl, h1⟩
  have H1 := Lib.hid h1
  clear h1
  go_wp2_with (fail)
  refine (K2.out _ H1.out).mono ?_
  rintro e w2 ⟨rfl, h2⟩
  have H2 := Lib.hid h2
  clear h2
  go_wp2
  go_ret
  exact ⟨rfl, H2.out⟩

set_option maxHeartbeats 2000000 in
theorem hr_text (W : World) (T : HrTab W) (t : Int) (w : World) (h : At W w) :
    Calls Tryd.prog 8 #[.int .i64 t] w fun e w' => e = .returned (.string (bS (txL (ckN t)))) ∧ At W w' := by
  have hk := ck_le t
  obtain ⟨k, hkk⟩ : ∃ k, ckN t = k := ⟨_, rfl⟩
  rw [hkk] at hk ⊢
  have hw3 : t < 0 ∧ (k : Int) = 0 ∨ 0 ≤ t ∧ t ≤ 1099511627776 ∧ (k : Int) = t ∨ 1099511627776 < t ∧ (k : Int) = 1099511627776 := by unfold ckN at hkk; omega
  obtain ⟨a, ha⟩ : ∃ a, k / 360000 = a := ⟨_, rfl⟩
  obtain ⟨b, hb⟩ : ∃ b, k % 360000 / 6000 = b := ⟨_, rfl⟩
  obtain ⟨c, hc⟩ : ∃ c, k % 6000 / 100 = c := ⟨_, rfl⟩
  obtain ⟨d, hd⟩ : ∃ d, k % 100 = d := ⟨_, rfl⟩
  have e1 : (k : Int) / 360000 = (a : Int) := by omega
  have e2 : (k : Int) % 360000 / 6000 = (b : Int) := by omega
  have e3 : (k : Int) % 6000 / 100 = (c : Int) := by omega
  have e4 : (k : Int) % 100 = (d : Int) := by omega
  have K1 := Lib.hid (fun w h => hr_dec W T a (by omega) w h)
  have K2 := Lib.hid (fun w h => hr_two W T b (by omega) w h)
  have K3 := Lib.hid (fun w h => hr_two W T c (by omega) w h)
  have K4 := Lib.hid (fun w h => hr_two W T d (by omega) w h)
  unfold txL tailL
  rw [ha, hb, hc, hd]
  have l1 : (Lib.decDigits a).length ≤ 7 := by rw [Lib.decDigits_length]; exact nd_le 7 a (by omega) (by omega)
  have l2 := two_len (show b < 100 by omega)
  have l3 := two_len (show c < 100 by omega)
  have l4 := two_len (show d < 100 by omega)
  generalize Lib.decDigits a = x at *
  generalize two b = y at *
  generalize two c = z at *
  generalize two d = v at *
  have s1 := Lib.hid (fun w => bS_byte x 58 w (by omega))
  have s2 := Lib.hid (fun w => bS_add (x ++ [58]) y w (by simp; omega))
  have s3 := Lib.hid (fun w => bS_byte (x ++ [58] ++ y) 58 w (by simp; omega))
  have s4 := Lib.hid (fun w => bS_add (x ++ [58] ++ y ++ [58]) z w (by simp; omega))
  have s5 := Lib.hid (fun w => bS_byte (x ++ [58] ++ y ++ [58] ++ z) 46 w (by simp; omega))
  have s6 := Lib.hid (fun w => bS_add (x ++ [58] ++ y ++ [58] ++ z ++ [46]) v w (by simp; omega))
  have HE := Lib.hid (show x ++ [58] ++ y ++ [58] ++ z ++ [46] ++ v = x ++ 58 :: (y ++ 58 :: (z ++ 46 :: v)) by simp)
  generalize x ++ [58] ++ y ++ [58] ++ z ++ [46] ++ v = L6 at *
  generalize x ++ [58] ++ y ++ [58] ++ z ++ [46] = L5 at *
  generalize x ++ [58] ++ y ++ [58] ++ z = L4 at *
  generalize x ++ [58] ++ y ++ [58] = L3 at *
  generalize x ++ [58] ++ y = L2 at *
  generalize x ++ [58] = L1 at *
  have H := Lib.hid h
  have HW := Lib.hid hw3
  clear ha hb hc hd l1 l2 l3 l4 h T hkk hw3
  go_enter Tryd.func8, Tryd.ntmps8
  go_upto_region 1 with (fail)
  go_cut [3] (fun v wx => v = .int .i64 (k : Int) ∧ w = wx)
  case first =>
    clear e1 e2 e3 e4
    rcases HW.out with ⟨h1, h2⟩ | ⟨h1, h2, h3⟩ | ⟨h1, h2⟩
    all_goals go_wp2
    all_goals go_meet
    all_goals exact ⟨by simp <;> omega, rfl⟩
  case rest =>
    obtain ⟨rfl, rfl⟩ := hcut
    go_wp2_with (fail)
    refine (K1.out _ H.out).mono ?_
    rintro e w1 ⟨rfl, h1⟩
    have H1 := Lib.hid h1
    clear h1
    have t1 := s1.out
    go_wp2_with (fail)
    refine (K2.out _ H1.out).mono ?_
    rintro e w2 ⟨rfl, h2⟩
    have H2 := Lib.hid h2
    clear h2
    have t2 := s2.out
    have t3 := s3.out
    go_wp2_with (fail)
    refine (K3.out _ H2.out).mono ?_
    rintro e w3 ⟨rfl, h3⟩
    have H3 := Lib.hid h3
    clear h3
    have t4 := s4.out
    have t5 := s5.out
    go_wp2_with (fail)
    refine (K4.out _ H3.out).mono ?_
    rintro e w4 ⟨rfl, h4⟩
    have H4 := Lib.hid h4
    clear h4
    have t6 := s6.out
    go_wp2
    go_ret
    exact ⟨by rw [← HE.out]; rfl, H4.out⟩

/-! ### cut at a byte; the number of a piece -/
theorem cutA_is (s : ByteArray) (c : UInt8) : bS (cutA s.data.toList c) = ⟨(Lib.cut s.data.toList [c]).1.toArray⟩ ∧ bS (cutB s.data.toList c) = ⟨(Lib.cut s.data.toList [c]).2.1.toArray⟩ := by
  unfold cutA cutB Lib.cut bS
  rw [Lib.index_one]
  split <;> exact ⟨rfl, rfl⟩

set_option maxHeartbeats 1000000 in
theorem hr_cut0 (W : World) (s : ByteArray) (c : UInt8) (hs : s.size ≤ 1000) (w : World) (h : At W w) :
    Calls Tryd.prog 16 #[.string s, .string ⟨#[c]⟩] w fun e w' => e = .returned (.tuple #[.string (bS (cutA s.data.toList c)), .string (bS (cutB s.data.toList c)), .bool (Lib.cut s.data.toList [c]).2.2]) ∧ At W w' := by
  have H := Lib.hid h
  have HI := Lib.hid (fun w => Any.stringslite_Index_one hrl219 s c w)
  have ⟨q1, q2⟩ := cutA_is s c
  rw [q1, q2]
  clear h q1 q2
  have hx : Lib.indexByte s.data.toList c = Lib.indexB s ⟨#[c]⟩ := (Lib.index_one _ _).symm
  rcases Lib.indexB_cases s ⟨#[c]⟩ with hix | ⟨i, hix, hroom⟩
  · obtain ⟨e1, e2, e3⟩ := Lib.cutB_miss s ⟨#[c]⟩ hix
    rw [show ([c] : List UInt8) = (⟨#[c]⟩ : ByteArray).data.toList from rfl, e1, e2, e3]
    rw [hx, hix] at HI
    clear hx hix e1 e2 e3
    go_enter Tryd.func16, Tryd.ntmps16
    go_wp2_with (go_at_call 19; refine (HI.out _).mono ?_; rintro e w' ⟨rfl, rfl⟩)
    go_ret3
    exact ⟨rfl, H.out⟩
  · obtain ⟨e1, e2, e3⟩ := Lib.cutB_hit s ⟨#[c]⟩ i hix
    rw [show ([c] : List UInt8) = (⟨#[c]⟩ : ByteArray).data.toList from rfl, e1, e2, e3]
    rw [hx, hix] at HI
    have hroom1 : i + 1 ≤ s.size := hroom
    have c1 : (0 : Int) ≤ ↑i := by omega
    have c2 : (↑i : Int) ≤ ↑s.size := by omega
    have c3 : (0 : Int) ≤ ↑i + 1 := by omega
    have c4 : (↑i + 1 : Int) ≤ ↑s.size := by omega
    clear hx hix e1 e2 e3 hroom
    go_enter Tryd.func16, Tryd.ntmps16
    go_wp2_with (go_at_call 19; refine (HI.out _).mono ?_; rintro e w' ⟨rfl, rfl⟩)
    go_quiet (fail)
    go_wp2
    go_ret3
    exact ⟨rfl, H.out.draws _⟩
theorem hr_cut (W : World) (l : List UInt8) (c : UInt8) (hs : l.length ≤ 1000) (w : World) (h : At W w) :
    Calls Tryd.prog 10 #[.string (bS l), .string ⟨#[c]⟩] w fun e w' => e = .returned (.tuple #[.string (bS (cutA l c)), .string (bS (cutB l c)), .bool (Lib.cut l [c]).2.2]) ∧ At W w' := by
  have K := Lib.hid (hr_cut0 W (bS l) c (by rw [bS_size]; omega) w h)
  rw [bS_list] at K
  clear h
  generalize (Lib.cut l [c]).2.2 = q at *
  generalize bS (cutA l c) = x at *
  generalize bS (cutB l c) = y at *
  generalize bS l = s at *
  go_enter Tryd.func10, Tryd.ntmps10
  go_wp2_with (go_at_call 16; refine K.out.mono ?_; rintro e w' ⟨rfl, hb⟩)
  go_ret3
  exact ⟨rfl, hb⟩

theorem hr_number (W : World) (E : HrErr W) (l : List UInt8) (hs : l.length ≤ 1000) (w : World) (h : At W w) :
    Calls Tryd.prog 11 #[.string (bS l)] w fun e w' => e = .returned (.int .i64 (numV l)) ∧ At W w' := by
  have hs : (bS l).size ≤ 1000 := by rw [bS_size]; omega
  rw [← bS_list l]
  generalize bS l = s at *
  have K : Hid (Calls Tryd.prog 17 #[.string s] w fun e w' => (∃ x, e = .returned (.tuple #[.int .i64 (numV s.data.toList), x])) ∧ At W w') := by
    refine Lib.hid ?_
    obtain ⟨⟨a, b, h1⟩, c, d, h2⟩ := E.stays h
    cases hx : Lib.atoiAll s.data.toList with
    | ok v =>
      rw [numV_ok hx]
      refine (Any.strconv_Atoi_ok hrl172 s (by omega) v hx w).mono ?_
      rintro e w' ⟨rfl, hw⟩
      refine ⟨⟨_, rfl⟩, h.below ?_⟩
      rcases hw with rfl | ⟨t, rfl⟩
      · exact Below.refl _ _
      · exact Lib.bytesWorld_below _ _ _
    | «syntax» =>
      have e0 : numV s.data.toList = 0 := by unfold numV; rw [hx]
      rw [e0]
      refine (Any.strconv_Atoi_syntax hrl172 s (by omega) hx (.iface a b) w h1 (.inr ⟨_, _, rfl⟩)).mono ?_
      rintro e w' ⟨N, rfl, _, _, hb⟩
      exact ⟨⟨_, rfl⟩, h.below hb⟩
    | range =>
      have e0 : numV s.data.toList = Lib.atoiSat s.data.toList := by unfold numV; rw [hx]
      rw [e0]
      refine (Any.strconv_Atoi_range hrl172 s (by omega) hx (.iface c d) w h2 (.inr ⟨_, _, rfl⟩)).mono ?_
      rintro e w' ⟨N, rfl, _, _, hb⟩
      exact ⟨⟨_, rfl⟩, h.below hb⟩
  clear h E
  generalize numV s.data.toList = n at *
  go_enter Tryd.func11, Tryd.ntmps11
  go_wp2_with (go_at_call 17; refine K.out.mono ?_; rintro e w' ⟨⟨x, rfl⟩, hb⟩)
  go_ret
  exact ⟨rfl, hb⟩

theorem cutA_len (l : List UInt8) (c : UInt8) : (cutA l c).length ≤ l.length := by
  unfold cutA; split
  · rw [List.length_take]; omega
  · exact Nat.le_refl _
theorem cutB_len (l : List UInt8) (c : UInt8) : (cutB l c).length ≤ l.length := by
  unfold cutB; split
  · rw [List.length_drop]; omega
  · simp
theorem bS_beq (a b : List UInt8) : ((bS a).toList == (bS b).toList) = (a == b) := by rw [Lib.toList_data, Lib.toList_data]; rfl

set_option maxHeartbeats 4000000 in
theorem hr_parse_yes (W : World) (T : HrTab W) (E : HrErr W) (t : Nat) (ht : t ≤ 1099511627776) (w : World) (h : At W w) :
    Calls Tryd.prog 6 #[.string (bS (txL t))] w fun e w' => e = .returned (.tuple #[.int .i64 (t : Int), .bool true]) ∧ At W w' := by
  have hl := tx_len_le ht
  have ⟨p1, p2, p3, p4⟩ := tx_parts t ht
  have hsum := tx_sum t
  unfold hA at p1
  unfold hB at p2
  unfold hC at p3
  unfold hD at p4
  have heq : ((bS (txL t)).toList == (bS (txL t)).toList) = true := by rw [bS_beq]; exact beq_self_eq_true _
  have HT := Lib.hid (fun w h => hr_text W T (t : Int) w h)
  rw [ck_id ht] at HT
  generalize txL t = l at *
  have k1 := cutA_len l 58
  have k2 := cutB_len l 58
  have C1 := Lib.hid (fun w h => hr_cut W l 58 (by omega) w h)
  generalize (Lib.cut l [58]).2.2 = q1 at *
  generalize cutA l 58 = x1 at *
  generalize cutB l 58 = y1 at *
  have k3 := cutA_len y1 58
  have k4 := cutB_len y1 58
  have C2 := Lib.hid (fun w h => hr_cut W y1 58 (by omega) w h)
  generalize (Lib.cut y1 [58]).2.2 = q2 at *
  generalize cutA y1 58 = x2 at *
  generalize cutB y1 58 = y2 at *
  have k5 := cutA_len y2 46
  have k6 := cutB_len y2 46
  have C3 := Lib.hid (fun w h => hr_cut W y2 46 (by omega) w h)
  generalize (Lib.cut y2 [46]).2.2 = q3 at *
  generalize cutA y2 46 = x3 at *
  generalize cutB y2 46 = y3 at *
  have N1 := Lib.hid (fun w h => hr_number W E x1 (by omega) w h)
  have N2 := Lib.hid (fun w h => hr_number W E x2 (by omega) w h)
  have N3 := Lib.hid (fun w h => hr_number W E x3 (by omega) w h)
  have N4 := Lib.hid (fun w h => hr_number W E y3 (by omega) w h)
  rw [p1] at N1
  rw [p2] at N2
  rw [p3] at N3
  rw [p4] at N4
  obtain ⟨a, ha⟩ : ∃ a, t / 360000 = a := ⟨_, rfl⟩
  obtain ⟨b, hb⟩ : ∃ b, t % 360000 / 6000 = b := ⟨_, rfl⟩
  obtain ⟨c, hc⟩ : ∃ c, t % 6000 / 100 = c := ⟨_, rfl⟩
  obtain ⟨d, hd⟩ : ∃ d, t % 100 = d := ⟨_, rfl⟩
  have ba : a ≤ 3054198 := by omega
  have bb : b < 100 := by omega
  have bc : c < 100 := by omega
  have bd : d < 100 := by omega
  rw [ha, hb, hc, hd] at hsum
  have hS : (a : Int) * 360000 + (b : Int) * 6000 + (c : Int) * 100 + (d : Int) = (t : Int) := by omega
  rw [ha] at N1
  rw [hb] at N2
  rw [hc] at N3
  rw [hd] at N4
  have H := Lib.hid h
  clear ha hb hc hd p1 p2 p3 p4 k1 k2 k3 k4 k5 k6 hl h T E hsum
  generalize bS l = s at *
  generalize bS x1 = x1 at *
  generalize bS x2 = x2 at *
  generalize bS x3 = x3 at *
  generalize bS y1 = y1 at *
  generalize bS y2 = y2 at *
  generalize bS y3 = y3 at *
  go_enter Tryd.func6, Tryd.ntmps6
  go_wp2_with (fail)
  refine (C1.out _ H.out).mono ?_
  rintro e w1 ⟨rfl, h1⟩
  have H1 := Lib.hid h1
  clear h1
  go_wp2_with (fail)
  refine (C2.out _ H1.out).mono ?_
  rintro e w2 ⟨rfl, h2⟩
  have H2 := Lib.hid h2
  clear h2
  go_wp2_with (fail)
  refine (C3.out _ H2.out).mono ?_
  rintro e w3 ⟨rfl, h3⟩
  have H3 := Lib.hid h3
  clear h3
  go_wp2_with (fail)
  refine (N1.out _ H3.out).mono ?_
  rintro e w4 ⟨rfl, h4⟩
  have H4 := Lib.hid h4
  clear h4
  go_wp2_with (fail)
  refine (N2.out _ H4.out).mono ?_
  rintro e w5 ⟨rfl, h5⟩
  have H5 := Lib.hid h5
  clear h5
  go_wp2_with (fail)
  refine (N3.out _ H5.out).mono ?_
  rintro e w6 ⟨rfl, h6⟩
  have H6 := Lib.hid h6
  clear h6
  go_wp2_with (fail)
  refine (N4.out _ H6.out).mono ?_
  rintro e w7 ⟨rfl, h7⟩
  have H7 := Lib.hid h7
  clear h7
  go_wp2_with (fail)
  refine (HT.out _ H7.out).mono ?_
  rintro e w8 ⟨rfl, h8⟩
  have H8 := Lib.hid h8
  clear h8
  go_wp2
  go_ret2
  exact ⟨rfl, H8.out⟩

set_option maxHeartbeats 4000000 in
theorem hr_parse_no (W : World) (T : HrTab W) (E : HrErr W) (l : List UInt8) (hl : l.length ≤ 60) (hn : ∀ t, t ≤ 1099511627776 → txL t ≠ l) (w : World) (h : At W w) :
    Calls Tryd.prog 6 #[.string (bS l)] w fun e w' => e = .returned (.tuple #[.int .i64 0, .bool false]) ∧ At W w' := by
  have HN := Lib.hid (fun t : Int => show ((bS (txL (ckN t))).toList == (bS l).toList) = false by
    rw [bS_beq, beq_eq_false_iff_ne]; exact hn _ (ck_le t))
  have HT := Lib.hid (fun t w h => hr_text W T t w h)
  have k1 := cutA_len l 58
  have k2 := cutB_len l 58
  have C1 := Lib.hid (fun w h => hr_cut W l 58 (by omega) w h)
  generalize (Lib.cut l [58]).2.2 = q1 at *
  generalize cutA l 58 = x1 at *
  generalize cutB l 58 = y1 at *
  have k3 := cutA_len y1 58
  have k4 := cutB_len y1 58
  have C2 := Lib.hid (fun w h => hr_cut W y1 58 (by omega) w h)
  generalize (Lib.cut y1 [58]).2.2 = q2 at *
  generalize cutA y1 58 = x2 at *
  generalize cutB y1 58 = y2 at *
  have k5 := cutA_len y2 46
  have k6 := cutB_len y2 46
  have C3 := Lib.hid (fun w h => hr_cut W y2 46 (by omega) w h)
  generalize (Lib.cut y2 [46]).2.2 = q3 at *
  generalize cutA y2 46 = x3 at *
  generalize cutB y2 46 = y3 at *
  have N1 := Lib.hid (fun w h => hr_number W E x1 (by omega) w h)
  have N2 := Lib.hid (fun w h => hr_number W E x2 (by omega) w h)
  have N3 := Lib.hid (fun w h => hr_number W E x3 (by omega) w h)
  have N4 := Lib.hid (fun w h => hr_number W E y3 (by omega) w h)
  generalize numV x1 = a at *
  generalize numV x2 = b at *
  generalize numV x3 = c at *
  generalize numV y3 = d at *
  have H := Lib.hid h
  clear k1 k2 k3 k4 k5 k6 hl h T E hn
  generalize bS l = s at *
  generalize bS x1 = x1 at *
  generalize bS x2 = x2 at *
  generalize bS x3 = x3 at *
  generalize bS y1 = y1 at *
  generalize bS y2 = y2 at *
  generalize bS y3 = y3 at *
  go_enter Tryd.func6, Tryd.ntmps6
  go_wp2_with (fail)
  refine (C1.out _ H.out).mono ?_
  rintro e w1 ⟨rfl, h1⟩
  have H1 := Lib.hid h1
  clear h1
  go_wp2_with (fail)
  refine (C2.out _ H1.out).mono ?_
  rintro e w2 ⟨rfl, h2⟩
  have H2 := Lib.hid h2
  clear h2
  go_wp2_with (fail)
  refine (C3.out _ H2.out).mono ?_
  rintro e w3 ⟨rfl, h3⟩
  have H3 := Lib.hid h3
  clear h3
  go_upto_region 4 with (fail)
  go_cut [12] (fun v wx => ∃ t : Int, v = .int .i64 t ∧ At W wx)
  case first =>
    go_wp2_with (fail)
    refine (N1.out _ H3.out).mono ?_
    rintro e w4 ⟨rfl, h4⟩
    have H4 := Lib.hid h4
    clear h4
    go_wp2_with (fail)
    refine (N2.out _ H4.out).mono ?_
    rintro e w5 ⟨rfl, h5⟩
    have H5 := Lib.hid h5
    clear h5
    go_wp2_with (fail)
    refine (N3.out _ H5.out).mono ?_
    rintro e w6 ⟨rfl, h6⟩
    have H6 := Lib.hid h6
    clear h6
    go_wp2_with (fail)
    refine (N4.out _ H6.out).mono ?_
    rintro e w7 ⟨rfl, h7⟩
    have H7 := Lib.hid h7
    clear h7
    go_wp2_with (fail)
    go_meet
    exact ⟨_, rfl, H7.out⟩
  case rest =>
    obtain ⟨t, rfl, h7⟩ := hcut
    have H7 := Lib.hid h7
    clear h7
    have hx := HN.out t
    go_wp2_with (fail)
    refine (HT.out _ _ H7.out).mono ?_
    rintro e w8 ⟨rfl, h8⟩
    have H8 := Lib.hid h8
    clear h8
    go_wp2
    go_ret2
    exact ⟨rfl, H8.out⟩
end Go.Proofs.YtmidgdmgekbmcaaDoor
