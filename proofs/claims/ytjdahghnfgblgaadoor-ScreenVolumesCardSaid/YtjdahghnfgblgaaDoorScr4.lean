/- A volume as it is shown. -/
import Derived.Test.YtjdahghnfgblgaaDoorScr3
import Derived.Test.YtjdahghnfgblgaaDoorItoa
import Derived.Lib.SmallJoins
import Derived.Laws.Concat
import Derived.Lib.ItoaLen
namespace Go.Proofs.YtjdahghnfgblgaaDoor
open Go.RowKit Go.Deep
set_option linter.unusedVariables false
set_option linter.unusedSimpArgs false
set_option maxRecDepth 100000
attribute [local go_sem] cell_set_ite Near.cell Near.frozen
attribute [-go_sem] run_string_add_if

abbrev ScTab (w : World) : Prop := Lib.TabIs Tryd.prog w "internal/strconv.uint64pow10" .u64 Lib.pow10Tab
theorem ScTab.stays {w w' : World} (h : ScTab w) (hb : Below w.heap.size w w') : ScTab w' := Joins.tab_stays (g := 4) (by kernel_rfl) h hb (Nat.le_refl _)
theorem sc_grow (w : World) (os : Array Obj) : Below w.heap.size w (Sort.grow w os) :=
  ⟨rfl, rfl, rfl, by show w.heap.size ≤ (w.heap ++ os).size; rw [Array.size_append]; omega, fun j hj => Array.getElem?_append_left hj⟩
theorem sc_itoa (n : Int) (h0 : -9223372036854775808 ≤ n) (h1 : n ≤ 9223372036854775807) (w : World) (ht : ScTab w) : Calls Tryd.prog 18 #[.int .i64 n] w fun e w' => e = .returned (.string (itS n)) ∧ Below w.heap.size w w' :=
  (itoa_is n h0 h1 w ht).mono fun _ _ ⟨he, k, os, hw⟩ => ⟨he, by rw [hw]; exact below_call (below_drewN (Below.refl _ _) k) (sc_grow _ os)⟩

/-- Digit j of c, from the right. -/
def dgN (c j : Nat) : Nat := c / 10 ^ j % 10
def dgL (c : Nat) : List Int := [48 + (dgN c 7 : Int), 48 + (dgN c 6 : Int), 48 + (dgN c 5 : Int), 48 + (dgN c 4 : Int), 48 + (dgN c 3 : Int), 48 + (dgN c 2 : Int), 48 + (dgN c 1 : Int), 48 + (dgN c 0 : Int)]
theorem dec_big {u : Nat} (h : ¬ u < 10) : Lib.decDigits u = Lib.decDigits (u / 10) ++ [UInt8.ofNat (48 + u % 10)] := by rw [Lib.decDigits, dif_neg h]
theorem dec_small {u : Nat} (h : u < 10) : Lib.decDigits u = [UInt8.ofNat (48 + u)] := by rw [Lib.decDigits, dif_pos h]
theorem dec_nine (c : Nat) (h : c < 100000000) : Lib.decDigits (100000000 + c) = 49 :: (dgL c).map fun z => UInt8.ofNat z.toNat := by
  rw [dec_big (by omega), dec_big (by omega), dec_big (by omega), dec_big (by omega), dec_big (by omega), dec_big (by omega), dec_big (by omega), dec_big (by omega), dec_small (by omega)]
  have e : ∀ x : Nat, ((48 : Int) + (x : Int)).toNat = 48 + x := fun x => by omega
  simp only [dgL, dgN, List.map_cons, List.map_nil, e, List.cons_append, List.nil_append, List.append_assoc]
  have f8 : (100000000 + c) / 10 / 10 / 10 / 10 / 10 / 10 / 10 / 10 = 1 := by omega
  have f7 : (100000000 + c) / 10 / 10 / 10 / 10 / 10 / 10 / 10 % 10 = c / 10 ^ 7 % 10 := by omega
  have f6 : (100000000 + c) / 10 / 10 / 10 / 10 / 10 / 10 % 10 = c / 10 ^ 6 % 10 := by omega
  have f5 : (100000000 + c) / 10 / 10 / 10 / 10 / 10 % 10 = c / 10 ^ 5 % 10 := by omega
  have f4 : (100000000 + c) / 10 / 10 / 10 / 10 % 10 = c / 10 ^ 4 % 10 := by omega
  have f3 : (100000000 + c) / 10 / 10 / 10 % 10 = c / 10 ^ 3 % 10 := by omega
  have f2 : (100000000 + c) / 10 / 10 % 10 = c / 10 ^ 2 % 10 := by omega
  have f1 : (100000000 + c) / 10 % 10 = c / 10 ^ 1 % 10 := by omega
  have f0 : (100000000 + c) % 10 = c / 10 ^ 0 % 10 := by omega
  rw [f8, f7, f6, f5, f4, f3, f2, f1, f0]
  rfl
theorem dg_lt (c j : Nat) : dgN c j < 10 := Nat.mod_lt _ (by omega)
theorem dgL_bd (c : Nat) : ∀ z ∈ dgL c, 48 ≤ z ∧ z ≤ 57 := by
  have h := dg_lt c
  intro z hz
  unfold dgL at hz
  simp only [List.mem_cons, List.not_mem_nil, or_false] at hz
  have h0 := h 0; have h1 := h 1; have h2 := h 2; have h3 := h 3; have h4 := h 4; have h5 := h 5; have h6 := h 6; have h7 := h 7
  omega
theorem nums_str {zs : List Int} (h : ∀ z ∈ zs, 0 ≤ z ∧ z < 256) : numsOf (strOf zs) = zs := by
  unfold numsOf strOf
  rw [List.map_map]
  conv => rhs; rw [← List.map_id zs]
  apply List.map_congr_left
  intro z hz
  have := h z hz
  show ((UInt8.ofNat z.toNat).toNat : Int) = z
  rw [UInt8.toNat_ofNat']
  omega
/-- The eight digits. -/
def d8S (c : Nat) : ByteArray := strOf (dgL c)
theorem d8_size (c : Nat) : (d8S c).size = 8 := rfl
theorem it_cut (c : Nat) (h : c < 100000000) : (itS (100000000 + (c : Int))).extract 1 (itS (100000000 + (c : Int))).size = d8S c ∧ (itS (100000000 + (c : Int))).size = 9 := by
  have e : itS (100000000 + (c : Int)) = ⟨(49 :: (dgL c).map fun z => UInt8.ofNat z.toNat).toArray⟩ := by
    unfold itS
    rw [show (100000000 : Int) + (c : Int) = ((100000000 + c : Nat) : Int) by omega, Lib.itoa_nonneg, dec_nine c h]
  have hs : (itS (100000000 + (c : Int))).size = 9 := by rw [e]; rfl
  refine ⟨?_, hs⟩
  rw [hs, e]
  apply ByteArray.ext
  apply Array.toList_inj.1
  rw [ByteArray.data_extract, Array.toList_extract]
  rfl
/-- Digits behind the noughts ahead. -/
def ldL (l : List Int) : List Int := l.dropWhile (· == 48)
def vlL (c : Nat) : List Int := ldL [48 + (dgN c 7 : Int), 48 + (dgN c 6 : Int), 48 + (dgN c 5 : Int), 48 + (dgN c 4 : Int)] ++ [48 + (dgN c 3 : Int), 46, 48 + (dgN c 2 : Int), 48 + (dgN c 1 : Int), 48 + (dgN c 0 : Int)]
theorem step_non {n k : Nat} {d : Int} {acc : List Int} (h : acc ≠ []) (hk : k + 3 ≠ n) : ptStep n k d acc = acc ++ [d] := by unfold ptStep; rw [if_neg hk, if_pos (.inl h)]
theorem step_lead {n k : Nat} {d : Int} {acc : List Int} (hk : k + 4 < n) : ptStep n k d acc = if acc = [] ∧ d = 48 then [] else acc ++ [d] := by
  unfold ptStep
  rw [if_neg (by omega)]
  by_cases h : acc = [] ∧ d = 48
  · rw [if_pos h, if_neg (by rintro (g | g | g); exact g h.1; omega; exact g h.2)]; exact h.1
  · rw [if_neg h, if_pos]
    by_cases g : acc = []
    · exact .inr (.inr fun e => h ⟨g, e⟩)
    · exact .inl g
theorem ptTo_eight (a b c d e f g h : Int) : ptTo [a, b, c, d, e, f, g, h] 8 = ldL [a, b, c, d] ++ [e, 46, f, g, h] := by
  have s4 : ptTo [a, b, c, d, e, f, g, h] 4 = ldL [a, b, c, d] := by
    show ptStep 8 3 d (ptStep 8 2 c (ptStep 8 1 b (ptStep 8 0 a []))) = _
    rw [step_lead (by omega), step_lead (by omega), step_lead (by omega), step_lead (by omega)]
    unfold ldL
    by_cases h1 : a = 48
    · by_cases h2 : b = 48
      · by_cases h3 : c = 48
        · by_cases h4 : d = 48
          · simp [h1, h2, h3, h4]
          · simp [h1, h2, h3, h4, List.dropWhile, beq_eq_false_iff_ne.2 h4]
        · simp [h1, h2, h3, List.dropWhile, beq_eq_false_iff_ne.2 h3]
      · simp [h1, h2, List.dropWhile, beq_eq_false_iff_ne.2 h2]
    · simp [h1, List.dropWhile, beq_eq_false_iff_ne.2 h1]
  show ptStep 8 7 h (ptStep 8 6 g (ptStep 8 5 f (ptStep 8 4 e (ptTo [a, b, c, d, e, f, g, h] 4)))) = _
  rw [s4]
  have x4 : ptStep 8 4 e (ldL [a, b, c, d]) = ldL [a, b, c, d] ++ [e] := by unfold ptStep; rw [if_neg (by omega), if_pos (.inr (.inl (by omega)))]
  have x5 : ptStep 8 5 f (ldL [a, b, c, d] ++ [e]) = ldL [a, b, c, d] ++ [e] ++ [46] ++ [f] := by unfold ptStep; rw [if_pos rfl]
  have x6 : ptStep 8 6 g (ldL [a, b, c, d] ++ [e] ++ [46] ++ [f]) = ldL [a, b, c, d] ++ [e] ++ [46] ++ [f] ++ [g] := step_non (by simp) (by omega)
  have x7 : ptStep 8 7 h (ldL [a, b, c, d] ++ [e] ++ [46] ++ [f] ++ [g]) = ldL [a, b, c, d] ++ [e] ++ [46] ++ [f] ++ [g] ++ [h] := step_non (by simp) (by omega)
  rw [x4, x5, x6, x7]
  simp
theorem pt_d8 (c : Nat) : ptTo (numsOf (d8S c)) (d8S c).size = vlL c := by
  unfold d8S
  rw [nums_str (fun z hz => by have := dgL_bd c z hz; omega)]
  exact ptTo_eight _ _ _ _ _ _ _ _
def mlS : ByteArray := ⟨#[32, 109, 76]⟩
/-- A volume's text. -/
def vlS (c : Nat) : ByteArray := strOf (vlL c) ++ mlS
def cntV9 (v : Int) : Nat := (min (max v 0) 99999999).toNat

set_option maxHeartbeats 2000000 in
theorem sc_volume (v : Int) (w : World) (ht : ScTab w) : Calls Tryd.prog 8 #[.int .i64 v] w fun e w' => e = .returned (.string (vlS (cntV9 v))) ∧ Below w.heap.size w w' := by
  obtain ⟨c, hc⟩ : ∃ c, cntV9 v = c := ⟨_, rfl⟩
  have hc1 : min (max v 0) 99999999 = (c : Int) := by unfold cntV9 at hc; omega
  have hc2 : c < 100000000 := by omega
  rw [hc]
  obtain ⟨x1, x2⟩ := it_cut c hc2
  rw [x2] at x1
  have HI := Lib.hid (fun w ht => sc_itoa (100000000 + (c : Int)) (by omega) (by omega) w ht)
  have hP := fun w => sc_pointed (d8S c) w (by rw [d8_size]; omega) (by rw [d8_size]; omega) (by
    unfold d8S
    rw [nums_str (fun z hz => by have := dgL_bd c z hz; omega)]
    intro z hz
    have := dgL_bd c z hz
    omega)
  rw [pt_d8] at hP
  have hadd : ∀ w, (Op.stringOp .add (strOf (vlL c)) (⟨#[32, 109, 76]⟩ : ByteArray)).run Tryd.prog w = .ok (.string (vlS c)) w := fun w => run_string_add_sum w _ _ (by
    have : (strOf (vlL c)).size ≤ 9 := by
      show ((vlL c).map _).toArray.size ≤ 9
      rw [List.size_toArray, List.length_map]
      unfold vlL ldL
      rw [List.length_append]
      have := (List.dropWhile_sublist (· == (48 : Int)) (l := [48 + (dgN c 7 : Int), 48 + (dgN c 6 : Int), 48 + (dgN c 5 : Int), 48 + (dgN c 4 : Int)])).length_le
      simp at this ⊢
      omega
    show _ + 3 ≤ _
    omega)
  generalize d8S c = ds at *
  generalize strOf (vlL c) = vs at *
  generalize vlS c = vv at *
  generalize hit : itS (100000000 + (c : Int)) = it at *
  have e1 : (c : Int) + 99999999 + 1 = 100000000 + (c : Int) := by omega
  have hle : (1 : Int) ≤ (it.size : Int) := by omega
  have HP := Lib.hid hP
  have HT := Lib.hid ht
  have A : Below w.heap.size w w := Below.refl _ _
  clear hP ht hc hit
  go_enter Tryd.func8, Tryd.ntmps8
  go_wp2_with (fail)
  refine (HI.out _ HT.out).mono ?_
  rintro e w1 ⟨rfl, hb⟩
  replace A := below_call A hb
  clear hb
  go_wp2_with (fail)
  refine (HP.out _).mono ?_
  rintro e w2 ⟨rfl, hb⟩
  replace A := below_call A hb
  clear hb
  go_wp2
  go_ret
  exact ⟨rfl, A⟩
end Go.Proofs.YtjdahghnfgblgaaDoor
