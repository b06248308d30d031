/- Contract: tick. -/
import Derived.Test.YteeiebopfjlffaaWireN
import Derived.Test.YteeiebopfjlffaaTruths
namespace Go.Proofs.Yteeiebopfjlffaa
open Go.RowKit Ieee
set_option linter.unusedVariables false
set_option linter.unusedSimpArgs false
set_option maxRecDepth 100000
attribute [local go_sem] cell_set_ite Near.cell Near.frozen

def rwW' (r : Rw) : Value := .agg #[.float .f64 r.adc, .float .f64 r.tilt, .float .f64 r.bat, .float .f64 r.enc, .bool r.door, .int .i64 r.key, .bool r.wr]
def rlL (r : Rw) : List Nat := [r.adc, r.tilt, r.bat, r.enc]
def toS (r : Rw) (k : Nat) : ByteArray := ⟨(0 :: ((rlL r).take k).flatMap reL).toArray⟩
def wkB (r : Rw) : Bool := decide (0 ≤ r.key ∧ r.key < 256)
def wkS (r : Rw) : ByteArray := if wkB r then ⟨(tkL r).toArray⟩ else ⟨#[]⟩

theorem re_len (x : Nat) : (reL x).length ≤ 9 := by
  unfold reL
  split
  · simp [numL_len]
  · simp
theorem reS_size (x : Nat) : (reS x).size ≤ 9 := by
  show (reL x).toArray.size ≤ 9
  rw [List.size_toArray]; exact re_len x
def xsK (r : Rw) (k : Nat) : Nat := (rlL r).getD k 0
theorem toS_zero (r : Rw) : toS r 0 = numS 0 1 := by
  rw [show (0 : Int) = ((0 : Nat) : Int) from rfl, show (1 : Int) = ((1 : Nat) : Int) from rfl, numS_is 0 1 (by omega) (by omega) (by omega), num_one]
  rfl
theorem toS_succ (r : Rw) (k : Nat) (h : k < 4) : toS r k ++ reS (xsK r k) = toS r (k + 1) := by
  unfold toS reS
  rw [app_bytes]
  rcases (show k = 0 ∨ k = 1 ∨ k = 2 ∨ k = 3 by omega) with c | c | c | c <;> subst c <;> simp [rlL, xsK]
theorem toS_size (r : Rw) : ∀ k, k ≤ 4 → (toS r k).size ≤ 1 + 9 * k
  | 0, _ => by rw [toS_zero]; have := numS_size 0 1; split at this <;> omega
  | k + 1, h => by
    rw [← toS_succ r k (by omega), ByteArray.size_append]
    have := toS_size r k (by omega)
    have := reS_size (xsK r k)
    omega
theorem toS_four (r : Rw) (k0 : 0 ≤ r.key) (k1 : r.key < 256) : toS r 4 ++ numS ((trN r.door r.wr : Nat) : Int) 1 ++ numS r.key 1 = ⟨(tkL r).toArray⟩ := by
  obtain ⟨N, hN⟩ := Int.eq_ofNat_of_zero_le k0
  have ht := tr_lt r.door r.wr
  rw [hN] at k1 ⊢
  rw [show (1 : Int) = ((1 : Nat) : Int) from rfl, numS_is N 1 (by omega) (by omega) (by omega), numS_is (trN r.door r.wr) 1 (by omega) (by omega) (by omega), num_one, num_one]
  unfold toS
  rw [app_bytes, app_bytes]
  unfold tkL
  rw [hN]
  simp [rlL]
theorem xsK_lt (r : Rw) (h : wfR r) (k : Nat) (hk : k < 4) : xsK r k < 18446744073709551616 := by
  obtain ⟨h1, h2, h3, h4⟩ := h
  rcases (show k = 0 ∨ k = 1 ∨ k = 2 ∨ k = 3 by omega) with c | c | c | c <;> subst c
  · exact h1
  · exact h2
  · exact h3
  · exact h4
theorem xsK_cell (r : Rw) (k : Nat) (hk : k < 4) : (#[Value.float .f64 r.adc, .float .f64 r.tilt, .float .f64 r.bat, .float .f64 r.enc] : Array Value)[k]? = some (.float .f64 (xsK r k)) := by
  rcases (show k = 0 ∨ k = 1 ∨ k = 2 ∨ k = 3 by omega) with c | c | c | c <;> subst c <;> rfl

set_option maxHeartbeats 2000000 in
theorem wi_tick (r : Rw) (hr : wfR r) (k0 : -9223372036854775808 ≤ r.key) (k1 : r.key ≤ 9223372036854775807) (w : World) :
    Calls Try.prog 23 #[rwW' r] w fun e w' => e = .returned (.tuple #[.string (wkS r), .bool (wkB r)]) ∧ Below w.heap.size w w' := by
  obtain ⟨adc, tilt, bat, enc, door, key, wr⟩ := r
  obtain ⟨h1, h2, h3, h4⟩ := hr
  have NK := Lib.hid fun w => code_num key 1 k0 k1 w
  have N0 := Lib.hid fun w => code_num 0 1 (by omega) (by omega) w
  show Calls _ _ #[.agg #[.float .f64 adc, .float .f64 tilt, .float .f64 bat, .float .f64 enc, .bool door, .int .i64 key, .bool wr]] w _
  simp only at h1 h2 h3 h4 k0 k1
  by_cases hk : 0 ≤ key ∧ key < 256
  · have e1 : wkB ⟨adc, tilt, bat, enc, door, key, wr⟩ = true := decide_eq_true hk
    have e2 : wkS ⟨adc, tilt, bat, enc, door, key, wr⟩ = ⟨(tkL ⟨adc, tilt, bat, enc, door, key, wr⟩).toArray⟩ := by unfold wkS; rw [e1]; rfl
    rw [e1, e2]
    clear e1 e2
    obtain ⟨N, rfl⟩ := Int.eq_ofNat_of_zero_le hk.1
    have hS := numS_is N 1 (by omega) (by omega) (by omega)
    obtain ⟨sK, hsK⟩ : ∃ sK, numS (N : Int) 1 = sK := ⟨_, rfl⟩
    have hsz : sK.size = 1 := by rw [← hsK, show (1 : Int) = ((1 : Nat) : Int) from rfl, hS]; rfl
    have hem : (sK.toList == []) = false := by
      rw [← hsK, show (1 : Int) = ((1 : Nat) : Int) from rfl, hS, num_one, ByteArray.toList_eq]; rfl
    rw [hsK] at NK
    have NT := Lib.hid fun w => code_num ((trN door wr : Nat) : Int) 1 (by omega) (by have := tr_lt door wr; omega) w
    have HS := Lib.hid hsK
    clear hsK hS
    obtain ⟨r, hrr⟩ : ∃ r : Rw, (⟨adc, tilt, bat, enc, door, (N : Int), wr⟩ : Rw) = r := ⟨_, rfl⟩
    have hw : wfR r := hrr ▸ ⟨h1, h2, h3, h4⟩
    have T0 := toS_zero r
    have T4 := toS_four r (by rw [← hrr]; exact hk.1) (by rw [← hrr]; exact hk.2)
    have X4 := xsK_cell r
    have ed : r.door = door := by rw [← hrr]
    have ew : r.wr = wr := by rw [← hrr]
    have ek : r.key = (N : Int) := by rw [← hrr]
    rw [ed, ew, ek, HS.out] at T4
    rw [show r.adc = adc by rw [← hrr], show r.tilt = tilt by rw [← hrr], show r.bat = bat by rw [← hrr], show r.enc = enc by rw [← hrr]] at X4
    rw [hrr]
    rw [← T0] at N0
    have HX4 := Lib.hid X4
    have HW := Lib.hid hw
    have HT := Lib.hid T4
    have HTS := Lib.hid (toS_succ r)
    have HTZ := Lib.hid (toS_size r)
    clear hk X4 hw T0 T4 ed ew ek hrr HS
    have D0 : Below w.heap.size w w := Below.refl _ _
    have ztr := numS7 ((trN door wr : Nat) : Int) 1
    generalize numS ((trN door wr : Nat) : Int) 1 = sT at *
    generalize (⟨(tkL r).toArray⟩ : ByteArray) = res at *
    generalize toS r = tS at *
    cases door <;> cases wr
    all_goals
      go_enter Try.func23, Try.ntmps23
      go_wp2_with (fail)
      refine (NK.out _).mono ?_
      rintro e w1 ⟨rfl, b1⟩
      have A1 := below_call (below_alloc_on D0 _) b1
      have X1 : Box w1 w.heap.size _ := (box_new _ _ _).below b1
      have c4 := X1.2.1 4
      have c6 := X1.2.1 6
      simp only [List.getElem?_toArray, List.getElem?_cons_succ, List.getElem?_cons_zero] at c4 c6
      go_wp2_with (fail)
      refine (N0.out _).mono ?_
      rintro e w2 ⟨rfl, b2⟩
      have A2 := below_call A1 b2
      have X2 : Box w2 w.heap.size _ := X1.below b2
      have d0 := X2.2.1 0
      have d1 := X2.2.1 1
      have d2 := X2.2.1 2
      have d3 := X2.2.1 3
      simp only [List.getElem?_toArray, List.getElem?_cons_succ, List.getElem?_cons_zero] at d0 d1 d2 d3
      clear c4 c6
      go_wp2_with (fail)
      go_loopw [6, 8, 33] (fun v j i wr => ∃ k : Nat, k ≤ 4 ∧ i = .int .i64 k ∧ v = .string (tS k) ∧ Below w.heap.size w wr ∧ Box wr w2.heap.size #[.float .f64 adc, .float .f64 tilt, .float .f64 bat, .float .f64 enc]) (fun _ _ i _ => 4 - (intOf i).toNat)
      case atStart => exact ⟨0, Nat.zero_le _, rfl, rfl, below_alloc_on A2 _, box_new _ _ _⟩
      case round =>
        obtain ⟨k, hk, rfl, rfl, A3, X3⟩ := hrel
        by_cases hlt : k < 4
        · have ck := (X3.2.1 k).trans (HX4.out k hlt)
          have HC := Lib.hid fun w => wi_number (xsK r k) (xsK_lt r HW.out k hlt) w
          have z1 := HTZ.out k (by omega)
          have z2 := reS_size (xsK r k)
          have HA := Lib.hid (HTS.out k hlt)
          have HX3 := Lib.hid X3
          generalize xsK r k = x at *
          generalize reS x = sx at *
          clear X3
          go_wp2_with (fail)
          refine (HC.out _).mono ?_
          rintro e w3 ⟨rfl, b3⟩
          go_wp2_with (fail)
          go_roundw
          case rel => exact ⟨k + 1, by omega, by go_num, by rw [HA.out], below_call A3 b3, HX3.out.below b3⟩
          case measure => simp [intOf]; omega
        · obtain rfl : k = 4 := by omega
          have z4 := HTZ.out 4 (by omega)
          clear X3
          go_wp2_with (fail)
          refine (NT.out _).mono ?_
          rintro e w4 ⟨rfl, b4⟩
          go_wp2_with (fail)
          all_goals go_ret2
          all_goals exact ⟨by rw [← HT.out]; rfl, below_call A3 b4⟩
  · have hS : numS key 1 = ⟨#[]⟩ := numS_no (by simp; omega)
    have e1 : wkB ⟨adc, tilt, bat, enc, door, key, wr⟩ = false := decide_eq_false hk
    have e2 : wkS ⟨adc, tilt, bat, enc, door, key, wr⟩ = ⟨#[]⟩ := by unfold wkS; rw [e1]; rfl
    rw [e1, e2]
    rw [hS] at NK
    clear e1 e2 hS
    go_enter Try.func23, Try.ntmps23
    go_wp2_with (go_at_call 24; refine (NK.out _).mono ?_; rintro e w1 ⟨rfl, b1⟩)
    all_goals go_ret2
    all_goals exact ⟨rfl, below_call (below_alloc_on (Below.refl _ _) _) b1⟩
end Go.Proofs.Yteeiebopfjlffaa
