/- The law package's own check of stage 51. -/
import Derived.Test.YthijabhnmjbboaaVarT
namespace Go.Proofs.Ythijabhnmjbboaa
open Go.RowKit
set_option linter.unusedVariables false
set_option linter.unusedSimpArgs false

set_option maxRecDepth 100000 in
set_option maxHeartbeats 1000000 in
theorem law51_awake (w : World) : Calls Try.prog 12 #[] w fun e w' => e = .returned (.bool true) ∧ Below w.heap.size w w' := by
  have A : Below w.heap.size w w := Below.refl _ _
  have H1 := fun w => vr_take ⟨#[120, 172, 2]⟩ 1 (by decide) w
  rw [show tkV (⟨#[120, 172, 2]⟩ : ByteArray).data.toList 1 = 300 by decide +kernel, show tkE (⟨#[120, 172, 2]⟩ : ByteArray).data.toList 1 = 3 by decide +kernel, show tkO (⟨#[120, 172, 2]⟩ : ByteArray).data.toList 1 = true by decide +kernel] at H1
  have H2 := fun w => vr_take ⟨#[128, 0]⟩ 0 (by decide) w
  rw [show tkV (⟨#[128, 0]⟩ : ByteArray).data.toList 0 = 0 by decide +kernel, show tkE (⟨#[128, 0]⟩ : ByteArray).data.toList 0 = 0 by decide +kernel, show tkO (⟨#[128, 0]⟩ : ByteArray).data.toList 0 = false by decide +kernel] at H2
  have H3 := fun w => vr_put 300 w
  rw [show putS 300 = ⟨#[172, 2]⟩ by decide +kernel] at H3
  have H4 := fun w => vr_put 0 w
  rw [show putS 0 = ⟨#[0]⟩ by decide +kernel] at H4
  have e1 : zgV (-3) = 5 := by decide +kernel
  have e2 : zaV 5 = -3 := by decide +kernel
  have H1 := Lib.hid H1
  have H2 := Lib.hid H2
  have H3 := Lib.hid H3
  have H4 := Lib.hid H4
  go_enter Try.func12, Try.ntmps12
  go_wp2_with (fail)
  refine (H1.out _).mono ?_
  rintro e w1 ⟨rfl, hb⟩
  replace A : Below w.heap.size w w1 := by (refine below_call ?_ hb; (repeat (first | (with_reducible exact Below.refl _ _) | (with_reducible assumption) | (with_reducible refine Near.up _ ?_) | (with_reducible refine Below.drew ?_) | (with_reducible refine below_alloc_on ?_ _) | (with_reducible refine below_set_on ?_ (by first | (simp; done) | (simp; omega) | omega) _))))
  clear hb
  have z_w1 : w.heap.size ≤ w1.heap.size := A.size
  go_wp2_with (fail)
  refine (H2.out _).mono ?_
  rintro e w2 ⟨rfl, hb⟩
  replace A : Below w.heap.size w w2 := by (refine below_call ?_ hb; (repeat (first | (with_reducible exact Below.refl _ _) | (with_reducible assumption) | (with_reducible refine Near.up _ ?_) | (with_reducible refine Below.drew ?_) | (with_reducible refine below_alloc_on ?_ _) | (with_reducible refine below_set_on ?_ (by first | (simp; done) | (simp; omega) | omega) _))))
  clear hb
  have z_w2 : w.heap.size ≤ w2.heap.size := A.size
  go_wp2_with ((first | (go_at_call 15; refine (vr_zig _ _).mono ?_; rintro e w' ⟨rfl, rfl⟩) | (go_at_call 17; refine (vr_zag _ _).mono ?_; rintro e w' ⟨rfl, rfl⟩)))
  refine (H3.out _).mono ?_
  rintro e w3 ⟨rfl, hb⟩
  replace A : Below w.heap.size w w3 := by (refine below_call ?_ hb; (repeat (first | (with_reducible exact Below.refl _ _) | (with_reducible assumption) | (with_reducible refine Near.up _ ?_) | (with_reducible refine Below.drew ?_) | (with_reducible refine below_alloc_on ?_ _) | (with_reducible refine below_set_on ?_ (by first | (simp; done) | (simp; omega) | omega) _))))
  clear hb
  have z_w3 : w.heap.size ≤ w3.heap.size := A.size
  go_wp2_with (fail)
  refine (H4.out _).mono ?_
  rintro e w4 ⟨rfl, hb⟩
  replace A : Below w.heap.size w w4 := by (refine below_call ?_ hb; (repeat (first | (with_reducible exact Below.refl _ _) | (with_reducible assumption) | (with_reducible refine Near.up _ ?_) | (with_reducible refine Below.drew ?_) | (with_reducible refine below_alloc_on ?_ _) | (with_reducible refine below_set_on ?_ (by first | (simp; done) | (simp; omega) | omega) _))))
  clear hb
  have z_w4 : w.heap.size ≤ w4.heap.size := A.size
  go_wp2
  all_goals go_ret
  all_goals exact ⟨rfl, A⟩

/-! ### What the laws want of numbers. -/
theorem zg_za {x : Int} (h0 : 0 ≤ x) (h1 : x ≤ 18014398509481984) : zgV (zaV x) = x := by
  have hx : inV x = x := by unfold inV; omega
  unfold zaV
  rw [hx]
  by_cases h : x % 2 = 0
  · rw [if_pos h]
    unfold zgV
    rw [clV_in (by omega)]
    split <;> omega
  · rw [if_neg h]
    unfold zgV
    rw [clV_in (by omega)]
    split <;> omega
theorem za_zg {n : Int} (h0 : -9007199254740992 ≤ n) (h1 : n ≤ 9007199254740992) : zaV (zgV n) = n ∧ 0 ≤ zgV n ∧ zgV n ≤ 18014398509481984 := by
  unfold zgV
  rw [clV_in (by omega)]
  split
  · unfold zaV inV; refine ⟨?_, by omega, by omega⟩; split <;> omega
  · unfold zaV inV; refine ⟨?_, by omega, by omega⟩; split <;> omega
theorem put_inj {a b : Nat} (ha : a ≤ 18014398509481984) (hb : b ≤ 18014398509481984) (h : putL a = putL b) : a = b := by
  have h1 := tk_put 7 a [] (put_lt ha)
  have h2 := tk_put 7 b [] (put_lt hb)
  unfold putL at h
  rw [h] at h1
  rw [h1] at h2
  simpa using h2
theorem put_mono {a b : Nat} (ha : a ≤ 18014398509481984) (hb : b ≤ 18014398509481984) (h : a ≤ b) : (putL a).length ≤ (putL b).length := by
  have la := putN_len 7 a
  have lb := putN_len 7 b
  have h1 := (put_len_is 7 a _ (put_lt ha) la.1 la.2).1 rfl
  have h2 := (put_len_is 7 b _ (put_lt hb) lb.1 lb.2).1 rfl
  unfold putL
  rcases Nat.lt_or_ge (putN 7 b).length (putN 7 a).length with hlt | hge
  · exfalso
    rcases h1.2 with e | e
    · omega
    · have : (128 : Nat) ^ (putN 7 b).length ≤ 128 ^ ((putN 7 a).length - 1) := Nat.pow_le_pow_right (by omega) (by omega)
      omega
  · exact hge
theorem putS_list (n : Int) : (putS n).data.toList = putL (inV n).toNat := rfl
theorem putS_sz (n : Int) : (putS n).size = (putL (inV n).toNat).length := rfl
theorem putS_toList (n : Int) : (putS n).toList = putL (inV n).toNat := by
  rw [ByteArray.toList_eq]; rfl
end Go.Proofs.Ythijabhnmjbboaa
