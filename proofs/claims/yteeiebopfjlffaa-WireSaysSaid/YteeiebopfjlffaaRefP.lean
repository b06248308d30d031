/- The document's Put: contracts. -/
import Derived.Test.YteeiebopfjlffaaPut
import Derived.Test.YteeiebopfjlffaaAlike
namespace Go.Proofs.Yteeiebopfjlffaa
open Go.RowKit Ieee
set_option linter.unusedVariables false
set_option linter.unusedSimpArgs false
set_option maxRecDepth 100000
attribute [local go_sem] cell_set_ite run_store_real Near.cell Near.frozen

theorem rp_real6 (H L : Nat) (x : Nat) (s1 s2 s3 s : ByteArray) (l1 : H < 4294967296) (l2 : L < 4294967296) (hi : (x : Int) / 4294967296 = (H : Int)) (lo : bits .and .u64 (x : Int) 4294967295 = (L : Int)) (hS : s1 ++ s2 ++ s3 = s) (z1 : s1.size ≤ 7) (z2 : s2.size ≤ 7) (z3 : s3.size ≤ 7)
    (HK : Hid (∀ w, Calls Try.prog 36 #[.float .f64 x] w fun e w' => e = .returned (.int .i64 6) ∧ w = w'))
    (N1 : Hid (∀ w, Calls Try.prog 27 #[.int .i64 6, .int .i64 1] w fun e w' => e = .returned (.string s1) ∧ Below w.heap.size w w'))
    (N2 : Hid (∀ w, Calls Try.prog 27 #[.int .i64 H, .int .i64 4] w fun e w' => e = .returned (.string s2) ∧ Below w.heap.size w w'))
    (N3 : Hid (∀ w, Calls Try.prog 27 #[.int .i64 L, .int .i64 4] w fun e w' => e = .returned (.string s3) ∧ Below w.heap.size w w'))
    (w : World) : Calls Try.prog 28 #[.float .f64 x] w fun e w' => e = .returned (.string s) ∧ Below w.heap.size w w' := by
  have hd := fun w => run_bits x w
  have HS := Lib.hid hS
  have HI := Lib.hid hi
  have LO := Lib.hid lo
  have L1 := Lib.hid l1
  have L2 := Lib.hid l2
  clear hi lo l1 l2 hS
  go_enter Try.func28, Try.ntmps28
  go_wp2_with (go_at_call 36; refine (HK.out _).mono ?_; rintro e w' ⟨rfl, rfl⟩)
  refine (N1.out _).mono ?_
  rintro e w1 ⟨rfl, b1⟩
  go_wp2_with (fail)
  rw [show wrap64 ((x : Int) / 4294967296) = (H : Int) from by rw [HI.out]; have := L1.out; unfold wrap64; omega]
  refine (N2.out _).mono ?_
  rintro e w2 ⟨rfl, b2⟩
  go_wp2_with (fail)
  rw [show wrap64 (bits .and .u64 (x : Int) 4294967295) = (L : Int) from by rw [LO.out]; have := L2.out; unfold wrap64; omega]
  refine (N3.out _).mono ?_
  rintro e w3 ⟨rfl, b3⟩
  go_wp2_with (fail)
  all_goals go_ret
  all_goals exact ⟨by rw [← HS.out]; rfl, below_call b1 (below_call b2 b3)⟩
theorem and_low (x : Nat) (hx : x < 18446744073709551616) : bits .and .u64 (x : Int) 4294967295 = ((x % 4294967296 : Nat) : Int) := by
  have h : x &&& 4294967295 = x % 4294967296 := Nat.and_two_pow_sub_one_eq_mod x 32
  show IntKind.u64.wrap ((BitVec.ofInt 64 (x : Int) &&& BitVec.ofInt 64 ((4294967295 : Nat) : Int)).toNat : Int) = _
  rw [BitVec.toNat_and, BitVec.ofInt_natCast, BitVec.ofInt_natCast, BitVec.toNat_ofNat, BitVec.toNat_ofNat, Nat.mod_eq_of_lt (by omega), Nat.mod_eq_of_lt (show 4294967295 < 2 ^ 64 by omega), h]
  have : x % 4294967296 < 18446744073709551616 := by omega
  show ((x % 4294967296 : Nat) : Int) % 18446744073709551616 = _
  omega
set_option maxHeartbeats 1000000 in
theorem rp_real (x : Nat) (hx : x < 18446744073709551616) (w : World) : Calls Try.prog 28 #[.float .f64 x] w fun e w' => e = .returned (.string (reS x)) ∧ Below w.heap.size w w' := by
  have HK := Lib.hid fun w => q_kind x hx w
  by_cases h6 : kdV x = 6
  · have hS := re_plain h6 hx
    rw [h6] at hS HK
    exact rp_real6 (x / 4294967296) (x % 4294967296) x _ _ _ _ (by omega) (by omega) (by omega) (and_low x hx) hS (numS7 _ _) (numS7 _ _) (numS7 _ _) HK
      (Lib.hid fun w => ref7_num 6 1 (by omega) (by omega) w) (Lib.hid fun w => ref7_num _ 4 (by omega) (by omega) w) (Lib.hid fun w => ref7_num _ 4 (by omega) (by omega) w) w
  · obtain ⟨k, hk, k1, k6⟩ := kd_nat x
    have hS := re_alone hk k1 k6 (by omega)
    have N1 := Lib.hid fun w => ref7_num (kdV x) 1 (by omega) (by omega) w
    rw [hS] at N1
    generalize kdV x = kk at *
    generalize reS x = s at *
    clear hS hk
    go_enter Try.func28, Try.ntmps28
    go_wp2_with (first
      | (go_at_call 36; refine (HK.out _).mono ?_; rintro e w' ⟨rfl, rfl⟩)
      | (go_at_call 27; refine (N1.out _).mono ?_; rintro e w1 ⟨rfl, b1⟩))
    all_goals go_ret
    all_goals exact ⟨rfl, b1⟩
theorem rp_mark (p : Bool) (k : Int) (w : World) : Calls Try.prog 29 #[.bool p, .int .i64 k] w fun e w' => e = .returned (.int .i64 (if p then k else 0)) ∧ w = w' := by
  cases p
  all_goals
    go_enter Try.func29, Try.ntmps29
    go_wp2
    all_goals go_ret
    all_goals exact ⟨rfl, rfl⟩
theorem tr_or (d r : Bool) : bits .or .i64 (if d then 1 else 0) (if r then 2 else 0) = ((trN d r : Nat) : Int) := by cases d <;> cases r <;> decide +kernel
end Go.Proofs.Yteeiebopfjlffaa
