/- Contracts: plain, number; the reals that are told alone. -/
import Derived.Test.YteeiebopfjlffaaWireS
import Derived.Test.YteeiebopfjlffaaTake
import Derived.Test.YteeiebopfjlffaaBox
namespace Go.Proofs.Yteeiebopfjlffaa
set_option maxRecDepth 100000
open Go.RowKit Ieee
set_option linter.unusedVariables false
set_option linter.unusedSimpArgs false
attribute [local go_sem] o_eql o_neq o_lss o_gtr

theorem run_from (x : Int) (w : World) : (callFunc 53 #[.int .u64 x]).run Try.prog w = .ok (.value (.float .f64 x.toNat)) w := by
  rw [run_callFunc_extern Try.func53 (by kernel_rfl) (by kernel_rfl) (by kernel_rfl) (e := Extern.MathFloatBits.float64frombits) (by kernel_rfl)]
  rfl
theorem wi_nan (w : World) : Calls Try.prog 50 #[] w fun e w' => e = .returned (.float .f64 NANW) ∧ w = w' := by
  have hd : ∀ w, (callFunc 53 #[.int .u64 9221120237041090561]).run Try.prog w = .ok (.value (.float .f64 NANW)) w := fun w => run_from 9221120237041090561 w
  go_enter Try.func50, Try.ntmps50
  go_wp2
  all_goals go_ret
  all_goals exact ⟨rfl, rfl⟩
theorem wi_inf_up (w : World) : Calls Try.prog 51 #[.int .i64 1] w fun e w' => e = .returned (.float .f64 9218868437227405312) ∧ w = w' := by
  have hd : ∀ w, (callFunc 53 #[.int .u64 9218868437227405312]).run Try.prog w = .ok (.value (.float .f64 9218868437227405312)) w := fun w => run_from 9218868437227405312 w
  go_enter Try.func51, Try.ntmps51
  go_wp2
  all_goals go_ret
  all_goals exact ⟨rfl, rfl⟩
theorem wi_inf_down (w : World) : Calls Try.prog 51 #[.int .i64 (-1)] w fun e w' => e = .returned (.float .f64 18442240474082181120) ∧ w = w' := by
  have hd : ∀ w, (callFunc 53 #[.int .u64 18442240474082181120]).run Try.prog w = .ok (.value (.float .f64 18442240474082181120)) w := fun w => run_from 18442240474082181120 w
  go_enter Try.func51, Try.ntmps51
  go_wp2
  all_goals go_ret
  all_goals exact ⟨rfl, rfl⟩
theorem wi_copy (w : World) : Calls Try.prog 52 #[.float .f64 0, .float .f64 13830554455654793216] w fun e w' => e = .returned (.float .f64 9223372036854775808) ∧ w = w' := by
  have hd : ∀ w, (callFunc 53 #[.int .u64 9223372036854775808]).run Try.prog w = .ok (.value (.float .f64 9223372036854775808)) w := fun w => run_from 9223372036854775808 w
  have h1 : ∀ w, (callFunc 41 #[.float .f64 0]).run Try.prog w = .ok (.value (.int .u64 0)) w := fun w => run_bits 0 w
  have h2 : ∀ w, (callFunc 41 #[.float .f64 13830554455654793216]).run Try.prog w = .ok (.value (.int .u64 13830554455654793216)) w := fun w => run_bits 13830554455654793216 w
  have b1 : bits .andNot .u64 0 9223372036854775808 = 0 := by decide +kernel
  have b2 : bits .and .u64 13830554455654793216 9223372036854775808 = 9223372036854775808 := by decide +kernel
  have b3 : bits .or .u64 0 9223372036854775808 = 9223372036854775808 := by decide +kernel
  go_enter Try.func52, Try.ntmps52
  go_wp2
  all_goals go_ret
  all_goals exact ⟨rfl, rfl⟩

theorem ge_least (x : Nat) : (ltF 18442240474082181119 x || eqF x 18442240474082181119) = (!nanB x && !ltF x 18442240474082181119) := by
  unfold ltF eqF
  have hn : nanB 18442240474082181119 = false := by decide +kernel
  rw [hn]
  cases nanB x
  · simp
    by_cases h : V x < V 18442240474082181119
    · simp [h]; omega
    · simp [h]; omega
  · simp
theorem le_most (x : Nat) : (ltF x 9218868437227405311 || eqF x 9218868437227405311) = (!nanB x && !ltF 9218868437227405311 x) := by
  unfold ltF eqF
  have hn : nanB 9218868437227405311 = false := by decide +kernel
  rw [hn]
  cases nanB x
  · simp
    by_cases h : V 9218868437227405311 < V x
    · simp [h]; omega
    · simp [h]; omega
  · simp
theorem plain_is (x : Nat) : ((ltF 18442240474082181119 x || eqF x 18442240474082181119) && (ltF x 9218868437227405311 || eqF x 9218868437227405311) && !eqF x 0) = decide (kdV x = 6) := by
  rw [ge_least, le_most]
  rcases kinds x with ⟨h1, hk⟩ | ⟨h1, h2, h3, h4, hk⟩ | ⟨h1, h2, h3, h4, h5, hk⟩ | ⟨h1, h2, h3, h4, h5, h6, hk⟩ | ⟨h1, h2, h3, h4, h5, h6, hk⟩ | ⟨h1, h2, h3, h4, h5, h6, hk⟩
  all_goals simp [*]
theorem wi_plain (x : Nat) (hx : x < 18446744073709551616) (w : World) : Calls Try.prog 48 #[.float .f64 x] w fun e w' => e = .returned (.bool (decide (kdV x = 6))) ∧ w = w' := by
  have HP := Lib.hid (plain_is x)
  go_enter Try.func48, Try.ntmps48
  go_wp2
  all_goals go_ret
  all_goals refine ⟨ret_b ?_, rfl⟩
  all_goals rw [← HP.out]
  all_goals simp_all

def reS (x : Nat) : ByteArray := ⟨(reL x).toArray⟩
theorem app_bytes (a b : List UInt8) : (⟨a.toArray⟩ : ByteArray) ++ ⟨b.toArray⟩ = ⟨(a ++ b).toArray⟩ := by
  apply ByteArray.ext
  rw [ByteArray.data_append]
  simp
theorem numS_is (N W : Nat) (w1 : 1 ≤ W) (w7 : W ≤ 7) (h : N < 256 ^ W) : numS (N : Int) (W : Int) = ⟨(numL N W).toArray⟩ := by
  have hB : numB (N : Int) (W : Int) = true := by unfold numB; simp only [decide_eq_true_eq, Int.toNat_natCast]; omega
  unfold numS; rw [hB, if_pos rfl]; rfl
theorem kd_nat (x : Nat) : ∃ k : Nat, kdV x = (k : Int) ∧ 1 ≤ k ∧ k ≤ 6 := by
  unfold kdV
  split
  · exact ⟨1, rfl, by omega, by omega⟩
  split
  · split
    · exact ⟨2, rfl, by omega, by omega⟩
    · exact ⟨3, rfl, by omega, by omega⟩
  split
  · split
    · exact ⟨4, rfl, by omega, by omega⟩
    · exact ⟨5, rfl, by omega, by omega⟩
  · exact ⟨6, rfl, by omega, by omega⟩
theorem re_alone {x k : Nat} (hk : kdV x = (k : Int)) (h1 : 1 ≤ k) (h2 : k ≤ 6) (h6 : k ≠ 6) : numS (kdV x) 1 = reS x := by
  rw [hk]
  rw [show (1 : Int) = ((1 : Nat) : Int) from rfl, numS_is k 1 (by omega) (by omega) (by omega), num_one]
  unfold reS reL
  rw [hk, if_neg (by omega)]
  rfl
theorem re_plain {x : Nat} (hk : kdV x = 6) (hx : x < 18446744073709551616) : numS (kdV x) 1 ++ numS ((x / 4294967296 : Nat) : Int) 4 ++ numS ((x % 4294967296 : Nat) : Int) 4 = reS x := by
  rw [hk, show (6 : Int) = ((6 : Nat) : Int) from rfl, show (1 : Int) = ((1 : Nat) : Int) from rfl, show (4 : Int) = ((4 : Nat) : Int) from rfl, numS_is 6 1 (by omega) (by omega) (by omega), num_one,
    numS_is _ 4 (by omega) (by omega) (show x / 4294967296 < 256 ^ 4 by omega), numS_is _ 4 (by omega) (by omega) (show x % 4294967296 < 256 ^ 4 by omega), app_bytes, app_bytes]
  unfold reS reL
  rw [hk, if_pos rfl]
  simp
theorem wi_num6 (H L : Nat) (x : Nat) (s1 s2 s3 s : ByteArray) (l1 : H < 4294967296) (l2 : L < 4294967296) (hi : (x : Int) / 4294967296 = (H : Int)) (lo : (x : Int) % 4294967296 = (L : Int)) (hS : s1 ++ s2 ++ s3 = s) (z1 : s1.size ≤ 7) (z2 : s2.size ≤ 7) (z3 : s3.size ≤ 7)
    (HK : Hid (∀ w, Calls Try.prog 47 #[.float .f64 x] w fun e w' => e = .returned (.int .i64 6) ∧ w = w'))
    (HP : Hid (∀ w, Calls Try.prog 48 #[.float .f64 x] w fun e w' => e = .returned (.bool true) ∧ w = w'))
    (N1 : Hid (∀ w, Calls Try.prog 24 #[.int .i64 6, .int .i64 1] w fun e w' => e = .returned (.string s1) ∧ Below w.heap.size w w'))
    (N2 : Hid (∀ w, Calls Try.prog 24 #[.int .i64 H, .int .i64 4] w fun e w' => e = .returned (.string s2) ∧ Below w.heap.size w w'))
    (N3 : Hid (∀ w, Calls Try.prog 24 #[.int .i64 L, .int .i64 4] w fun e w' => e = .returned (.string s3) ∧ Below w.heap.size w w'))
    (w : World) : Calls Try.prog 37 #[.float .f64 x] w fun e w' => e = .returned (.string s) ∧ Below w.heap.size w w' := by
  have hd := fun w => run_bits x w
  have HS := Lib.hid hS
  clear hS
  go_enter Try.func37, Try.ntmps37
  have HI := Lib.hid hi
  have LO := Lib.hid lo
  have L1 := Lib.hid l1
  have L2 := Lib.hid l2
  clear hi lo l1 l2
  go_wp2_with (first
    | (go_at_call 47; refine (HK.out _).mono ?_; rintro e w' ⟨rfl, rfl⟩)
    | (go_at_call 48; refine (HP.out _).mono ?_; rintro e w' ⟨rfl, rfl⟩)
)
  refine (N1.out _).mono ?_
  rintro e w1 ⟨rfl, b1⟩
  go_wp2_with (go_at_call 48; refine (HP.out _).mono ?_; rintro e w' ⟨rfl, rfl⟩)
  rw [show wrap64 ((x : Int) / 4294967296) = (H : Int) from by rw [HI.out]; have := L1.out; unfold wrap64; omega]
  refine (N2.out _).mono ?_
  rintro e w2 ⟨rfl, b2⟩
  go_wp2_with (fail)
  rw [LO.out]
  refine (N3.out _).mono ?_
  rintro e w3 ⟨rfl, b3⟩
  go_wp2_with (fail)
  all_goals go_ret
  all_goals exact ⟨by rw [← HS.out]; rfl, below_call b1 (below_call b2 b3)⟩
theorem numS7 (n w : Int) : (numS n w).size ≤ 7 := by
  rw [numS_size]
  split
  · rename_i h
    unfold numB at h
    simp only [decide_eq_true_eq] at h
    omega
  · omega
set_option maxHeartbeats 1000000 in
theorem wi_number (x : Nat) (hx : x < 18446744073709551616) (w : World) : Calls Try.prog 37 #[.float .f64 x] w fun e w' => e = .returned (.string (reS x)) ∧ Below w.heap.size w w' := by
  have HK := Lib.hid fun w => r_kind x hx w
  have HP := Lib.hid fun w => wi_plain x hx w
  by_cases h6 : kdV x = 6
  · have hS := re_plain h6 hx
    rw [h6] at hS HK
    rw [decide_eq_true h6] at HP
    exact wi_num6 (x / 4294967296) (x % 4294967296) x _ _ _ _ (by omega) (by omega) (by omega) (by omega) hS (numS7 _ _) (numS7 _ _) (numS7 _ _) HK HP
      (Lib.hid fun w => code_num 6 1 (by omega) (by omega) w) (Lib.hid fun w => code_num _ 4 (by omega) (by omega) w) (Lib.hid fun w => code_num _ 4 (by omega) (by omega) w) w
  · obtain ⟨k, hk, k1, k6⟩ := kd_nat x
    have hS := re_alone hk k1 k6 (by omega)
    have N1 := Lib.hid fun w => code_num (kdV x) 1 (by omega) (by omega) w
    rw [decide_eq_false h6] at HP
    rw [hS] at N1
    generalize kdV x = kk at *
    generalize reS x = s at *
    clear hS hk h6
    go_enter Try.func37, Try.ntmps37
    go_wp2_with (first
      | (go_at_call 47; refine (HK.out _).mono ?_; rintro e w' ⟨rfl, rfl⟩)
      | (go_at_call 48; refine (HP.out _).mono ?_; rintro e w' ⟨rfl, rfl⟩)
      | (go_at_call 24; refine (N1.out _).mono ?_; rintro e w1 ⟨rfl, b1⟩))
    all_goals go_ret
    all_goals exact ⟨rfl, b1⟩
end Go.Proofs.Yteeiebopfjlffaa
