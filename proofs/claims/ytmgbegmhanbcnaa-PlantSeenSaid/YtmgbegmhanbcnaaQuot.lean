/- Contracts of package quot but for MulDiv, and of the document's answers for it. -/
import Derived.Test.YtmgbegmhanbcnaaQMath
import Derived.Test.YtmgbegmhanbcnaaSatLaws
namespace Go.Proofs.Ytmgbegmhanbcnaa
set_option maxRecDepth 100000
open Go.RowKit
set_option linter.unusedVariables false
set_option linter.unusedSimpArgs false

theorem quot_counted (n : Int) (w : World) :
    Calls Try.prog 48 #[.int .i64 n] w fun e w' => e = .returned (.int .i64 (clV n)) ∧ w = w' := by
  go_enter Try.func48, Try.ntmps48
  go_wp2_with (first
    | (go_at_call 47; refine (sat_clamp _ _).mono ?_; rintro e w' ⟨rfl, rfl⟩))
  go_ret
  exact ⟨rfl, rfl⟩

theorem quot_down (x y : Int) (hy : y ≠ 0) (h0 : -36028797018963968 ≤ x) (h1 : x ≤ 36028797018963968) (w : World) :
    Calls Try.prog 49 #[.int .i64 x, .int .i64 y] w fun e w' => e = .returned (.int .i64 (flo x y)) ∧ ∃ n, w' = w.drewN n := by
  have hb := tdiv_bd x y
  have hw : IntKind.i64.wrap (x.tdiv y) = x.tdiv y := IntWalk.i64_in _ (by omega)
  have hz0 : (y == 0) = false := by simpa using hy
  by_cases hr : x.tmod y = 0
  · have HE := Lib.hid (flo_same hy (.inl hr))
    have hr0 : (x.tmod y != 0) = false := by simpa using hr
    clear hr
    go_enter Try.func49, Try.ntmps49
    go_wp2
    go_quiet (fail)
    go_wp2
    go_ret
    exact ⟨ret_i HE.out.symm, _, rfl⟩
  · have hr0 : (x.tmod y != 0) = true := by simpa using hr
    by_cases hs : (x.tmod y < 0 ↔ y < 0)
    · have HE := Lib.hid (flo_same hy (.inr hs))
      by_cases ht : y < 0
      · have d1 : decide (x.tmod y < 0) = true := by simpa [ht] using hs
        have d2 : decide (y < 0) = true := by simpa using ht
        clear hr hs ht
        go_enter Try.func49, Try.ntmps49
        go_wp2
        go_quiet (fail)
        go_wp2
        go_ret
        exact ⟨ret_i HE.out.symm, _, rfl⟩
      · have d1 : decide (x.tmod y < 0) = false := by simpa [ht] using hs
        have d2 : decide (y < 0) = false := by simpa using ht
        clear hr hs ht
        go_enter Try.func49, Try.ntmps49
        go_wp2
        go_quiet (fail)
        go_wp2
        go_ret
        exact ⟨ret_i HE.out.symm, _, rfl⟩
    · have HE := Lib.hid (flo_less hy hr hs)
      by_cases ht : y < 0
      · have d1 : decide (x.tmod y < 0) = false := by simpa [ht] using hs
        have d2 : decide (y < 0) = true := by simpa using ht
        clear hr hs ht
        go_enter Try.func49, Try.ntmps49
        go_wp2
        go_quiet (fail)
        go_wp2
        go_ret
        exact ⟨ret_i HE.out.symm, _, rfl⟩
      · have d1 : decide (x.tmod y < 0) = true := by simpa [ht] using hs
        have d2 : decide (y < 0) = false := by simpa using ht
        clear hr hs ht
        go_enter Try.func49, Try.ntmps49
        go_wp2
        go_quiet (fail)
        go_wp2
        go_ret
        exact ⟨ret_i HE.out.symm, _, rfl⟩

theorem nzB_t {b : Int} (h : clV b = 0) : nzB b = false := by simp [nzB, h]
theorem nzB_f {b : Int} (h : ¬ clV b = 0) : nzB b = true := by simp [nzB, h]

theorem quot_floor (a b : Int) (w : World) :
    Calls Try.prog 42 #[.int .i64 a, .int .i64 b] w fun e w' => e = .returned (.tuple #[.int .i64 (flV a b), .bool (nzB b)]) ∧ ∃ n, w' = w.drewN n := by
  have ⟨ha0, ha1⟩ := clV_bd a
  have ⟨hb0, hb1⟩ := clV_bd b
  by_cases h : clV b = 0
  · have HV := Lib.hid (show flV a b = 0 by simp [flV, h])
    have HB := Lib.hid (nzB_t h)
    go_enter Try.func42, Try.ntmps42
    go_wp2_with (first
    | (go_at_call 48; refine (quot_counted _ _).mono ?_; rintro e w' ⟨rfl, rfl⟩))
    go_ret2
    exact ⟨ret_ib HV.out.symm HB.out.symm, 0, rfl⟩
  · have HV := Lib.hid (show flV a b = flo (clV a) (clV b) by simp [flV, h])
    have HB := Lib.hid (nzB_f h)
    have hz0 : (clV b == 0) = false := by simpa using h
    go_enter Try.func42, Try.ntmps42
    go_wp2_with (first
      | (first
    | (go_at_call 48; refine (quot_counted _ _).mono ?_; rintro e w' ⟨rfl, rfl⟩))
      | (go_at_call 49; refine (quot_down _ _ h (by omega) (by omega) _).mono ?_; rintro e w' ⟨rfl, n, rfl⟩))
    go_ret2
    exact ⟨ret_ib HV.out.symm HB.out.symm, _, rfl⟩

theorem mul_back {x y : Int} (hy : y ≠ 0) : (flo x y * y).natAbs ≤ x.natAbs + y.natAbs := by
  obtain ⟨m, a, b, c⟩ := flo_spec x hy
  by_cases h : 0 < y
  · have := b h; omega
  · have := c (by omega); omega

/-! ### The document's answers. -/
theorem ref2_down (x y : Int) (hy : 0 < y) (h0 : -36028797018963968 ≤ x) (h1 : x ≤ 36028797018963968) (w : World) :
    Calls Try.prog 52 #[.int .i64 x, .int .i64 y] w fun e w' => e = .returned (.int .i64 (flo x y)) ∧ w = w' := by
  have hb := tdiv_bd x y
  have hz0 : (y == 0) = false := by simpa using (show y ≠ 0 by omega)
  by_cases hr : x.tmod y < 0
  · have HE := Lib.hid (flo_less (x := x) (show y ≠ 0 by omega) (by omega) (by omega))
    go_enter Try.func52, Try.ntmps52
    go_wp2
    go_ret
    exact ⟨ret_i HE.out.symm, rfl⟩
  · have HE := Lib.hid (flo_same (x := x) (show y ≠ 0 by omega) (by omega))
    go_enter Try.func52, Try.ntmps52
    go_wp2
    go_ret
    exact ⟨ret_i HE.out.symm, rfl⟩

theorem ref2_both_neg (a b : Int) (h : clV b < 0) (w : World) :
    Calls Try.prog 51 #[.int .i64 a, .int .i64 b] w fun e w' => e = .returned (.tuple #[.int .i64 (-clV a), .int .i64 (-clV b)]) ∧ w = w' := by
  have ⟨ha0, ha1⟩ := clV_bd a
  have ⟨hb0, hb1⟩ := clV_bd b
  go_enter Try.func51, Try.ntmps51
  go_wp2_with (first
    | (go_at_call 50; refine (ref_clamp _ _).mono ?_; rintro e w' ⟨rfl, rfl⟩))
  go_ret2
  exact ⟨rfl, rfl⟩

theorem ref2_both_pos (a b : Int) (h : ¬ clV b < 0) (w : World) :
    Calls Try.prog 51 #[.int .i64 a, .int .i64 b] w fun e w' => e = .returned (.tuple #[.int .i64 (clV a), .int .i64 (clV b)]) ∧ w = w' := by
  have ⟨ha0, ha1⟩ := clV_bd a
  have ⟨hb0, hb1⟩ := clV_bd b
  go_enter Try.func51, Try.ntmps51
  go_wp2_with (first
    | (go_at_call 50; refine (ref_clamp _ _).mono ?_; rintro e w' ⟨rfl, rfl⟩))
  go_ret2
  exact ⟨rfl, rfl⟩

theorem ref2_floor (a b : Int) (w : World) :
    Calls Try.prog 45 #[.int .i64 a, .int .i64 b] w fun e w' => e = .returned (.tuple #[.int .i64 (flV a b), .bool (nzB b)]) ∧ w = w' := by
  have ⟨ha0, ha1⟩ := clV_bd a
  have ⟨hb0, hb1⟩ := clV_bd b
  by_cases hn : clV b < 0
  · have HV := Lib.hid (show flV a b = flo (-clV a) (-clV b) by rw [flo_neg (by omega)]; simp [flV, show clV b ≠ 0 by omega])
    have HB := Lib.hid (nzB_f (show ¬ clV b = 0 by omega))
    have hz0 : (-clV b == 0) = false := by simpa using (show -clV b ≠ 0 by omega)
    go_enter Try.func45, Try.ntmps45
    go_wp2_with (first
      | (go_at_call 51; refine (ref2_both_neg _ _ hn _).mono ?_; rintro e w' ⟨rfl, rfl⟩)
      | (go_at_call 52; refine (ref2_down _ _ (by omega) (by omega) (by omega) _).mono ?_; rintro e w' ⟨rfl, rfl⟩))
    go_ret2
    exact ⟨ret_ib HV.out.symm HB.out.symm, rfl⟩
  · by_cases h : clV b = 0
    · have HV := Lib.hid (show flV a b = 0 by simp [flV, h])
      have HB := Lib.hid (nzB_t h)
      go_enter Try.func45, Try.ntmps45
      go_wp2_with (first
        | (go_at_call 51; refine (ref2_both_pos _ _ hn _).mono ?_; rintro e w' ⟨rfl, rfl⟩)
        | (go_at_call 52; refine (ref2_down _ _ (by omega) (by omega) (by omega) _).mono ?_; rintro e w' ⟨rfl, rfl⟩))
      go_ret2
      exact ⟨ret_ib HV.out.symm HB.out.symm, rfl⟩
    · have HV := Lib.hid (show flV a b = flo (clV a) (clV b) by simp [flV, h])
      have HB := Lib.hid (nzB_f h)
      have hz0 : (clV b == 0) = false := by simpa using h
      go_enter Try.func45, Try.ntmps45
      go_wp2_with (first
        | (go_at_call 51; refine (ref2_both_pos _ _ hn _).mono ?_; rintro e w' ⟨rfl, rfl⟩)
        | (go_at_call 52; refine (ref2_down _ _ (by omega) (by omega) (by omega) _).mono ?_; rintro e w' ⟨rfl, rfl⟩))
      go_ret2
      exact ⟨ret_ib HV.out.symm HB.out.symm, rfl⟩

end Go.Proofs.Ytmgbegmhanbcnaa
