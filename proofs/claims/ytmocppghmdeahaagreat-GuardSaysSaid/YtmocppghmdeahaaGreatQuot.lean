/- Contracts of package quot but for MulDiv, and of the document's answers for it. -/
import Derived.Test.YtmocppghmdeahaaGreatQMath
import Derived.Test.YtmocppghmdeahaaGreatSatLaws
namespace Go.Proofs.YtmocppghmdeahaaGreat
set_option maxRecDepth 100000
open Go.RowKit
set_option linter.unusedVariables false
set_option linter.unusedSimpArgs false

theorem quot_counted (n : Int) (w : World) :
    Calls Tryz.prog 79 #[.int .i64 n] w fun e w' => e = .returned (.int .i64 (clV n)) ∧ w = w' := by
  go_enter Tryz.func79, Tryz.ntmps79
  go_wp2_with (first
    | (go_at_call 82; refine (sat_clamp _ _).mono ?_; rintro e w' ⟨rfl, rfl⟩))
  go_ret
  exact ⟨rfl, rfl⟩

theorem quot_down (x y : Int) (hy : y ≠ 0) (h0 : -36028797018963968 ≤ x) (h1 : x ≤ 36028797018963968) (w : World) :
    Calls Tryz.prog 108 #[.int .i64 x, .int .i64 y] w fun e w' => e = .returned (.int .i64 (flo x y)) ∧ ∃ n, w' = w.drewN n := by
  have hb := tdiv_bd x y
  have hw : IntKind.i64.wrap (x.tdiv y) = x.tdiv y := IntWalk.i64_in _ (by omega)
  have hz0 : (y == 0) = false := by simpa using hy
  by_cases hr : x.tmod y = 0
  · have HE := Lib.hid (flo_same hy (.inl hr))
    have hr0 : (x.tmod y != 0) = false := by simpa using hr
    clear hr
    go_enter Tryz.func108, Tryz.ntmps108
    go_wp2
    go_quiet (fail)
    go_wp2
    go_ret
    exact ⟨ret_i HE.out.symm, _, rfl⟩
  · have hr0 : (x.tmod y != 0) = true := by simpa using hr
    by_cases hs : (x.tmod y < 0 ↔ y < 0)
    · have HE := Lib.hid (flo_same hy (.inr hs))
      by_cases ht : y < 0
      · have d1 : decide (x.tmod y < 0) = true := by simpa [ht] using hs
        have d2 : decide (y < 0) = true := by simpa using ht
        clear hr hs ht
        go_enter Tryz.func108, Tryz.ntmps108
        go_wp2
        go_quiet (fail)
        go_wp2
        go_ret
        exact ⟨ret_i HE.out.symm, _, rfl⟩
      · have d1 : decide (x.tmod y < 0) = false := by simpa [ht] using hs
        have d2 : decide (y < 0) = false := by simpa using ht
        clear hr hs ht
        go_enter Tryz.func108, Tryz.ntmps108
        go_wp2
        go_quiet (fail)
        go_wp2
        go_ret
        exact ⟨ret_i HE.out.symm, _, rfl⟩
    · have HE := Lib.hid (flo_less hy hr hs)
      by_cases ht : y < 0
      · have d1 : decide (x.tmod y < 0) = false := by simpa [ht] using hs
        have d2 : decide (y < 0) = true := by simpa using ht
        clear hr hs ht
        go_enter Tryz.func108, Tryz.ntmps108
        go_wp2
        go_quiet (fail)
        go_wp2
        go_ret
        exact ⟨ret_i HE.out.symm, _, rfl⟩
      · have d1 : decide (x.tmod y < 0) = true := by simpa [ht] using hs
        have d2 : decide (y < 0) = false := by simpa using ht
        clear hr hs ht
        go_enter Tryz.func108, Tryz.ntmps108
        go_wp2
        go_quiet (fail)
        go_wp2
        go_ret
        exact ⟨ret_i HE.out.symm, _, rfl⟩

theorem nzB_t {b : Int} (h : clV b = 0) : nzB b = false := by simp [nzB, h]
theorem nzB_f {b : Int} (h : ¬ clV b = 0) : nzB b = true := by simp [nzB, h]

theorem quot_floor (a b : Int) (w : World) :
    Calls Tryz.prog 103 #[.int .i64 a, .int .i64 b] w fun e w' => e = .returned (.tuple #[.int .i64 (flV a b), .bool (nzB b)]) ∧ ∃ n, w' = w.drewN n := by
  have ⟨ha0, ha1⟩ := clV_bd a
  have ⟨hb0, hb1⟩ := clV_bd b
  by_cases h : clV b = 0
  · have HV := Lib.hid (show flV a b = 0 by simp [flV, h])
    have HB := Lib.hid (nzB_t h)
    go_enter Tryz.func103, Tryz.ntmps103
    go_wp2_with (first
    | (go_at_call 79; refine (quot_counted _ _).mono ?_; rintro e w' ⟨rfl, rfl⟩))
    go_ret2
    exact ⟨ret_ib HV.out.symm HB.out.symm, 0, rfl⟩
  · have HV := Lib.hid (show flV a b = flo (clV a) (clV b) by simp [flV, h])
    have HB := Lib.hid (nzB_f h)
    have hz0 : (clV b == 0) = false := by simpa using h
    go_enter Tryz.func103, Tryz.ntmps103
    go_wp2_with (first
      | (first
    | (go_at_call 79; refine (quot_counted _ _).mono ?_; rintro e w' ⟨rfl, rfl⟩))
      | (go_at_call 108; refine (quot_down _ _ h (by omega) (by omega) _).mono ?_; rintro e w' ⟨rfl, n, rfl⟩))
    go_ret2
    exact ⟨ret_ib HV.out.symm HB.out.symm, _, rfl⟩

theorem mul_back {x y : Int} (hy : y ≠ 0) : (flo x y * y).natAbs ≤ x.natAbs + y.natAbs := by
  obtain ⟨m, a, b, c⟩ := flo_spec x hy
  by_cases h : 0 < y
  · have := b h; omega
  · have := c (by omega); omega

/-! ### The document's answers. -/
end Go.Proofs.YtmocppghmdeahaaGreat
