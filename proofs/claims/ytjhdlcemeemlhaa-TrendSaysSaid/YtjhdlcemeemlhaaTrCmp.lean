/- cmp.Compare of two numbers, and of two minutes by their place. -/
import Derived.Test.YtjhdlcemeemlhaaTrN
import Derived.Sort.Grow
import Derived.Shelf.GgSortFunc.RowK
namespace Go.Proofs.Ytjhdlcemeemlhaa
open Go.RowKit Go.Sort
set_option linter.unusedVariables false
set_option linter.unusedSimpArgs false
set_option maxRecDepth 100000
attribute [local go_sem] cell_set_ite

def cmV (x y : Int) : Int := if x < y then -1 else if y < x then 1 else 0
theorem cm_nan (x : Int) (w : World) : Calls Try.prog 24 #[.int .i64 x] w fun e w' => e = .returned (.bool false) ∧ w' = w := by
  go_enter Try.func24, Try.ntmps24
  go_wp2_with (fail)
  all_goals go_ret
  all_goals exact ⟨rfl, rfl⟩
set_option maxHeartbeats 2000000 in
theorem cm_int (x y : Int) (w : World) : Calls Try.prog 20 #[.int .i64 x, .int .i64 y] w fun e w' => e = .returned (.int .i64 (cmV x y)) ∧ w' = w := by
  have K1 := Lib.hid fun w => cm_nan x w
  have K2 := Lib.hid fun w => cm_nan y w
  have HV : cmV x y = if x < y then -1 else if y < x then 1 else 0 := rfl
  have HH := Lib.hid HV
  generalize cmV x y = r at *
  clear HV
  go_enter Try.func20, Try.ntmps20
  go_wp2_with (fail)
  refine (K1.out _).mono ?_
  rintro e w1 ⟨rfl, rfl⟩
  go_wp2_with (fail)
  refine (K2.out _).mono ?_
  rintro e w2 ⟨rfl, rfl⟩
  by_cases h1 : x < y
  · have e := HH.out
    rw [if_pos h1] at e
    subst e
    clear HH
    go_wp2_with (fail)
    all_goals try omega
    all_goals go_ret
    all_goals exact ⟨rfl, rfl⟩
  · by_cases h2 : y < x
    · have e := HH.out
      rw [if_neg h1, if_pos h2] at e
      subst e
      clear HH
      go_wp2_with (fail)
      all_goals try omega
      all_goals go_ret
      all_goals exact ⟨rfl, rfl⟩
    · have e := HH.out
      rw [if_neg h1, if_neg h2] at e
      subst e
      clear HH
      go_wp2_with (fail)
      all_goals try omega
      all_goals go_ret
      all_goals exact ⟨rfl, rfl⟩
set_option maxHeartbeats 2000000 in
/-- The closure: by the place at which they were first told of. -/
theorem tr_by (x y : Mi) (W : World) : Calls Try.prog 19 #[.agg (miC x).toArray, .agg (miC y).toArray] W fun e w' => e = .returned (.int .i64 (cmV x.first y.first)) ∧ ∃ q os', w' = grow (W.drewN q) os' := by
  have K := Lib.hid fun w => cm_int x.first y.first w
  obtain ⟨⟨x0, x1, x2, x3, x4, x5, x6⟩, xf⟩ := x
  obtain ⟨⟨y0, y1, y2, y3, y4, y5, y6⟩, yf⟩ := y
  simp only at K ⊢
  generalize cmV xf yf = r at *
  unfold miC
  go_enter Try.func19, Try.ntmps19
  go_wp2_with (fail)
  refine (K.out _).mono ?_
  rintro e w1 ⟨rfl, rfl⟩
  go_wp2_with (fail)
  all_goals go_ret
  all_goals exact ⟨rfl, 0, _, by rw [alloc_eq_grow, alloc_eq_grow, grow_grow]; rfl⟩
end Go.Proofs.Ytjhdlcemeemlhaa
