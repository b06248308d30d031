/- Contracts of package total, and of the document's. -/
import Derived.Test.YthfipnccjnekfaaTot
namespace Go.Proofs.Ythfipnccjnekfaa
open Go.RowKit
set_option linter.unusedVariables false
attribute [local go_sem] cell_set_ite Near.cell Near.frozen

def adV (d : Int) : Int := if tdV d + 1 ≤ 9007199254740 then tdV d + 1 else 9007199254740
theorem vo_bd (s d b : Int) : 0 ≤ voV s d b ∧ voV s d b ≤ 99999999 := withK_bd (by omega)

theorem to_drops (s d b : Int) (w : World) : Calls Try.prog 60 #[.agg #[.int .i64 s, .int .i64 d, .int .i64 b]] w fun e w' => e = .returned (.int .i64 (tdV d)) ∧ Below w.heap.size w w' := by
  unfold tdV
  rcases (by omega : d < 0 ∨ (0 ≤ d ∧ d ≤ 9007199254740) ∨ 9007199254740 < d) with h1 | ⟨h1, h2⟩ | h1
  · rw [withK_1 (by omega) h1]
    go_enter Try.func60, Try.ntmps60
    go_wp2
    all_goals go_ret
    all_goals exact ⟨ret_i (by omega), by (repeat (first | (with_reducible exact Below.refl _ _) | (with_reducible assumption) | (with_reducible refine Near.up _ ?_) | (with_reducible refine Below.drew ?_) | (with_reducible refine below_alloc_on ?_ _) | (with_reducible refine below_set_on ?_ (by first | (simp; done) | (simp; omega) | omega) _)))⟩
  · rw [withK_2 h1 h2]
    go_enter Try.func60, Try.ntmps60
    go_wp2
    all_goals go_ret
    all_goals exact ⟨ret_i (by omega), by (repeat (first | (with_reducible exact Below.refl _ _) | (with_reducible assumption) | (with_reducible refine Near.up _ ?_) | (with_reducible refine Below.drew ?_) | (with_reducible refine below_alloc_on ?_ _) | (with_reducible refine below_set_on ?_ (by first | (simp; done) | (simp; omega) | omega) _)))⟩
  · rw [withK_3 (by omega) h1]
    go_enter Try.func60, Try.ntmps60
    go_wp2
    all_goals go_ret
    all_goals exact ⟨ret_i (by omega), by (repeat (first | (with_reducible exact Below.refl _ _) | (with_reducible assumption) | (with_reducible refine Near.up _ ?_) | (with_reducible refine Below.drew ?_) | (with_reducible refine below_alloc_on ?_ _) | (with_reducible refine below_set_on ?_ (by first | (simp; done) | (simp; omega) | omega) _)))⟩
theorem to_base (s d b : Int) (w : World) : Calls Try.prog 62 #[.agg #[.int .i64 s, .int .i64 d, .int .i64 b]] w fun e w' => e = .returned (.int .i64 (tbV b)) ∧ Below w.heap.size w w' := by
  unfold tbV
  rcases (by omega : b < 0 ∨ (0 ≤ b ∧ b ≤ 99999999) ∨ 99999999 < b) with h1 | ⟨h1, h2⟩ | h1
  · rw [withK_1 (by omega) h1]
    go_enter Try.func62, Try.ntmps62
    go_wp2
    all_goals go_ret
    all_goals exact ⟨ret_i (by omega), by (repeat (first | (with_reducible exact Below.refl _ _) | (with_reducible assumption) | (with_reducible refine Near.up _ ?_) | (with_reducible refine Below.drew ?_) | (with_reducible refine below_alloc_on ?_ _) | (with_reducible refine below_set_on ?_ (by first | (simp; done) | (simp; omega) | omega) _)))⟩
  · rw [withK_2 h1 h2]
    go_enter Try.func62, Try.ntmps62
    go_wp2
    all_goals go_ret
    all_goals exact ⟨ret_i (by omega), by (repeat (first | (with_reducible exact Below.refl _ _) | (with_reducible assumption) | (with_reducible refine Near.up _ ?_) | (with_reducible refine Below.drew ?_) | (with_reducible refine below_alloc_on ?_ _) | (with_reducible refine below_set_on ?_ (by first | (simp; done) | (simp; omega) | omega) _)))⟩
  · rw [withK_3 (by omega) h1]
    go_enter Try.func62, Try.ntmps62
    go_wp2
    all_goals go_ret
    all_goals exact ⟨ret_i (by omega), by (repeat (first | (with_reducible exact Below.refl _ _) | (with_reducible assumption) | (with_reducible refine Near.up _ ?_) | (with_reducible refine Below.drew ?_) | (with_reducible refine below_alloc_on ?_ _) | (with_reducible refine below_set_on ?_ (by first | (simp; done) | (simp; omega) | omega) _)))⟩
theorem to_volume (s d b : Int) (w : World) : Calls Try.prog 47 #[.agg #[.int .i64 s, .int .i64 d, .int .i64 b]] w fun e w' => e = .returned (.tuple #[.int .i64 (voV s d b), .bool (voB s d b)]) ∧ Below w.heap.size w w' := by
  have ⟨d0, d1⟩ := td_bd d
  have ⟨b0, b1⟩ := tb_bd b
  have ⟨f0, f1⟩ := fv_bd (d := tdV d) (f := s) d0 d1
  have HD := Lib.hid (fun w => to_drops s d b w)
  have HB := Lib.hid (fun w => to_base s d b w)
  have HV := Lib.hid (fun w => dt_volume w (tdV d) s d0 d1 w (At.refl w))
  unfold voV voB
  have A0 : Below w.heap.size w w := Below.refl _ _
  generalize fvV (tdV d) s = F at *
  generalize tdV d = D at *
  generalize tbV b = B at *
  go_enter Try.func47, Try.ntmps47
  go_wp2
  refine wp_region_calm (by kernel_rfl) (by kernel_rfl) ?_
  repeat (go_big_quiet_step ((first | ((go_at_call 60; exact calm_of _ (HD.out _))) | ((go_at_call 59; exact calm_of _ (HV.out _))))))
  refine wpQuiet_nil ?_
  intro _ hw'
  obtain ⟨u, rfl⟩ := hw'
  have B1 := (box_new w #[.int .i64 s, .int .i64 d, .int .i64 b] 47).near u
  have A1 := u.up (below_alloc_on A0 (.cells #[.int .i64 s, .int .i64 d, .int .i64 b] 47))
  generalize u.at_ = w1 at *
  obtain ⟨c0, c1, c2, cf, cl⟩ := B1.three
  go_wp2_with (first
    | (go_at_call 62; refine (HB.out _).mono ?_; rintro e w' ⟨rfl, hb⟩; have A2 := below_call A1 hb)
    | (go_at_call 61; refine (sat_within _ _ _ _).mono ?_; rintro e w' ⟨rfl, rfl⟩))
  all_goals go_ret2
  all_goals exact ⟨rfl, A2⟩
/-- What the total of another set is. -/
def chS (n : Int) : Int := if knB n = true then n else 0
def chB (s d b n : Int) : Int := if knB n = true then voV s d b else 0
theorem to_reached (s d b ml : Int) (w : World) : Calls Try.prog 32 #[.agg #[.int .i64 s, .int .i64 d, .int .i64 b], .int .i64 ml] w fun e w' => e = .returned (.bool (reB s d b ml)) ∧ Below w.heap.size w w' := by
  have HV := Lib.hid (fun w => to_volume s d b w)
  unfold reB
  have A0 : Below w.heap.size w w := Below.refl _ _
  generalize voV s d b = V at *
  generalize voB s d b = vb at *
  cases vb
  all_goals
    go_enter Try.func32, Try.ntmps32
    go_wp2_with (fail)
    refine (HV.out _).mono ?_
    rintro e w1 ⟨rfl, hb⟩
    have A1 := below_call (below_alloc_on A0 (.cells #[.int .i64 s, .int .i64 d, .int .i64 b] 47)) hb
    clear hb
    go_wp2_with (go_at_call 48; refine (sat_mul _ _ _).mono ?_; rintro e w' ⟨rfl, rfl⟩)
    all_goals go_ret
    all_goals exact ⟨ret_b (by simp), A1⟩
end Go.Proofs.Ythfipnccjnekfaa
