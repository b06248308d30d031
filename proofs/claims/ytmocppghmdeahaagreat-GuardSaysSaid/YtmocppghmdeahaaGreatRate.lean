/- Contracts of package rate, the document's, and the law package's own. -/
import Derived.Test.YtmocppghmdeahaaGreatDrop
namespace Go.Proofs.YtmocppghmdeahaaGreat
set_option maxRecDepth 100000
open Go.RowKit
set_option linter.unusedVariables false
set_option linter.unusedSimpArgs false

def knB (f : Int) : Bool := decide (f = 10 ∨ f = 15 ∨ f = 20 ∨ f = 60)
def shV (n f : Int) : Int := if knB f = true ∧ 1 ≤ n then 360000000 / (clV n * f) else 0
def shB (n f : Int) : Bool := knB f && decide (1 ≤ n)
def glV (n : Int) : Int := withV n 0 1000 * 1000

theorem kn_of {f : Int} (h : knB f = true) : Kn f := by simpa [knB, Kn] using h
theorem kn_mk {f : Int} (h : Kn f) : knB f = true := by simpa [knB, Kn] using h
theorem kn_not {f : Int} (h : knB f = false) : (f == 10) = false ∧ (f == 15) = false ∧ (f == 20) = false ∧ (f == 60) = false := by
  simp [knB] at h
  simp [h]
theorem ds_knB (f : Int) (w : World) : Calls Tryz.prog 78 #[.int .i64 f] w fun e w' => e = .returned (.bool (knB f)) ∧ w = w' := by
  cases h : knB f
  · obtain ⟨a, b, c, d⟩ := kn_not h
    exact ds_known_not f a b c d w
  · exact ds_known f (kn_of h) w
theorem ref9_known (f : Int) (w : World) : Calls Tryz.prog 91 #[.int .i64 f] w fun e w' => e = .returned (.bool (knB f)) ∧ w = w' := by
  cases h : knB f
  · obtain ⟨a, b, c, d⟩ := kn_not h
    clear h
    go_enter Tryz.func91, Tryz.ntmps91
    go_wp2
    all_goals go_ret
    all_goals exact ⟨rfl, rfl⟩
  · rcases kn_of h with rfl | rfl | rfl | rfl
    all_goals clear h
    all_goals go_enter Tryz.func91, Tryz.ntmps91
    all_goals go_wp2
    all_goals go_ret
    all_goals exact ⟨rfl, rfl⟩

theorem cl_one {n : Int} (h : 1 ≤ n) : 1 ≤ clV n ∧ clV n ≤ 9007199254740992 := by
  unfold clV withV; split <;> (try split) <;> (try split) <;> omega
theorem kn_mul {c f : Int} (hf : Kn f) (c0 : 1 ≤ c) (c1 : c ≤ 9007199254740992) : 10 ≤ c * f ∧ c * f ≤ 540431955284459520 := by
  rcases hf with rfl | rfl | rfl | rfl <;> omega
theorem kn_cl {f : Int} (hf : Kn f) : clV f = f := by rcases hf with rfl | rfl | rfl | rfl <;> decide +kernel
theorem sh_mul {n f : Int} (hf : Kn f) (hn : 1 ≤ n) : 10 ≤ mulV n f ∧ mulV n f ≤ 9007199254740992 ∧ 360000000 / mulV n f = 360000000 / (clV n * f) := by
  obtain ⟨c0, c1⟩ := cl_one hn
  obtain ⟨p0, p1⟩ := kn_mul hf c0 c1
  unfold mulV
  rw [kn_cl hf]
  generalize clV n * f = D at *
  by_cases h : D ≤ 9007199254740992
  · rw [clV_in (by omega)]; exact ⟨p0, h, rfl⟩
  · rw [clV_pos (by omega) (by omega)]
    exact ⟨by omega, by omega, by rw [Int.ediv_eq_zero_of_lt (by omega) (by omega), Int.ediv_eq_zero_of_lt (by omega) (by omega)]⟩

theorem with_bd (n : Int) : 0 ≤ withV n 0 1000 ∧ withV n 0 1000 ≤ 1000 := by unfold withV; split <;> (try split) <;> (try split) <;> omega
theorem rt_goal (n : Int) (w : World) : Calls Tryz.prog 41 #[.int .i64 n] w fun e w' => e = .returned (.int .i64 (glV n)) ∧ w = w' := by
  have ⟨b0, b1⟩ := with_bd n
  unfold glV
  go_enter Tryz.func41, Tryz.ntmps41
  go_wp2_with (first
    | (go_at_call 76; refine (sat_within _ _ _ _).mono ?_; rintro e w' ⟨rfl, rfl⟩))
  all_goals go_ret
  all_goals exact ⟨rfl, rfl⟩
theorem ref_goal (n : Int) (w : World) : Calls Tryz.prog 43 #[.int .i64 n] w fun e w' => e = .returned (.int .i64 (glV n)) ∧ w = w' := by
  have ⟨b0, b1⟩ := with_bd n
  unfold glV
  go_enter Tryz.func43, Tryz.ntmps43
  go_wp2_with (go_at_call 77; refine (ref_within _ _ _ _).mono ?_; rintro e w' ⟨rfl, rfl⟩)
  all_goals go_ret
  all_goals exact ⟨ret_i (by omega), rfl⟩

end Go.Proofs.YtmocppghmdeahaaGreat
