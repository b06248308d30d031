/- Contracts of package rate, the document's, and the law package's own. -/
import Derived.Test.YtkmhkhmifecbdaaDrop
namespace Go.Proofs.Ytkmhkhmifecbdaa
set_option maxRecDepth 100000
open Go.RowKit
set_option linter.unusedVariables false
set_option linter.unusedSimpArgs false

def knB (f : Int) : Bool := decide (f = 10 ∨ f = 15 ∨ f = 20 ∨ f = 60)
def shV (n f : Int) : Int := if knB f = true ∧ 1 ≤ n then 360000000 / (clV n * f) else 0
def shB (n f : Int) : Bool := knB f && decide (1 ≤ n)
def glV (n : Int) : Int := withV n 0 1000 * 1000

theorem kn_of {f : Int} (h : knB f = true) : Kn f := by simpa [knB, Kn] using h
theorem kn_mk {f : Int} (h : Kn f) : knB f = true := by simpa [knB, Kn] using h
theorem kn_not {f : Int} (h : knB f = false) : (f == 10) = false ∧ (f == 15) = false ∧ (f == 20) = false ∧ (f == 60) = false := by
  simp [knB] at h
  simp [h]
theorem ds_knB (f : Int) (w : World) : Calls Try.prog 36 #[.int .i64 f] w fun e w' => e = .returned (.bool (knB f)) ∧ w = w' := by
  cases h : knB f
  · obtain ⟨a, b, c, d⟩ := kn_not h
    exact ds_known_not f a b c d w
  · exact ds_known f (kn_of h) w
theorem ref9_known (f : Int) (w : World) : Calls Try.prog 28 #[.int .i64 f] w fun e w' => e = .returned (.bool (knB f)) ∧ w = w' := by
  cases h : knB f
  · obtain ⟨a, b, c, d⟩ := kn_not h
    clear h
    go_enter Try.func28, Try.ntmps28
    go_wp2
    all_goals go_ret
    all_goals exact ⟨rfl, rfl⟩
  · rcases kn_of h with rfl | rfl | rfl | rfl
    all_goals clear h
    all_goals go_enter Try.func28, Try.ntmps28
    all_goals go_wp2
    all_goals go_ret
    all_goals exact ⟨rfl, rfl⟩

theorem cl_one {n : Int} (h : 1 ≤ n) : 1 ≤ clV n ∧ clV n ≤ 9007199254740992 := by
  unfold clV withV; split <;> (try split) <;> (try split) <;> omega
theorem kn_mul {c f : Int} (hf : Kn f) (c0 : 1 ≤ c) (c1 : c ≤ 9007199254740992) : 10 ≤ c * f ∧ c * f ≤ 540431955284459520 := by
  rcases hf with rfl | rfl | rfl | rfl <;> omega
theorem kn_cl {f : Int} (hf : Kn f) : clV f = f := by rcases hf with rfl | rfl | rfl | rfl <;> decide +kernel
theorem sh_mul {n f : Int} (hf : Kn f) (hn : 1 ≤ n) : 10 ≤ mulV n f ∧ mulV n f ≤ 9007199254740992 ∧ 360000000 / mulV n f = 360000000 / (clV n * f) := by
  obtain ⟨c0, c1⟩ := cl_one hn
  obtain ⟨p0, p1⟩ := kn_mul hf c0 c1
  unfold mulV
  rw [kn_cl hf]
  generalize clV n * f = D at *
  by_cases h : D ≤ 9007199254740992
  · rw [clV_in (by omega)]; exact ⟨p0, h, rfl⟩
  · rw [clV_pos (by omega) (by omega)]
    exact ⟨by omega, by omega, by rw [Int.ediv_eq_zero_of_lt (by omega) (by omega), Int.ediv_eq_zero_of_lt (by omega) (by omega)]⟩

theorem rt_share (n f : Int) (W w : World) (h : At W w) : Calls Try.prog 27 #[.int .i64 n, .int .i64 f] w fun e w' => e = .returned (.tuple #[.int .i64 (shV n f), .bool (shB n f)]) ∧ At W w' := by
  have HK := Lib.hid (fun w => ds_knB f w)
  cases hk : knB f
  · have e1 : shV n f = 0 := by simp [shV, hk]
    have e2 : shB n f = false := by simp [shB, hk]
    rw [e1, e2]
    clear e1 e2
    go_enter Try.func27, Try.ntmps27
    go_wp2_with (go_at_call 36; refine (HK.out _).mono ?_; rintro e w' ⟨rfl, rfl⟩)
    all_goals go_ret2
    all_goals exact ⟨rfl, by assumption⟩
  · by_cases hn : 1 ≤ n
    · obtain ⟨c0, c1⟩ := cl_one hn
      obtain ⟨p0, p1⟩ := kn_mul (kn_of hk) c0 c1
      obtain ⟨f0, f1⟩ : 10 ≤ f ∧ f ≤ 60 := by rcases kn_of hk with rfl | rfl | rfl | rfl <;> omega
      have e1 : shV n f = 360000000 / (clV n * f) := by unfold shV; rw [if_pos ⟨hk, hn⟩]
      have e2 : shB n f = true := by simp [shB, hk, hn]
      have t1 : decide (n < 1) = false := decide_eq_false (by omega)
      have t2 : (clV n * f == 0) = false := beq_eq_false_iff_ne.2 (by omega)
      rw [e1, e2]
      clear e1 e2
      go_enter Try.func27, Try.ntmps27
      go_wp2_with (first
        | (go_at_call 36; refine (HK.out _).mono ?_; rintro e w' ⟨rfl, rfl⟩)
        | (go_at_call 35; refine (sat_clamp _ _).mono ?_; rintro e w' ⟨rfl, rfl⟩))
      all_goals go_ret2
      all_goals exact ⟨rfl, by assumption⟩
    · have e1 : shV n f = 0 := by unfold shV; rw [if_neg (fun h => hn h.2)]
      have e2 : shB n f = false := by simp [shB, hn]
      have t1 : decide (n < 1) = true := decide_eq_true (by omega)
      rw [e1, e2]
      clear e1 e2
      go_enter Try.func27, Try.ntmps27
      go_wp2_with (go_at_call 36; refine (HK.out _).mono ?_; rintro e w' ⟨rfl, rfl⟩)
      all_goals go_ret2
      all_goals exact ⟨rfl, by assumption⟩
theorem rt_of (n f : Int) (W w : World) (h : At W w) : Calls Try.prog 17 #[.int .i64 n, .int .i64 f] w fun e w' => e = .returned (.tuple #[.int .i64 (shV n f), .bool (shB n f)]) ∧ At W w' := by
  go_enter Try.func17, Try.ntmps17
  go_wp2_with (go_at_call 27; refine (rt_share _ _ _ _ (by assumption)).mono ?_; rintro e w' ⟨rfl, hb⟩)
  all_goals go_ret2
  all_goals exact ⟨rfl, by assumption⟩
theorem with_bd (n : Int) : 0 ≤ withV n 0 1000 ∧ withV n 0 1000 ≤ 1000 := by unfold withV; split <;> (try split) <;> (try split) <;> omega
theorem ref_of (n f : Int) (W w : World) (h : At W w) : Calls Try.prog 18 #[.int .i64 n, .int .i64 f] w fun e w' => e = .returned (.tuple #[.int .i64 (shV n f), .bool (shB n f)]) ∧ At W w' := by
  have HK := Lib.hid (fun w => ref9_known f w)
  cases hk : knB f
  · have e1 : shV n f = 0 := by simp [shV, hk]
    have e2 : shB n f = false := by simp [shB, hk]
    rw [e1, e2]
    clear e1 e2
    go_enter Try.func18, Try.ntmps18
    go_wp2_with (go_at_call 28; refine (HK.out _).mono ?_; rintro e w' ⟨rfl, rfl⟩)
    all_goals go_ret2
    all_goals exact ⟨rfl, by assumption⟩
  · by_cases hn : 1 ≤ n
    · obtain ⟨p0, p1, e0⟩ := sh_mul (kn_of hk) hn
      have e1 : shV n f = 360000000 / mulV n f := by unfold shV; rw [if_pos ⟨hk, hn⟩, e0]
      have e2 : shB n f = true := by simp [shB, hk, hn]
      have t1 : decide (n < 1) = false := decide_eq_false (by omega)
      have t2 : (mulV n f == 0) = false := beq_eq_false_iff_ne.2 (by omega)
      rw [e1, e2]
      clear e0 e1 e2
      go_enter Try.func18, Try.ntmps18
      go_wp2_with (first
        | (go_at_call 28; refine (HK.out _).mono ?_; rintro e w' ⟨rfl, rfl⟩)
        | (go_at_call 29; refine (ref_mul _ _ _).mono ?_; rintro e w' ⟨rfl, rfl⟩))
      all_goals go_ret2
      all_goals exact ⟨rfl, by assumption⟩
    · have e1 : shV n f = 0 := by unfold shV; rw [if_neg (fun h => hn h.2)]
      have e2 : shB n f = false := by simp [shB, hn]
      have t1 : decide (n < 1) = true := decide_eq_true (by omega)
      rw [e1, e2]
      clear e1 e2
      go_enter Try.func18, Try.ntmps18
      go_wp2_with (go_at_call 28; refine (HK.out _).mono ?_; rintro e w' ⟨rfl, rfl⟩)
      all_goals go_ret2
      all_goals exact ⟨rfl, by assumption⟩
end Go.Proofs.Ytkmhkhmifecbdaa
