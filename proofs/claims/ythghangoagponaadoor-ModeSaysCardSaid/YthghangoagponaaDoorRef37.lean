/- The document's answers for package mode. -/
import Derived.Test.YthghangoagponaaDoorMode
namespace Go.Proofs.YthghangoagponaaDoor
open Go.RowKit
set_option linter.unusedVariables false
set_option linter.unusedSimpArgs false

theorem rm_rest1 (t : Int) (b0 : t ≠ 1) (b1 : t ≠ 2) (w : World) : Calls Tryd.prog 40 #[.int .i64 1, .int .i64 t] w fun e w' => e = .returned (.int .i64 (tuV 1 t)) ∧ w = w' := by
  rw [show tuV 1 t = 1 by unfold tuV idV; simp [b0, b1]]
  go_enter Tryd.func40, Tryd.ntmps40
  go_wp2
  all_goals go_ret
  all_goals first | exact ⟨rfl, rfl⟩ | (exfalso; simp_all; done)
theorem rm_rest2 (t : Int) (h4 : t ≠ 4) (h5 : t ≠ 5) (w : World) : Calls Tryd.prog 40 #[.int .i64 2, .int .i64 t] w fun e w' => e = .returned (.int .i64 (tuV 2 t)) ∧ w = w' := by
  rcases (by omega : t = 0 ∨ t = 2 ∨ t = 7 ∨ t = 6 ∨ (t ≠ 0 ∧ t ≠ 2 ∧ t ≠ 7 ∧ t ≠ 6)) with rfl | rfl | rfl | rfl | ⟨a0, a1, a2, a3⟩
  all_goals
    try rw [show tuV 2 t = 1 by unfold tuV prV; simp; omega]
    try clear h4 h5
    try have ua0 : (t == 0) = false := by simpa using a0
    try have va0 : (t != 0) = true := by simpa using a0
    try have ua1 : (t == 2) = false := by simpa using a1
    try have va1 : (t != 2) = true := by simpa using a1
    try have ua2 : (t == 7) = false := by simpa using a2
    try have va2 : (t != 7) = true := by simpa using a2
    try have ua3 : (t == 6) = false := by simpa using a3
    try have va3 : (t != 6) = true := by simpa using a3
    go_enter Tryd.func40, Tryd.ntmps40
    go_wp2
    all_goals go_ret
    all_goals first | exact ⟨rfl, rfl⟩ | (exfalso; simp_all; done)
theorem rm_rest3 (t : Int) (w : World) : Calls Tryd.prog 40 #[.int .i64 3, .int .i64 t] w fun e w' => e = .returned (.int .i64 (tuV 3 t)) ∧ w = w' := by
  rcases (by omega : t = 3 ∨ t = 7 ∨ (t ≠ 3 ∧ t ≠ 7)) with rfl | rfl | ⟨a0, a1⟩
  all_goals
    try rw [show tuV 3 t = 3 by unfold tuV ruV; simp [a0, a1]]
    try have ua0 : (t == 3) = false := by simpa using a0
    try have va0 : (t != 3) = true := by simpa using a0
    try have ua1 : (t == 7) = false := by simpa using a1
    try have va1 : (t != 7) = true := by simpa using a1
    go_enter Tryd.func40, Tryd.ntmps40
    go_wp2
    all_goals go_ret
    all_goals first | exact ⟨rfl, rfl⟩ | (exfalso; simp_all; done)
theorem rm_rest5 (t : Int) (w : World) : Calls Tryd.prog 40 #[.int .i64 5, .int .i64 t] w fun e w' => e = .returned (.int .i64 (tuV 5 t)) ∧ w = w' := by
  rcases (by omega : t = 3 ∨ t = 8 ∨ (t ≠ 3 ∧ t ≠ 8)) with rfl | rfl | ⟨a0, a1⟩
  all_goals
    try rw [show tuV 5 t = 5 by unfold tuV; simp [a0, a1]]
    try have ua0 : (t == 3) = false := by simpa using a0
    try have va0 : (t != 3) = true := by simpa using a0
    try have ua1 : (t == 8) = false := by simpa using a1
    try have va1 : (t != 8) = true := by simpa using a1
    go_enter Tryd.func40, Tryd.ntmps40
    go_wp2
    all_goals go_ret
    all_goals first | exact ⟨rfl, rfl⟩ | (exfalso; simp_all; done)
theorem rm_rest4 (t : Int) (w : World) : Calls Tryd.prog 40 #[.int .i64 4, .int .i64 t] w fun e w' => e = .returned (.int .i64 (tuV 4 t)) ∧ w = w' := by
  rcases (by omega : t = 2 ∨ t ≠ 2) with rfl | a0
  all_goals
    try rw [show tuV 4 t = 4 by unfold tuV; simp [a0]]
    try have ua0 : (t == 2) = false := by simpa using a0
    try have va0 : (t != 2) = true := by simpa using a0
    go_enter Tryd.func40, Tryd.ntmps40
    go_wp2
    all_goals go_ret
    all_goals first | exact ⟨rfl, rfl⟩ | (exfalso; simp_all; done)
theorem rm_rest6 (m t : Int) (a0 : m ≠ 1) (a1 : m ≠ 2) (a2 : m ≠ 3) (a3 : m ≠ 4) (a4 : m ≠ 5) (w : World) : Calls Tryd.prog 40 #[.int .i64 m, .int .i64 t] w fun e w' => e = .returned (.int .i64 (tuV m t)) ∧ w = w' := by
  rw [show tuV m t = m by unfold tuV; simp [a0, a1, a2, a3, a4]]
  have ua1 : (m == 2) = false := by simpa using a1
  have va1 : (m != 2) = true := by simpa using a1
  have ua2 : (m == 3) = false := by simpa using a2
  have va2 : (m != 3) = true := by simpa using a2
  have ua3 : (m == 4) = false := by simpa using a3
  have va3 : (m != 4) = true := by simpa using a3
  have ua4 : (m == 5) = false := by simpa using a4
  have va4 : (m != 5) = true := by simpa using a4
  go_enter Tryd.func40, Tryd.ntmps40
  go_wp2
  all_goals go_ret
  all_goals first | exact ⟨rfl, rfl⟩ | (exfalso; simp_all; done)
theorem rm_rest (m t : Int) (h4 : t ≠ 4) (h5 : t ≠ 5) (h1 : m = 1 → t ≠ 1 ∧ t ≠ 2) (w : World) : Calls Tryd.prog 40 #[.int .i64 m, .int .i64 t] w fun e w' => e = .returned (.int .i64 (tuV m t)) ∧ w = w' := by
  rcases (by omega : m = 1 ∨ m = 2 ∨ m = 3 ∨ m = 4 ∨ m = 5 ∨ (m ≠ 1 ∧ m ≠ 2 ∧ m ≠ 3 ∧ m ≠ 4 ∧ m ≠ 5)) with rfl | rfl | rfl | rfl | rfl | ⟨a0, a1, a2, a3, a4⟩
  · exact rm_rest1 t (h1 rfl).1 (h1 rfl).2 w
  · exact rm_rest2 t h4 h5 w
  · exact rm_rest3 t w
  · exact rm_rest4 t w
  · exact rm_rest5 t w
  · exact rm_rest6 m t a0 a1 a2 a3 a4 w
theorem rm_next (m t : Int) (a : Bool) (w : World) : Calls Tryd.prog 12 #[.int .i64 m, .int .i64 t, .bool a] w fun e w' => e = .returned (.int .i64 (nxV m t a)) ∧ w = w' := by
  rcases (by omega : m < 1 ∨ (1 ≤ m ∧ 7 < m) ∨ (1 ≤ m ∧ m ≤ 7 ∧ t = 5) ∨ (m = 7 ∧ t = 6) ∨ (m = 7 ∧ t ≠ 5 ∧ t ≠ 6) ∨ (1 ≤ m ∧ m ≤ 6 ∧ t = 4) ∨ (m = 1 ∧ t = 1) ∨ (m = 1 ∧ t = 2) ∨ (m = 1 ∧ t ≠ 1 ∧ t ≠ 2 ∧ t ≠ 4 ∧ t ≠ 5) ∨ (2 ≤ m ∧ m ≤ 6 ∧ t ≠ 4 ∧ t ≠ 5)) with
    h | ⟨h, h2⟩ | ⟨h, h2, rfl⟩ | ⟨rfl, rfl⟩ | ⟨rfl, h, h2⟩ | ⟨h, h2, rfl⟩ | ⟨rfl, rfl⟩ | ⟨rfl, rfl⟩ | ⟨rfl, h, h2, h3, h4⟩ | ⟨h, h2, h3, h4⟩
  · rw [show nxV m t a = 7 by unfold nxV; rw [if_pos (by omega)]]
    go_enter Tryd.func12, Tryd.ntmps12
    go_wp2
    all_goals go_ret
    all_goals exact ⟨rfl, rfl⟩
  · rw [show nxV m t a = 7 by unfold nxV; rw [if_pos (by omega)]]
    go_enter Tryd.func12, Tryd.ntmps12
    go_wp2
    all_goals go_ret
    all_goals exact ⟨rfl, rfl⟩
  · rw [show nxV m 5 a = 7 by unfold nxV; rw [if_pos (by omega)]]
    go_enter Tryd.func12, Tryd.ntmps12
    go_wp2
    all_goals go_ret
    all_goals exact ⟨rfl, rfl⟩
  · cases a
    all_goals go_enter Tryd.func12, Tryd.ntmps12
    all_goals go_wp2
    all_goals go_ret
    all_goals exact ⟨rfl, rfl⟩
  · rw [show nxV 7 t a = 7 by unfold nxV leV; simp [h, h2]]
    go_enter Tryd.func12, Tryd.ntmps12
    go_wp2
    all_goals go_ret
    all_goals exact ⟨rfl, rfl⟩
  · rw [show nxV m 4 a = 1 by unfold nxV; rw [if_neg (by omega), if_neg (by omega), if_pos rfl]]
    go_enter Tryd.func12, Tryd.ntmps12
    go_wp2
    all_goals go_ret
    all_goals exact ⟨rfl, rfl⟩
  · go_enter Tryd.func12, Tryd.ntmps12
    go_wp2
    all_goals go_ret
    all_goals exact ⟨rfl, rfl⟩
  · go_enter Tryd.func12, Tryd.ntmps12
    go_wp2
    all_goals go_ret
    all_goals exact ⟨rfl, rfl⟩
  · rw [show nxV 1 t a = tuV 1 t by unfold nxV; rw [if_neg (by omega), if_neg (by omega), if_neg h3]]
    have HR := Lib.hid (fun w => rm_rest 1 t h3 h4 (fun _ => ⟨h, h2⟩) w)
    go_enter Tryd.func12, Tryd.ntmps12
    go_wp2_with (go_at_call 40; refine (HR.out _).mono ?_; rintro e w' ⟨rfl, rfl⟩)
    all_goals go_ret
    all_goals exact ⟨rfl, rfl⟩
  · rw [show nxV m t a = tuV m t by unfold nxV; rw [if_neg (by omega), if_neg (by omega), if_neg h3]]
    have HR := Lib.hid (fun w => rm_rest m t h3 h4 (by omega) w)
    have u1 : decide (m < 1) = false := decide_eq_false (by omega)
    have u2 : decide (7 < m) = false := decide_eq_false (by omega)
    have u3 : (t == 5) = false := by simpa using h4
    have u4 : (m == 7) = false := by simp; omega
    have u5 : (t == 4) = false := by simpa using h3
    have u6 : (m == 1) = false := by simp; omega
    go_enter Tryd.func12, Tryd.ntmps12
    go_wp2_with (go_at_call 40; refine (HR.out _).mono ?_; rintro e w' ⟨rfl, rfl⟩)
    all_goals go_ret
    all_goals exact ⟨rfl, rfl⟩
theorem rm_infuses (m : Int) (w : World) : Calls Tryd.prog 16 #[.int .i64 m] w fun e w' => e = .returned (.bool (inB m)) ∧ w = w' := by
  rcases (by omega : m = 3 ∨ m = 5 ∨ (m ≠ 3 ∧ m ≠ 5)) with rfl | rfl | ⟨h1, h2⟩
  all_goals
    try rw [show inB m = false from decide_eq_false (by omega)]
    go_enter Tryd.func16, Tryd.ntmps16
    go_wp2
    all_goals go_ret
    all_goals first | exact ⟨rfl, rfl⟩ | exact ⟨ret_b (by simp_all), rfl⟩
theorem rm_opens (m : Int) (w : World) : Calls Tryd.prog 14 #[.int .i64 m] w fun e w' => e = .returned (.bool (opB m)) ∧ w = w' := by
  rcases (by omega : m = 2 ∨ m = 3 ∨ m = 5 ∨ (m ≠ 2 ∧ m ≠ 3 ∧ m ≠ 5)) with rfl | rfl | rfl | ⟨h0, h1, h2⟩
  all_goals
    try rw [show opB m = false from decide_eq_false (by omega)]
    go_enter Tryd.func14, Tryd.ntmps14
    go_wp2
    all_goals go_ret
    all_goals first | exact ⟨rfl, rfl⟩ | exact ⟨ret_b (by simp_all), rfl⟩
theorem rm_accepts (m : Int) (w : World) : Calls Tryd.prog 18 #[.int .i64 m] w fun e w' => e = .returned (.bool (acB m)) ∧ w = w' := by
  rcases (by omega : m = 3 ∨ m = 4 ∨ m = 5 ∨ m = 6 ∨ (m ≠ 3 ∧ m ≠ 4 ∧ m ≠ 5 ∧ m ≠ 6)) with rfl | rfl | rfl | rfl | ⟨h0, h1, h2, h3⟩
  all_goals
    try rw [show acB m = false from decide_eq_false (by omega)]
    go_enter Tryd.func18, Tryd.ntmps18
    go_wp2
    all_goals go_ret
    all_goals first | exact ⟨rfl, rfl⟩ | exact ⟨ret_b (by simp_all), rfl⟩
theorem rm_name (m : Int) (w : World) : Calls Tryd.prog 20 #[.int .i64 m] w fun e w' => e = .returned (.string (nmV m)) ∧ w = w' := by
  rcases (by omega : m = 1 ∨ m = 2 ∨ m = 3 ∨ m = 4 ∨ m = 5 ∨ m = 6 ∨ m = 7 ∨ (m ≠ 1 ∧ m ≠ 2 ∧ m ≠ 3 ∧ m ≠ 4 ∧ m ≠ 5 ∧ m ≠ 6 ∧ m ≠ 7)) with rfl | rfl | rfl | rfl | rfl | rfl | rfl | ⟨h1, h2, h3, h4, h5, h6, h7⟩
  all_goals
    try rw [show nmV m = ⟨#[63]⟩ by unfold nmV; simp only [h1, h2, h3, h4, h5, h6, h7, if_false]]
    go_enter Tryd.func20, Tryd.ntmps20
    go_wp2
    all_goals go_ret
    all_goals exact ⟨rfl, rfl⟩
end Go.Proofs.YthghangoagponaaDoor
