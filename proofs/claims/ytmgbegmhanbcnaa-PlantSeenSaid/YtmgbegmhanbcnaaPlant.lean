/- Contracts of package plant, and the document's. -/
import Derived.Test.YtmgbegmhanbcnaaTot
import Derived.Test.YtmgbegmhanbcnaaBx
namespace Go.Proofs.Ytmgbegmhanbcnaa
set_option maxRecDepth 100000
open Go.RowKit
set_option linter.unusedVariables false
set_option linter.unusedSimpArgs false
attribute [local go_sem] cell_set_ite Near.cell Near.frozen

def unV (s : Int) : Int := if knB s = true then 360000000 / s else 0
def fwV (o h : Int) : Int := 8 * min (max o 0) 300 * min (max h 0) 1024
def plW (L s : Int) : Bool := decide (0 < unV s ∧ 0 < L)
def plQ (P s o h : Int) : Int := min (max P 0) (unV s) + fwV o h
def plD (L P s o h : Int) : Bool := plW L s && decide (unV s ≤ plQ P s o h)
def plL (L P s o h : Int) : Int := if plD L P s o h = true then L - 1 else L
def plP (L P s o h : Int) : Int := if plD L P s o h = true then plQ P s o h - unV s else if plW L s = true then plQ P s o h else P
def plS1 (L P S s o h : Int) : Int := if plD L P s o h = true then 3 else S
def plS (L P S s o h : Int) : Int := if plS1 L P S s o h ≤ 0 then plS1 L P S s o h else plS1 L P S s o h - 1
def plF (L P F s o h : Int) : Int := if plD L P s o h = true then min (max F 0) 1099511627776 + 1 else F
def plX (L P S s o h : Int) : Int := if plS1 L P S s o h ≤ 0 then 3000 else 2000
theorem un_ways (s : Int) : (knB s = false ∧ unV s = 0) ∨ (knB s = true ∧ 6000000 ≤ unV s ∧ unV s ≤ 36000000 ∧ 360000000 / s = unV s ∧ 10 ≤ s ∧ s ≤ 60) := by
  unfold unV
  cases h : knB s
  · exact .inl ⟨rfl, by rw [if_neg (by simp)]⟩
  · rw [if_pos rfl]
    rcases kn_of h with rfl | rfl | rfl | rfl <;> exact .inr ⟨rfl, by omega, by omega, rfl, by omega, by omega⟩
theorem fw_bd (o h : Int) : 0 ≤ fwV o h ∧ fwV o h ≤ 2457600 := by
  unfold fwV
  have a0 : 0 ≤ min (max o 0) 300 := by omega
  have a1 : min (max o 0) 300 ≤ 300 := by omega
  have b0 : 0 ≤ min (max h 0) 1024 := by omega
  have b1 : min (max h 0) 1024 ≤ 1024 := by omega
  generalize min (max o 0) 300 = a at *
  generalize min (max h 0) 1024 = b at *
  have h1 : 0 ≤ 8 * a * b := Int.mul_nonneg (by omega) b0
  have h2 : 8 * a * b ≤ 8 * a * 1024 := Int.mul_le_mul_of_nonneg_left b1 (by omega)
  omega

theorem pl_within (n m : Int) (m0 : 0 ≤ m) (w : World) : Calls Try.prog 28 #[.int .i64 n, .int .i64 m] w fun e w' => e = .returned (.int .i64 (min (max n 0) m)) ∧ w = w' := by
  go_enter Try.func28, Try.ntmps28
  go_wp2
  all_goals go_ret
  all_goals exact ⟨ret_i (by omega), rfl⟩
theorem pl_unit (s : Int) (w : World) : Calls Try.prog 21 #[.int .i64 s] w fun e w' => e = .returned (.int .i64 (unV s)) ∧ w = w' := by
  have HK := Lib.hid (fun w => ds_knB s w)
  rcases un_ways s with ⟨k, e⟩ | ⟨k, u0, u1, e, s0, s1⟩
  · rw [e]
    rw [k] at HK
    go_enter Try.func21, Try.ntmps21
    go_wp2_with (go_at_call 29; refine (HK.out _).mono ?_; rintro e w' ⟨rfl, rfl⟩)
    all_goals go_ret
    all_goals exact ⟨rfl, rfl⟩
  · rw [k] at HK
    have z1 : (s == 0) = false := by simp; omega
    have z2 : Int.tdiv 360000000 s = unV s := by rw [Int.tdiv_eq_ediv_of_nonneg (by omega), e]
    have z3 : IntKind.i64.wrap (unV s) = unV s := IntWalk.i64_in _ (by omega)
    generalize unV s = U at *
    clear k
    go_enter Try.func21, Try.ntmps21
    go_wp2_with (go_at_call 29; refine (HK.out _).mono ?_; rintro e w' ⟨rfl, rfl⟩)
    all_goals go_ret
    all_goals exact ⟨rfl, rfl⟩
theorem fw_parts (o h : Int) : ∃ a b, min (max o 0) 300 = a ∧ min (max h 0) 1024 = b ∧ fwV o h = 8 * a * b ∧ 0 ≤ a ∧ a ≤ 300 ∧ 0 ≤ 8 * a * b ∧ 8 * a * b ≤ 2457600 := by
  have ⟨f0, f1⟩ := fw_bd o h
  exact ⟨_, _, rfl, rfl, rfl, by omega, by omega, f0, f1⟩
theorem pl_flow (o h : Int) (w : World) : Calls Try.prog 20 #[.int .i64 o, .int .i64 h] w fun e w' => e = .returned (.int .i64 (fwV o h)) ∧ w = w' := by
  obtain ⟨a, b, ha, hb, e, a0, a1, f0, f1⟩ := fw_parts o h
  have HO := Lib.hid (fun w => pl_within o 300 (by omega) w)
  have HH := Lib.hid (fun w => pl_within h 1024 (by omega) w)
  rw [ha] at HO
  rw [hb] at HH
  rw [e]
  clear ha hb e
  have z1 : IntKind.i64.wrap (8 * a) = 8 * a := IntWalk.i64_in _ (by omega)
  have z2 : IntKind.i64.wrap (8 * a * b) = 8 * a * b := IntWalk.i64_in _ (by omega)
  go_enter Try.func20, Try.ntmps20
  go_wp2_with (first | (go_at_call 28; (with_reducible refine (HO.out _).mono ?_); rintro e w' ⟨rfl, rfl⟩) | (go_at_call 28; (with_reducible refine (HH.out _).mono ?_); rintro e w' ⟨rfl, rfl⟩))
  all_goals go_ret
  all_goals exact ⟨rfl, rfl⟩
end Go.Proofs.Ytmgbegmhanbcnaa
