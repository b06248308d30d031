/- Contracts of package mode, the document's, and the law package's own. -/
import Derived.Test.YtjdahghnfgblgaaDoorAt
import Derived.Test.YtjdahghnfgblgaaDoorSat
import Derived.Test.YtjdahghnfgblgaaDoorLaid
namespace Go.Proofs.YtjdahghnfgblgaaDoor
set_option maxRecDepth 100000
open Go.RowKit
set_option linter.unusedVariables false
set_option linter.unusedSimpArgs false

def leV (t : Int) (a : Bool) : Int := if t = 6 then (if a = true then 4 else 1) else 7
def idV (t : Int) : Int := if t = 1 then 2 else if t = 2 then 3 else 1
def prV (t : Int) : Int := if t = 0 ∨ t = 2 ∨ t = 4 ∨ t = 5 ∨ t = 6 ∨ t = 7 then 2 else 1
def ruV (t : Int) : Int := if t = 3 then 4 else if t = 7 then 5 else 3
def tuV (m t : Int) : Int := if m = 1 then idV t else if m = 2 then prV t else if m = 3 then ruV t else if m = 5 then (if t = 3 ∨ t = 8 then 6 else 5) else if m = 4 then (if t = 2 then 3 else 4) else m
def nxV (m t : Int) (a : Bool) : Int := if m < 1 ∨ 7 < m ∨ t = 5 then 7 else if m = 7 then leV t a else if t = 4 then 1 else tuV m t
def mKn (m : Int) : Bool := decide (1 ≤ m ∧ m ≤ 7)
def opB (m : Int) : Bool := decide (m = 2 ∨ m = 3 ∨ m = 5)
def inB (m : Int) : Bool := decide (m = 3 ∨ m = 5)
def acB (m : Int) : Bool := decide (m = 3 ∨ m = 5 ∨ m = 4 ∨ m = 6)
def mdNames : List (List UInt8) := [[73, 68, 76, 69], [80, 82, 73, 77, 73, 78, 71], [82, 85, 78, 78, 73, 78, 71], [80, 65, 85, 83, 69, 68], [75, 86, 79], [68, 79, 78, 69], [70, 65, 85, 76, 84]]
def nmV (m : Int) : ByteArray := if m = 1 then ⟨#[73, 68, 76, 69]⟩ else if m = 2 then ⟨#[80, 82, 73, 77, 73, 78, 71]⟩ else if m = 3 then ⟨#[82, 85, 78, 78, 73, 78, 71]⟩ else if m = 4 then ⟨#[80, 65, 85, 83, 69, 68]⟩ else if m = 5 then ⟨#[75, 86, 79]⟩ else if m = 6 then ⟨#[68, 79, 78, 69]⟩ else if m = 7 then ⟨#[70, 65, 85, 76, 84]⟩ else ⟨#[63]⟩

theorem m_ways (m : Int) : m = 1 ∨ m = 2 ∨ m = 3 ∨ m = 4 ∨ m = 5 ∨ m = 6 ∨ m = 7 ∨ m < 1 ∨ 7 < m := by omega

theorem md_known (m : Int) (w : World) : Calls Tryd.prog 29 #[.int .i64 m] w fun e w' => e = .returned (.bool (mKn m)) ∧ w = w' := by
  rcases (by omega : m < 1 ∨ 7 < m ∨ (1 ≤ m ∧ m ≤ 7)) with h | h | ⟨h, h2⟩
  all_goals
    first
      | rw [show mKn m = true from decide_eq_true (by omega)]
      | rw [show mKn m = false from decide_eq_false (by omega)]
    go_enter Tryd.func29, Tryd.ntmps29
    go_wp2
    all_goals go_ret
    all_goals first
      | exact ⟨rfl, rfl⟩
      | exact ⟨ret_b (decide_eq_false (by omega)), rfl⟩
      | exact ⟨ret_b (decide_eq_true (by omega)), rfl⟩
theorem nx_ways (m t : Int) (a : Bool) : (mKn m = false ∧ nxV m t a = 7) ∨ (mKn m = true ∧ t = 5 ∧ nxV m t a = 7) ∨ (mKn m = true ∧ t ≠ 5 ∧ m = 7 ∧ nxV m t a = leV t a) ∨ (mKn m = true ∧ t ≠ 5 ∧ m ≠ 7 ∧ t = 4 ∧ nxV m t a = 1) ∨ (mKn m = true ∧ t ≠ 5 ∧ m ≠ 7 ∧ t ≠ 4 ∧ nxV m t a = tuV m t) := by
  by_cases hk : 1 ≤ m ∧ m ≤ 7
  · have e : mKn m = true := decide_eq_true hk
    by_cases h5 : t = 5
    · exact .inr (.inl ⟨e, h5, by unfold nxV; rw [if_pos (by omega)]⟩)
    · by_cases h7 : m = 7
      · exact .inr (.inr (.inl ⟨e, h5, h7, by unfold nxV; rw [if_neg (by omega), if_pos h7]⟩))
      · by_cases h4 : t = 4
        · exact .inr (.inr (.inr (.inl ⟨e, h5, h7, h4, by unfold nxV; rw [if_neg (by omega), if_neg h7, if_pos h4]⟩)))
        · exact .inr (.inr (.inr (.inr ⟨e, h5, h7, h4, by unfold nxV; rw [if_neg (by omega), if_neg h7, if_neg h4]⟩)))
  · exact .inl ⟨decide_eq_false hk, by unfold nxV; rw [if_pos (by omega)]⟩
theorem md_infuses (m : Int) (w : World) : Calls Tryd.prog 21 #[.int .i64 m] w fun e w' => e = .returned (.bool (inB m)) ∧ w = w' := by
  rcases (by omega : m = 3 ∨ m = 5 ∨ (m ≠ 3 ∧ m ≠ 5)) with rfl | rfl | ⟨h1, h2⟩
  all_goals
    first
      | rw [show inB m = false from decide_eq_false (by omega)]
      | skip
    go_enter Tryd.func21, Tryd.ntmps21
    go_wp2
    all_goals go_ret
    all_goals first | exact ⟨rfl, rfl⟩ | exact ⟨ret_b (by simp_all), rfl⟩
theorem md_name (m : Int) (w : World) (hN : Words w 0 mdNames) : Calls Tryd.prog 20 #[.int .i64 m] w fun e w' => e = .returned (.string (nmV m)) ∧ w = w' := by
  have HK := Lib.hid (fun w => md_known m w)
  have c0 := hN.at_ 0 _ rfl
  have c1 := hN.at_ 1 _ rfl
  have c2 := hN.at_ 2 _ rfl
  have c3 := hN.at_ 3 _ rfl
  have c4 := hN.at_ 4 _ rfl
  have c5 := hN.at_ 5 _ rfl
  have c6 := hN.at_ 6 _ rfl
  clear hN
  rcases m_ways m with rfl | rfl | rfl | rfl | rfl | rfl | rfl | h | h
  all_goals
    first
      | rw [show mKn m = false from decide_eq_false (by omega)] at HK
      | rw [show mKn 1 = true from rfl] at HK
      | rw [show mKn 2 = true from rfl] at HK
      | rw [show mKn 3 = true from rfl] at HK
      | rw [show mKn 4 = true from rfl] at HK
      | rw [show mKn 5 = true from rfl] at HK
      | rw [show mKn 6 = true from rfl] at HK
      | rw [show mKn 7 = true from rfl] at HK
    first
      | rw [show nmV m = ⟨#[63]⟩ by unfold nmV; simp only [show ¬ m = 1 by omega, show ¬ m = 2 by omega, show ¬ m = 3 by omega, show ¬ m = 4 by omega, show ¬ m = 5 by omega, show ¬ m = 6 by omega, show ¬ m = 7 by omega, if_false]]
      | skip
    go_enter Tryd.func20, Tryd.ntmps20
    go_wp2_with (go_at_call 29; refine (HK.out _).mono ?_; rintro e w' ⟨rfl, rfl⟩)
    all_goals go_ret
    all_goals exact ⟨rfl, rfl⟩
end Go.Proofs.YtjdahghnfgblgaaDoor
