/- The motor as plain arithmetic: where it is, how many steps of homing are left; a step, and how many are left. -/
import Derived.Test.YtjojclgbonhngaaRows
namespace Go.Proofs.Ytjojclgbonhngaa
set_option linter.unusedVariables false

def mnV (n most : Int) : Int := if n < 0 then 0 else if most < n then most else n
def cpV (n : Int) : Int := mnV n 300
def chV (n : Int) : Int := mnV n 320
/-- A step nearer. -/
def neV (pos want : Int) : Int := if pos < want then pos + 1 else if want < pos then pos - 1 else pos
def stP (p h w : Int) : Int := if 0 < chV h then (if chV h = 1 then 0 else if cpV p < 1 then 0 else cpV p - 1) else neV (cpV p) (cpV w)
def stH (h : Int) : Int := if 0 < chV h then chV h - 1 else 0
def lfV (p h : Int) : Int := if 0 < chV h then chV h else cpV p
def cdB (p h : Int) : Bool := decide (cpV p = 0 ∧ chV h = 0)

theorem mn_bd {n most : Int} (h : 0 ≤ most) : 0 ≤ mnV n most ∧ mnV n most ≤ most := by unfold mnV; split <;> (try split) <;> omega
theorem mn_in {n most : Int} (h : 0 ≤ n) (h1 : n ≤ most) : mnV n most = n := by unfold mnV; split <;> (try split) <;> omega
theorem cp_bd (n : Int) : 0 ≤ cpV n ∧ cpV n ≤ 300 := mn_bd (by omega)
theorem ch_bd (n : Int) : 0 ≤ chV n ∧ chV n ≤ 320 := mn_bd (by omega)
theorem cp_in {n : Int} (h : 0 ≤ n) (h1 : n ≤ 300) : cpV n = n := mn_in h h1
theorem ch_in {n : Int} (h : 0 ≤ n) (h1 : n ≤ 320) : chV n = n := mn_in h h1
theorem ch_neg {n : Int} (h : n ≤ 0) : chV n = 0 := by unfold chV mnV; split <;> (try split) <;> omega
theorem cp_neg {n : Int} (h : n ≤ 0) : cpV n = 0 := by unfold cpV mnV; split <;> (try split) <;> omega
theorem ch_pos {n : Int} (h : 0 < n) : 0 < chV n := by unfold chV mnV; split <;> (try split) <;> omega

theorem lf_bd (p h : Int) : 0 ≤ lfV p h ∧ lfV p h ≤ 320 := by
  have := cp_bd p
  have := ch_bd h
  unfold lfV; split <;> omega
theorem cd_lf (p h : Int) : cdB p h = decide (lfV p h = 0) := by
  have := cp_bd p
  have := ch_bd h
  unfold cdB lfV
  split
  · rw [Bool.eq_iff_iff]; simp; omega
  · rw [Bool.eq_iff_iff]; simp; omega
theorem st_bd (p h w : Int) : 0 ≤ stP p h w ∧ stP p h w ≤ 300 ∧ 0 ≤ stH h ∧ stH h ≤ 320 := by
  have := cp_bd p
  have := ch_bd h
  have := cp_bd w
  unfold stP stH neV
  refine ⟨?_, ?_, ?_, ?_⟩ <;> split <;> (try split) <;> (try split) <;> omega
/-- Where it is to be closed, a step is a step less. -/
theorem lf_step {p h w : Int} (hw : w ≤ 0) : lfV (stP p h w) (stH h) = if lfV p h = 0 then 0 else lfV p h - 1 := by
  have a := cp_bd p
  have b := ch_bd h
  have c := st_bd p h w
  have d := cp_neg hw
  unfold lfV
  rw [cp_in c.1 c.2.1, ch_in c.2.2.1 c.2.2.2]
  unfold stP stH neV
  rw [d]
  by_cases h1 : 0 < chV h
  · simp only [h1, if_true]
    by_cases h2 : chV h = 1
    · simp [h2]
    · simp only [h2, if_false]; split <;> split <;> omega
  · simp only [h1, if_false]
    simp
    split <;> split <;> omega
/-- At home. -/
theorem st_home {p w : Int} (p0 : 0 ≤ p) (p1 : p ≤ 300) (w0 : 0 ≤ w) (w1 : w ≤ 300) {h : Int} (hh : h ≤ 0) : stP p h w = neV p w ∧ stH h = 0 := by
  unfold stP stH
  rw [ch_neg hh, cp_in p0 p1, cp_in w0 w1]
  exact ⟨if_neg (by omega), if_neg (by omega)⟩
/-- While it goes home nobody's wish counts. -/
theorem st_wish {p h : Int} (hh : 0 < h) (v w : Int) : stP p h v = stP p h w := by
  have := ch_pos hh
  unfold stP
  rw [if_pos this, if_pos this]
end Go.Proofs.Ytjojclgbonhngaa
