/- A base that goes towards a light, of numbers that may be: the plain mathematics, and the contract in these words. -/
import Derived.Test.YtpgelcpnjggakaaAmb
namespace Go.Proofs.Ytpgelcpnjggakaa
open Go.RowKit
set_option linter.unusedVariables false

/-- The base a tick later. -/
def nxS (x l : Int) : Int := x + (64 * l - x) / 64
theorem nxS_bd {x l : Int} (x0 : 0 ≤ x) (x1 : x ≤ 262080) (l0 : 0 ≤ l) (l1 : l ≤ 4095) : 0 ≤ nxS x l ∧ nxS x l ≤ 262080 := by unfold nxS; omega
theorem nxS_up {x l : Int} (h : x ≤ 64 * l) : x ≤ nxS x l ∧ nxS x l ≤ 64 * l := by unfold nxS; omega
theorem nxS_down {x l : Int} (h : 64 * l < x) : 64 * l ≤ nxS x l ∧ nxS x l < x := by unfold nxS; omega
theorem nxS_light {x l m : Int} (h : l ≤ m) : nxS x l ≤ nxS x m := by unfold nxS; omega
theorem nxS_base {x y l : Int} (h : x ≤ y) : nxS x l ≤ nxS y l := by unfold nxS; omega
theorem nxS_at (l : Int) : nxS (64 * l) l = 64 * l := by unfold nxS; omega
theorem am_next (W : World) (x l : Int) (x0 : 0 ≤ x) (x1 : x ≤ 262080) (l0 : 0 ≤ l) (l1 : l ≤ 4095) (w : World) (h : At W w) :
    Calls Try.prog 8 #[.int .i64 x, .int .i64 l, .bool false] w fun e w' => e = .returned (.int .i64 (nxS x l)) ∧ At W w' := by
  have := am_step_no x l W w h
  unfold amS at this
  rw [cb_in x0 x1, lg_in l0 l1] at this
  exact this
theorem am_lev (x : Int) (x0 : 0 ≤ x) (x1 : x ≤ 262080) (w : World) : Calls Try.prog 10 #[.int .i64 x] w fun e w' => e = .returned (.int .i64 (x / 64)) ∧ w = w' := by
  have := am_level x w
  rw [cb_in x0 x1] at this
  exact this
theorem am_begin (l : Int) (l0 : 0 ≤ l) (l1 : l ≤ 4095) (w : World) : Calls Try.prog 6 #[.int .i64 l] w fun e w' => e = .returned (.int .i64 (64 * l)) ∧ w = w' := by
  have := am_start l w
  rw [lg_in l0 l1] at this
  exact this

/-- How far it is still, at the most, behind so many ticks. -/
def farN : Nat → Int → Int
  | 0, d => d
  | k + 1, d => farN k d - farN k d / 64
theorem far_end : farN 900 262080 ≤ 63 := by decide +kernel
def awayV (x l : Int) : Int := if x ≤ 64 * l then 64 * l - x else x - 64 * l
theorem away_next {x l d : Int} (h : awayV x l ≤ d) : awayV (nxS x l) l ≤ d - d / 64 := by
  unfold awayV nxS at *
  split at h <;> split <;> omega
theorem away_63 {x l : Int} (h : awayV x l ≤ 63) : awayV (nxS x l) l ≤ 63 := by
  have := away_next h
  omega
theorem away_lev {x l : Int} (h : awayV x l ≤ 63) : (64 * l ≤ x ∧ x / 64 = l) ∨ (x < 64 * l ∧ x / 64 = l - 1) := by
  unfold awayV at h
  split at h <;> omega
end Go.Proofs.Ytpgelcpnjggakaa
