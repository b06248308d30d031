/- Contracts of package total, and what it takes of dropset: of any numbers. -/
import Derived.Test.YthibaehiponfnaaDrop
import Derived.Test.YthibaehiponfnaaBox
namespace Go.Proofs.Ythibaehiponfnaa
set_option maxRecDepth 100000
open Go.RowKit
set_option linter.unusedVariables false
set_option linter.unusedSimpArgs false
attribute [local go_sem] cell_set_ite Near.cell Near.frozen

def knB (f : Int) : Bool := decide (f = 10 ∨ f = 15 ∨ f = 20 ∨ f = 60)
theorem kn_of {f : Int} (h : knB f = true) : Kn f := by simpa [knB, Kn] using h
theorem kn_not {f : Int} (h : knB f = false) : (f == 10) = false ∧ (f == 15) = false ∧ (f == 20) = false ∧ (f == 60) = false := by
  simp [knB] at h
  simp [h]
theorem ds_knB (f : Int) (w : World) : Calls Try.prog 25 #[.int .i64 f] w fun e w' => e = .returned (.bool (knB f)) ∧ w = w' := by
  cases h : knB f
  · obtain ⟨a, b, c, d⟩ := kn_not h
    exact ds_known_not f a b c d w
  · exact ds_known f (kn_of h) w
/-- The drops, and the base, that count. -/
def tdV (n : Int) : Int := withV n 0 9007199254740
def tbV (n : Int) : Int := withV n 0 99999999
/-- What so many drops of the set are. -/
def fvV (d f : Int) : Int := if knB f = true then d * 1000 / f else 0
def voV (s d b : Int) : Int := withV (tbV b + fvV (tdV d) s) 0 99999999
def voB (s d b : Int) : Bool := withB (tbV b + fvV (tdV d) s) 0 99999999
def reB (s d b ml : Int) : Bool := voB s d b || decide (mulV ml 1000 ≤ voV s d b)
theorem withK_bd {n hi : Int} (h : 0 ≤ hi) : 0 ≤ withV n 0 hi ∧ withV n 0 hi ≤ hi := by unfold withV; split <;> (try split) <;> (try split) <;> omega
theorem withK_1 {n hi : Int} (h : 0 ≤ hi) (h1 : n < 0) : withV n 0 hi = 0 := by unfold withV; split <;> (try split) <;> (try split) <;> omega
theorem withK_2 {n hi : Int} (h1 : 0 ≤ n) (h2 : n ≤ hi) : withV n 0 hi = n := by unfold withV; split <;> (try split) <;> (try split) <;> omega
theorem withK_3 {n hi : Int} (h : 0 ≤ hi) (h1 : hi < n) : withV n 0 hi = hi := by unfold withV; split <;> (try split) <;> (try split) <;> omega
theorem td_bd (n : Int) : 0 ≤ tdV n ∧ tdV n ≤ 9007199254740 := withK_bd (by omega)
theorem tb_bd (n : Int) : 0 ≤ tbV n ∧ tbV n ≤ 99999999 := withK_bd (by omega)
theorem fv_bd {d f : Int} (d0 : 0 ≤ d) (d1 : d ≤ 9007199254740) : 0 ≤ fvV d f ∧ fvV d f ≤ 900719925474000 := by
  unfold fvV
  split
  · rename_i h
    rcases kn_of h with rfl | rfl | rfl | rfl <;> omega
  · omega
theorem fv_mq {d f : Int} (hf : Kn f) (d0 : 0 ≤ d) (d1 : d ≤ 9007199254740) : mqV d 1000 f = d * 1000 / f ∧ mqE d 1000 f = 0 :=
  mq_small (by omega) (by omega) (by omega) (by omega) (by rcases hf with rfl | rfl | rfl | rfl <;> omega) (by rcases hf with rfl | rfl | rfl | rfl <;> omega) (by rcases hf with rfl | rfl | rfl | rfl <;> omega) (by rcases hf with rfl | rfl | rfl | rfl <;> omega)

end Go.Proofs.Ythibaehiponfnaa
