/- slices.Reverse at lists of formulas, of at most two. -/
import Derived.Test.YtaccamlplikkfaaGreatDoorHolA
namespace Go.Proofs.YtaccamlplikkfaaGreatDoor
open Go.RowKit
set_option linter.unusedVariables false
set_option linter.unusedSimpArgs false
set_option maxRecDepth 100000
attribute [local go_sem] cell_set_ite Near.cell Near.frozen

theorem sl_rev_few (A : Option Addr) (n c : Nat) (hn : n ≤ 1) (w : World) : Calls Tryz.prog 19 #[.slice A n c] w fun e w' => (∃ v, e = .returned v) ∧ w = w' := by
  have wj : IntKind.i64.wrap ((n : Int) - 1) = (n : Int) - 1 := by rw [IntKind.wrap_i64]; omega
  have t0 : decide ((0 : Int) < (n : Int) - 1) = false := decide_eq_false (by omega)
  obtain ⟨j, hj⟩ : ∃ j, (n : Int) - 1 = j := ⟨_, rfl⟩
  rw [hj] at t0
  go_enter Tryz.func19, Tryz.ntmps19
  go_wp2_with (fail)
  go_loopg [2, 3] 0 (fun gk x y wr => x = .int .i64 0 ∧ y = .int .i64 j ∧ wr = w)
  case atStart => exact ⟨rfl, rfl, rfl⟩
  case round =>
    obtain ⟨rfl, rfl, rfl⟩ := hrel
    clear hj wj
    go_wp2_with (fail)
    go_end0
    exact ⟨⟨_, rfl⟩, rfl⟩
def RevR (base g d : Nat) (x y : Value) (w : World) (e : Ending) (w' : World) : Prop := (∃ v, e = .returned v) ∧ w'.ownsRow base 22 1 (.slice (some ⟨g, 0, none⟩) 2 d) 2 [y, x] ∧ w.grownBy w' (some g)
set_option maxHeartbeats 1000000 in
theorem sl_rev_two (base g d p q p1 q1 m m1 : Nat) (w : World) (h : w.ownsRow base 22 1 (.slice (some ⟨g, 0, none⟩) 2 d) 2 [.slice (some ⟨p, 0, none⟩) m p1, .slice (some ⟨q, 0, none⟩) m1 q1]) :
    Calls Tryz.prog 19 #[.slice (some ⟨g, 0, none⟩) 2 d] w (RevR base g d (.slice (some ⟨p, 0, none⟩) m p1) (.slice (some ⟨q, 0, none⟩) m1 q1) w) := by
  have c0 : w.cell? ⟨g, 0, none⟩ = some (.slice (some ⟨p, 0, none⟩) m p1) := h.cellAt 0 (by omega)
  have c1 : w.cell? ⟨g, 1, none⟩ = some (.slice (some ⟨q, 0, none⟩) m1 q1) := h.cellAt 1 (by omega)
  have f0 := h.frozenAt 0
  have f1 := h.frozenAt 1
  have hl : g < w.heap.size := (h.lt g rfl).2
  have H1 := h.stored 0 (.slice (some ⟨q, 0, none⟩) m1 q1)
  have H2 := H1.1.stored 1 (.slice (some ⟨p, 0, none⟩) m p1)
  have HX := Lib.hid (show World.ownsRow _ base 22 1 (.slice (some ⟨g, 0, none⟩) 2 d) 2 [.slice (some ⟨q, 0, none⟩) m1 q1, .slice (some ⟨p, 0, none⟩) m p1] ∧ w.grownBy _ (some g) from ⟨H2.1, H1.2.trans H2.2⟩)
  clear h H1 H2
  go_enter Tryz.func19, Tryz.ntmps19
  go_wp2_with (fail)
  go_loopg [2, 3] 1 (fun gk x y wr => (gk = 1 ∧ x = .int .i64 0 ∧ y = .int .i64 1 ∧ wr = w) ∨ (gk = 0 ∧ x = .int .i64 1 ∧ y = .int .i64 0 ∧ wr.ownsRow base 22 1 (.slice (some ⟨g, 0, none⟩) 2 d) 2 [.slice (some ⟨q, 0, none⟩) m1 q1, .slice (some ⟨p, 0, none⟩) m p1] ∧ w.grownBy wr (some g)))
  case atStart => exact .inl ⟨rfl, rfl, rfl, rfl⟩
  case round =>
    rcases hrel with ⟨rfl, rfl, rfl, rfl⟩ | ⟨rfl, rfl, rfl, ho, hg⟩
    · go_wp2_with (fail)
      go_region
      all_goals go_wp2_with (fail)
      all_goals go_roundg 0
      case measure => omega
      case rel => exact .inr ⟨rfl, rfl, rfl, HX.out.1.drew, ⟨HX.out.2.os, HX.out.2.tape, HX.out.2.output, HX.out.2.size, HX.out.2.block⟩⟩
    · have HY := Lib.hid (And.intro ho hg)
      clear ho hg HX
      go_wp2_with (fail)
      go_end0
      exact ⟨⟨_, rfl⟩, HY.out⟩
end Go.Proofs.YtaccamlplikkfaaGreatDoor
