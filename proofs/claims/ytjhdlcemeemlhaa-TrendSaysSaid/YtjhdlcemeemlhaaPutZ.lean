/- The document's: a tick put into a new bucket. -/
import Derived.Test.YtjhdlcemeemlhaaPutB
namespace Go.Proofs.Ytjhdlcemeemlhaa
open Go.RowKit
set_option linter.unusedVariables false
set_option linter.unusedSimpArgs false
set_option maxRecDepth 100000
attribute [local go_sem] cell_set_ite

set_option maxHeartbeats 8000000 in
theorem rt_put0 (p m : Int) (o : Ou) (w : World) :
    Calls Try.prog 14 #[bkV ⟨p, m, 0, 0, 0, 0, 0⟩, ouV o] w fun e w' => e = .returned (bkV ⟨p, m, 1, if o.drop then 1 else 0, o.open_, o.open_, o.volume⟩) ∧ Below w.heap.size w w' := by
  have D0 : Below w.heap.size w w := Below.refl _ _
  obtain ⟨tick, mode, latch, notes, level, buzzer, opn, pos, vol, drop, frame⟩ := o
  unfold bkV ouV
  simp only
  cases drop
  all_goals
    simp only [Bool.false_eq_true, if_true, if_false]
    go_enter Try.func14, Try.ntmps14
    go_wp2_with (fail)
    go_region
    all_goals go_wp2_with (fail)
    all_goals try omega
    all_goals go_region
    all_goals go_wp2_with (fail)
    all_goals try omega
    all_goals exact bodyPost_ret (v := _) (by simp [results, Try.results14, go_sem]) rfl ⟨rfl, by (repeat (first | (with_reducible exact Below.refl _ _) | (with_reducible assumption) | (with_reducible refine Near.up _ ?_) | (with_reducible refine Below.drew ?_) | (with_reducible refine below_alloc_on ?_ _) | (with_reducible refine below_set_on ?_ (by first | (simp; done) | (simp; omega) | omega) _)))⟩
end Go.Proofs.Ytjhdlcemeemlhaa
