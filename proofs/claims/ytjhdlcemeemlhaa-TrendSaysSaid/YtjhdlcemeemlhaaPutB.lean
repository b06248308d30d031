/- The document's: a tick put into its bucket. -/
import Derived.Test.YtjhdlcemeemlhaaCount
namespace Go.Proofs.Ytjhdlcemeemlhaa
open Go.RowKit
set_option linter.unusedVariables false
set_option linter.unusedSimpArgs false
set_option maxRecDepth 100000
attribute [local go_sem] cell_set_ite

set_option maxHeartbeats 8000000 in
/-- A bucket that has ticks. -/
theorem rt_put (b : Bk) (o : Ou) (t0 : 0 < b.ticks) (t1 : b.ticks ≤ 100000) (d0 : 0 ≤ b.drops) (d1 : b.drops ≤ 100000) (w : World) :
    Calls Try.prog 14 #[bkV b, ouV o] w fun e w' => e = .returned (bkV (ctB b o)) ∧ Below w.heap.size w w' := by
  have D0 : Below w.heap.size w w := Below.refl _ _
  obtain ⟨power, minute, ticks, drops, least, most, volume⟩ := b
  obtain ⟨tick, mode, latch, notes, level, buzzer, opn, pos, vol, drop, frame⟩ := o
  simp only at t0 t1 d0 d1
  unfold bkV ouV ctB
  simp only
  have hmin : min least opn = if opn < least then opn else least := by rw [Int.min_def]; split <;> split <;> omega
  have hmax : max most opn = if most < opn then opn else most := by rw [Int.max_def]; split <;> split <;> omega
  rw [hmin, hmax]
  clear hmin hmax
  cases drop <;> by_cases h1 : opn < least <;> by_cases h2 : most < opn
  all_goals
    first | rw [if_pos h1] | rw [if_neg h1]
    first | rw [if_pos h2] | rw [if_neg h2]
    simp only [Bool.false_eq_true, if_true, if_false]
    go_enter Try.func14, Try.ntmps14
    go_wp2_with (fail)
    all_goals try omega
    go_region
    all_goals go_wp2_with (fail)
    all_goals try omega
    all_goals exact bodyPost_ret (v := _) (by simp [results, Try.results14, go_sem]) rfl ⟨rfl, by (repeat (first | (with_reducible exact Below.refl _ _) | (with_reducible assumption) | (with_reducible refine Near.up _ ?_) | (with_reducible refine Below.drew ?_) | (with_reducible refine below_alloc_on ?_ _) | (with_reducible refine below_set_on ?_ (by first | (simp; done) | (simp; omega) | omega) _)))⟩
end Go.Proofs.Ytjhdlcemeemlhaa
