/- A bucket with one more thing that was told: contract of counted. -/
import Derived.Test.YtjhdlcemeemlhaaBuck
namespace Go.Proofs.Ytjhdlcemeemlhaa
open Go.RowKit
set_option linter.unusedVariables false
set_option linter.unusedSimpArgs false
set_option maxRecDepth 100000
attribute [local go_sem] cell_set_ite

structure Ou where
  tick : Int
  mode : Int
  latch : Int
  notes : Int
  level : Int
  buzzer : Int
  open_ : Int
  pos : Int
  volume : Int
  drop : Bool
  frame : ByteArray
def ouV (o : Ou) : Value := .agg #[.int .i64 o.tick, .int .i64 o.mode, .int .i64 o.latch, .int .i64 o.notes, .int .i64 o.level, .int .i64 o.buzzer, .int .i64 o.open_, .int .i64 o.pos, .int .i64 o.volume, .bool o.drop, .string o.frame]
def bkV (b : Bk) : Value := .agg #[.int .i64 b.power, .int .i64 b.minute, .int .i64 b.ticks, .int .i64 b.drops, .int .i64 b.least, .int .i64 b.most, .int .i64 b.volume]
def ctB (b : Bk) (o : Ou) : Bk := ⟨b.power, b.minute, b.ticks + 1, if o.drop then b.drops + 1 else b.drops, min b.least o.open_, max b.most o.open_, o.volume⟩
set_option maxHeartbeats 4000000 in
theorem tr_counted (b : Bk) (o : Ou) (t0 : 0 ≤ b.ticks) (t1 : b.ticks ≤ 100000) (d0 : 0 ≤ b.drops) (d1 : b.drops ≤ 100000) (w : World) :
    Calls Try.prog 13 #[bkV b, ouV o] w fun e w' => e = .returned (bkV (ctB b o)) ∧ Below w.heap.size w w' := by
  have D0 : Below w.heap.size w w := Below.refl _ _
  obtain ⟨power, minute, ticks, drops, least, most, volume⟩ := b
  obtain ⟨tick, mode, latch, notes, level, buzzer, opn, pos, vol, drop, frame⟩ := o
  simp only at t0 t1 d0 d1
  unfold bkV ouV ctB
  simp only
  have hmin : min least opn = if opn < least then opn else least := by rw [Int.min_def]; split <;> split <;> omega
  have hmax : max most opn = if most < opn then opn else most := by rw [Int.max_def]; split <;> split <;> omega
  rw [hmin, hmax]
  clear hmin hmax
  cases drop <;> by_cases h1 : opn < least <;> by_cases h2 : most < opn
  all_goals
    first | rw [if_pos h1] | rw [if_neg h1]
    first | rw [if_pos h2] | rw [if_neg h2]
    simp only [Bool.false_eq_true, if_true, if_false]
    go_enter Try.func13, Try.ntmps13
    go_wp2_with (fail)
    all_goals try omega
    refine bodyPost_ret (v := _) (by simp [results, Try.results13, go_sem]) rfl ⟨rfl, below_alloc_on (below_alloc_on (below_alloc_on D0 _) _) _⟩
end Go.Proofs.Ytjhdlcemeemlhaa
