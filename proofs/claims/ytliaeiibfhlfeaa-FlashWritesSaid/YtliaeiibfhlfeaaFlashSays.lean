/- FlashSays holds of every flash, every slot and every text. No condition. -/
import Derived.Test.YtliaeiibfhlfeaaLaw15
namespace Go.Proofs.Ytliaeiibfhlfeaa.flashSays
open Go.ChangeShapes Go.WideShapes Go.ChangeAt Go.RowKit
set_option linter.unusedVariables false

theorem eq_slots (w : World) (d : Nat) (x0 x1 y0 y1 : ByteArray) : (Op.equalIn (d + 2) 22 (.agg #[.string x0, .string x1]) (.agg #[.string y0, .string y1])).run Try.prog w = .ok (x0.toList == y0.toList && x1.toList == y1.toList) w := by
  obtain ⟨i, hi⟩ : ∃ i, Try.prog.info? 9 = some i := ⟨_, rfl⟩
  rw [run_equalIn_array (P := Try.prog) w (d + 1) _ _ (n := 2) (e := 9) (by kernel_rfl) hi, show List.range 2 = [0, 1] from rfl, show Try.prog.cellsOf 9 = 1 from by kernel_rfl]
  simp [Op.eqItems, go_sem]
  by_cases h : x0.toList = y0.toList <;> by_cases g : x1.toList = y1.toList <;> simp [h, g]
attribute [local go_sem] cell_set_ite Near.cell Near.frozen eq_slots

end Go.Proofs.Ytliaeiibfhlfeaa.flashSays
