/- A text of which one byte is another one: the law package's own 'turned'; what a turned text's sum is. -/
import Derived.Test.YtjdahghnfgblgaaDoorLaw6
namespace Go.Proofs.YtjdahghnfgblgaaDoor
set_option maxRecDepth 100000
open Go.RowKit
set_option linter.unusedVariables false
set_option linter.unusedSimpArgs false

def turnB (s : ByteArray) (k : Nat) (x : UInt8) : ByteArray := ⟨(s.data.toList.modify k (· ^^^ x)).toArray⟩
theorem turn_list (s : ByteArray) (k : Nat) (x : UInt8) : (turnB s k x).data.toList = s.data.toList.modify k (· ^^^ x) := rfl
theorem turn_size (s : ByteArray) (k : Nat) (x : UInt8) : (turnB s k x).size = s.size := by
  show (turnB s k x).data.size = s.data.size
  rw [← Array.length_toList, turn_list, List.length_modify, Array.length_toList]

end Go.Proofs.YtjdahghnfgblgaaDoor
