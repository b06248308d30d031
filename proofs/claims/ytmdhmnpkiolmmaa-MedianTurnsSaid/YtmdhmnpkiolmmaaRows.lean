/-
  No cell of these rows narrows 'for every input' (looked for: loops, veiled, ifaces, maps, wideKeys, modest, calm, conditions, laid).
  DERIVED. THE GIVEN ROWS OF THIS SEAT. 4 by the template 'for every input the law returns true; each argument reads behind the call as it read before'; 0 by the template 'total and deterministic' (their statements: YtmdhmnpkiolmmaaTotals.lean).
  GIVEN WITH THE SEED: the statements are not yours to turn. If you find one false, say at which input.
  Laid BY PROGRAM, IN A SANDBOX (cutbox-rows.mjs): the forced cells as the released guide's own fill.sh prints them over the translation 5597fc6dc13c7673… (all of the seat's roots in one cut). By AI agents, Wed Nov 11 2026. No macro, syntax, notation, axiom, sorry.
-/
import Derived.Test.YtmdhmnpkiolmmaaChecked
import GoSem.Claim
import GoSem.ClaimJoined
import GoSem.ClaimMapViews
import Derived.JoinedTies
import Derived.KernelRfl
namespace Go.Proofs.Ytmdhmnpkiolmmaa
/- THE CELL 'sum', in the pinned program and in every row, IS THE sha256 OF THE DUMP (.gsa) THAT YtmdhmnpkiolmmaaProg.lean LOADS. Nothing in Lean hashes anything: it is a label: what it is worth is what the hold of that sum in a sandbox is worth. -/
noncomputable def Try.pinned : Pinned := { name := "ytmdhmnpkiolmmaa", sum := "5597fc6dc13c7673432b7667282f7b7d6d2f692bc6cfb0af90582acea47ca95b", checked := Try.checked }
namespace Rows
def none {H : Type} : Left H := { results := [], args := [] }

/-- 'pinchcocklaw08.MedianSays': WHATEVER THE INPUT: true; the input reads as it did. -/
def medianSaysSpec : ChangeSpec := { name := "medianSays", fn := fun _ => fun
  | [d] => { results := [.lit (.bool true)], args := [d] }
  | _ => none }
def medianSaysRow : OpenClaim := { program := "ytmdhmnpkiolmmaa", sum := "5597fc6dc13c7673432b7667282f7b7d6d2f692bc6cfb0af90582acea47ca95b", func := "pinchcock/pinchcocklaw08.MedianSays", spec := "medianSays", recurses := true, apart := false }
def MedianSaysSaid : Prop := medianSaysRow.holds Try.pinned (OpenSpec.ofChange medianSaysSpec)

/-- ITS FALSE NEIGHBOUR: 'it returns false'. Refute it at one input. -/
def medianSaysWrong : ChangeSpec := { name := "medianSays", fn := fun _ => fun
  | [d] => { results := [.lit (.bool false)], args := [d] }
  | _ => none }
def MedianSaysWrongFalsely : Prop := medianSaysRow.holds Try.pinned (OpenSpec.ofChange medianSaysWrong)

/-- 'pinchcocklaw08.MedianSorts': WHATEVER THE INPUT: true; the input reads as it did. -/
def medianSortsSpec : ChangeSpec := { name := "medianSorts", fn := fun _ => fun
  | [d] => { results := [.lit (.bool true)], args := [d] }
  | _ => none }
def medianSortsRow : OpenClaim := { program := "ytmdhmnpkiolmmaa", sum := "5597fc6dc13c7673432b7667282f7b7d6d2f692bc6cfb0af90582acea47ca95b", func := "pinchcock/pinchcocklaw08.MedianSorts", spec := "medianSorts", recurses := true, apart := false }
def MedianSortsSaid : Prop := medianSortsRow.holds Try.pinned (OpenSpec.ofChange medianSortsSpec)

/-- ITS FALSE NEIGHBOUR: 'it returns false'. Refute it at one input. -/
def medianSortsWrong : ChangeSpec := { name := "medianSorts", fn := fun _ => fun
  | [d] => { results := [.lit (.bool false)], args := [d] }
  | _ => none }
def MedianSortsWrongFalsely : Prop := medianSortsRow.holds Try.pinned (OpenSpec.ofChange medianSortsWrong)

/-- 'pinchcocklaw08.MedianHolds': WHATEVER THE INPUT: true; the input reads as it did. -/
def medianHoldsSpec : ChangeSpec := { name := "medianHolds", fn := fun _ => fun
  | [d1, d2, d3] => { results := [.lit (.bool true)], args := [d1, d2, d3] }
  | _ => none }
def medianHoldsRow : OpenClaim := { program := "ytmdhmnpkiolmmaa", sum := "5597fc6dc13c7673432b7667282f7b7d6d2f692bc6cfb0af90582acea47ca95b", func := "pinchcock/pinchcocklaw08.MedianHolds", spec := "medianHolds", recurses := true, apart := false }
def MedianHoldsSaid : Prop := medianHoldsRow.holds Try.pinned (OpenSpec.ofChange medianHoldsSpec)

/-- ITS FALSE NEIGHBOUR: 'it returns false'. Refute it at one input. -/
def medianHoldsWrong : ChangeSpec := { name := "medianHolds", fn := fun _ => fun
  | [d1, d2, d3] => { results := [.lit (.bool false)], args := [d1, d2, d3] }
  | _ => none }
def MedianHoldsWrongFalsely : Prop := medianHoldsRow.holds Try.pinned (OpenSpec.ofChange medianHoldsWrong)

/-- 'pinchcocklaw08.MedianTurns': WHATEVER THE INPUT: true; the input reads as it did. -/
def medianTurnsSpec : ChangeSpec := { name := "medianTurns", fn := fun _ => fun
  | [d1, d2] => { results := [.lit (.bool true)], args := [d1, d2] }
  | _ => none }
def medianTurnsRow : OpenClaim := { program := "ytmdhmnpkiolmmaa", sum := "5597fc6dc13c7673432b7667282f7b7d6d2f692bc6cfb0af90582acea47ca95b", func := "pinchcock/pinchcocklaw08.MedianTurns", spec := "medianTurns", recurses := true, apart := false }
def MedianTurnsSaid : Prop := medianTurnsRow.holds Try.pinned (OpenSpec.ofChange medianTurnsSpec)

/-- ITS FALSE NEIGHBOUR: 'it returns false'. Refute it at one input. -/
def medianTurnsWrong : ChangeSpec := { name := "medianTurns", fn := fun _ => fun
  | [d1, d2] => { results := [.lit (.bool false)], args := [d1, d2] }
  | _ => none }
def MedianTurnsWrongFalsely : Prop := medianTurnsRow.holds Try.pinned (OpenSpec.ofChange medianTurnsWrong)

/- THE SECOND FORM. 'bulk': how many values and letters a reading holds, each counted each time it is reached (what is shared counts as often as it is met; a slice's spare places count too). A statement '..UptoSaid' is the law's where the arguments, and the package variables that the reading takes, are together of bulk at most 1048576: NARROWER than '..Said'. Prove '..Said' where nothing that the law and all that it calls make is longer than what came in: it says more and counts as full. Else prove '..UptoSaid'. A law counts once. -/
mutual
def uptoBulk {H : Type} : DataW H → Nat
  | .lit (.string bytes) => bytes.length + 1
  | .lit _ => 1
  | .nil => 1
  | .ptr d => uptoBulk d + 1
  | .slice elems spare => uptoBulkAll elems + uptoBulkAll spare + 1
  | .agg parts => uptoBulkAll parts + 1
  | .iface _ d => uptoBulk d + 1
  | .map entries => uptoBulkEntries entries + 1
  | .held _ => 1
def uptoBulkAll {H : Type} : List (DataW H) → Nat
  | [] => 0
  | d :: r => uptoBulk d + uptoBulkAll r
def uptoBulkEntries {H : Type} : List (Lit × DataW H) → Nat
  | [] => 0
  | x :: r => uptoBulkEntry x + uptoBulkEntries r
def uptoBulkEntry {H : Type} : Lit × DataW H → Nat
  | (.string bytes, d) => bytes.length + uptoBulk d + 1
  | (_, d) => uptoBulk d + 1
 end
def uptoSmall : (H : Type) → List (DataW H) → Bool := fun _ ds => decide (uptoBulkAll ds ≤ 1048576)
def OpenSpec.upto (s : _root_.Go.ChangeSpec) : _root_.Go.OpenSpec := { _root_.Go.OpenSpec.ofChange s with cond := some uptoSmall }

/-- 'pinchcocklaw08.MedianSays', WHERE WHAT IT READS IS OF BULK AT MOST 1048576: true; the input reads as it did. -/
def medianSaysUptoRow : OpenClaim := { program := "ytmdhmnpkiolmmaa", sum := "5597fc6dc13c7673432b7667282f7b7d6d2f692bc6cfb0af90582acea47ca95b", func := "pinchcock/pinchcocklaw08.MedianSays", spec := "medianSays", recurses := true, apart := false, narrowed := true }
def MedianSaysUptoSaid : Prop := medianSaysUptoRow.holds Try.pinned (OpenSpec.upto medianSaysSpec)

/-- 'pinchcocklaw08.MedianSorts', WHERE WHAT IT READS IS OF BULK AT MOST 1048576: true; the input reads as it did. -/
def medianSortsUptoRow : OpenClaim := { program := "ytmdhmnpkiolmmaa", sum := "5597fc6dc13c7673432b7667282f7b7d6d2f692bc6cfb0af90582acea47ca95b", func := "pinchcock/pinchcocklaw08.MedianSorts", spec := "medianSorts", recurses := true, apart := false, narrowed := true }
def MedianSortsUptoSaid : Prop := medianSortsUptoRow.holds Try.pinned (OpenSpec.upto medianSortsSpec)

/-- 'pinchcocklaw08.MedianHolds', WHERE WHAT IT READS IS OF BULK AT MOST 1048576: true; the input reads as it did. -/
def medianHoldsUptoRow : OpenClaim := { program := "ytmdhmnpkiolmmaa", sum := "5597fc6dc13c7673432b7667282f7b7d6d2f692bc6cfb0af90582acea47ca95b", func := "pinchcock/pinchcocklaw08.MedianHolds", spec := "medianHolds", recurses := true, apart := false, narrowed := true }
def MedianHoldsUptoSaid : Prop := medianHoldsUptoRow.holds Try.pinned (OpenSpec.upto medianHoldsSpec)

/-- 'pinchcocklaw08.MedianTurns', WHERE WHAT IT READS IS OF BULK AT MOST 1048576: true; the input reads as it did. -/
def medianTurnsUptoRow : OpenClaim := { program := "ytmdhmnpkiolmmaa", sum := "5597fc6dc13c7673432b7667282f7b7d6d2f692bc6cfb0af90582acea47ca95b", func := "pinchcock/pinchcocklaw08.MedianTurns", spec := "medianTurns", recurses := true, apart := false, narrowed := true }
def MedianTurnsUptoSaid : Prop := medianTurnsUptoRow.holds Try.pinned (OpenSpec.upto medianTurnsSpec)

end Rows
end Go.Proofs.Ytmdhmnpkiolmmaa
