/-
  No cell of these rows narrows 'for every input' (looked for: loops, veiled, ifaces, maps, wideKeys, modest, calm, conditions, laid).
  DERIVED. THE GIVEN ROWS OF THIS SEAT. 4 by the template 'for every input the law returns true; each argument reads behind the call as it read before'; 0 by the template 'total and deterministic' (their statements: YtmemhlhjkpijpaaTotals.lean).
  GIVEN WITH THE SEED: the statements are not yours to turn. If you find one false, say at which input.
  Laid BY PROGRAM, IN A SANDBOX (cutbox-rows.mjs): the forced cells as the released guide's own fill.sh prints them over the translation b3b44b5a15b81685… (all of the seat's roots in one cut). By AI agents, Wed Nov 11 2026. No macro, syntax, notation, axiom, sorry.
-/
import Derived.Test.YtmemhlhjkpijpaaChecked
import GoSem.Claim
import GoSem.ClaimJoined
import GoSem.ClaimMapViews
import Derived.JoinedTies
import Derived.KernelRfl
namespace Go.Proofs.Ytmemhlhjkpijpaa
/- THE CELL 'sum', in the pinned program and in every row, IS THE sha256 OF THE DUMP (.gsa) THAT YtmemhlhjkpijpaaProg.lean LOADS. Nothing in Lean hashes anything: it is a label: what it is worth is what the hold of that sum in a sandbox is worth. -/
noncomputable def Try.pinned : Pinned := { name := "ytmemhlhjkpijpaa", sum := "b3b44b5a15b81685bde5c4cb27747b9711613b14ec6fb0b1e0be66038b9b11a8", checked := Try.checked }
namespace Rows
def none {H : Type} : Left H := { results := [], args := [] }

/-- 'pinchcocklaw57.HoldsSays': WHATEVER THE INPUT: true; the input reads as it did. -/
def holdsSaysSpec : ChangeSpec := { name := "holdsSays", fn := fun _ => fun
  | [d1, d2, d3] => { results := [.lit (.bool true)], args := [d1, d2, d3] }
  | _ => none }
def holdsSaysRow : OpenClaim := { program := "ytmemhlhjkpijpaa", sum := "b3b44b5a15b81685bde5c4cb27747b9711613b14ec6fb0b1e0be66038b9b11a8", func := "pinchcock/pinchcocklaw57.HoldsSays", spec := "holdsSays", unfollowed := true, recurses := true, apart := false }
def HoldsSaysSaid : Prop := holdsSaysRow.holds Try.pinned (OpenSpec.ofChange holdsSaysSpec)

/-- ITS FALSE NEIGHBOUR: 'it returns false'. Refute it at one input. -/
def holdsSaysWrong : ChangeSpec := { name := "holdsSays", fn := fun _ => fun
  | [d1, d2, d3] => { results := [.lit (.bool false)], args := [d1, d2, d3] }
  | _ => none }
def HoldsSaysWrongFalsely : Prop := holdsSaysRow.holds Try.pinned (OpenSpec.ofChange holdsSaysWrong)

/-- 'pinchcocklaw57.HoldsLaws': WHATEVER THE INPUT: true; the input reads as it did. -/
def holdsLawsSpec : ChangeSpec := { name := "holdsLaws", fn := fun _ => fun
  | [d1, d2, d3] => { results := [.lit (.bool true)], args := [d1, d2, d3] }
  | _ => none }
def holdsLawsRow : OpenClaim := { program := "ytmemhlhjkpijpaa", sum := "b3b44b5a15b81685bde5c4cb27747b9711613b14ec6fb0b1e0be66038b9b11a8", func := "pinchcock/pinchcocklaw57.HoldsLaws", spec := "holdsLaws", unfollowed := true, recurses := true, apart := false }
def HoldsLawsSaid : Prop := holdsLawsRow.holds Try.pinned (OpenSpec.ofChange holdsLawsSpec)

/-- ITS FALSE NEIGHBOUR: 'it returns false'. Refute it at one input. -/
def holdsLawsWrong : ChangeSpec := { name := "holdsLaws", fn := fun _ => fun
  | [d1, d2, d3] => { results := [.lit (.bool false)], args := [d1, d2, d3] }
  | _ => none }
def HoldsLawsWrongFalsely : Prop := holdsLawsRow.holds Try.pinned (OpenSpec.ofChange holdsLawsWrong)

/-- 'pinchcocklaw57.HoldsEarly': WHATEVER THE INPUT: true; the input reads as it did. -/
def holdsEarlySpec : ChangeSpec := { name := "holdsEarly", fn := fun _ => fun
  | [d1, d2, d3] => { results := [.lit (.bool true)], args := [d1, d2, d3] }
  | _ => none }
def holdsEarlyRow : OpenClaim := { program := "ytmemhlhjkpijpaa", sum := "b3b44b5a15b81685bde5c4cb27747b9711613b14ec6fb0b1e0be66038b9b11a8", func := "pinchcock/pinchcocklaw57.HoldsEarly", spec := "holdsEarly", unfollowed := true, recurses := true, apart := false }
def HoldsEarlySaid : Prop := holdsEarlyRow.holds Try.pinned (OpenSpec.ofChange holdsEarlySpec)

/-- ITS FALSE NEIGHBOUR: 'it returns false'. Refute it at one input. -/
def holdsEarlyWrong : ChangeSpec := { name := "holdsEarly", fn := fun _ => fun
  | [d1, d2, d3] => { results := [.lit (.bool false)], args := [d1, d2, d3] }
  | _ => none }
def HoldsEarlyWrongFalsely : Prop := holdsEarlyRow.holds Try.pinned (OpenSpec.ofChange holdsEarlyWrong)

/-- 'pinchcocklaw58.MonitorHolds': WHATEVER THE INPUT: true; the input reads as it did. -/
def monitorHoldsSpec : ChangeSpec := { name := "monitorHolds", fn := fun _ => fun
  | [d1, d2] => { results := [.lit (.bool true)], args := [d1, d2] }
  | _ => none }
def monitorHoldsRow : OpenClaim := { program := "ytmemhlhjkpijpaa", sum := "b3b44b5a15b81685bde5c4cb27747b9711613b14ec6fb0b1e0be66038b9b11a8", func := "pinchcock/pinchcocklaw58.MonitorHolds", spec := "monitorHolds", unfollowed := true, recurses := true, apart := false }
def MonitorHoldsSaid : Prop := monitorHoldsRow.holds Try.pinned (OpenSpec.ofChange monitorHoldsSpec)

/-- ITS FALSE NEIGHBOUR: 'it returns false'. Refute it at one input. -/
def monitorHoldsWrong : ChangeSpec := { name := "monitorHolds", fn := fun _ => fun
  | [d1, d2] => { results := [.lit (.bool false)], args := [d1, d2] }
  | _ => none }
def MonitorHoldsWrongFalsely : Prop := monitorHoldsRow.holds Try.pinned (OpenSpec.ofChange monitorHoldsWrong)

/- THE SECOND FORM. 'bulk': how many values and letters a reading holds, each counted each time it is reached (what is shared counts as often as it is met; a slice's spare places count too). A statement '..UptoSaid' is the law's where the arguments, and the package variables that the reading takes, are together of bulk at most 1048576: NARROWER than '..Said'. Prove '..Said' where nothing that the law and all that it calls make is longer than what came in: it says more and counts as full. Else prove '..UptoSaid'. A law counts once. -/
mutual
def uptoBulk {H : Type} : DataW H → Nat
  | .lit (.string bytes) => bytes.length + 1
  | .lit _ => 1
  | .nil => 1
  | .ptr d => uptoBulk d + 1
  | .slice elems spare => uptoBulkAll elems + uptoBulkAll spare + 1
  | .agg parts => uptoBulkAll parts + 1
  | .iface _ d => uptoBulk d + 1
  | .map entries => uptoBulkEntries entries + 1
  | .held _ => 1
def uptoBulkAll {H : Type} : List (DataW H) → Nat
  | [] => 0
  | d :: r => uptoBulk d + uptoBulkAll r
def uptoBulkEntries {H : Type} : List (Lit × DataW H) → Nat
  | [] => 0
  | x :: r => uptoBulkEntry x + uptoBulkEntries r
def uptoBulkEntry {H : Type} : Lit × DataW H → Nat
  | (.string bytes, d) => bytes.length + uptoBulk d + 1
  | (_, d) => uptoBulk d + 1
 end
def uptoSmall : (H : Type) → List (DataW H) → Bool := fun _ ds => decide (uptoBulkAll ds ≤ 1048576)
def OpenSpec.upto (s : _root_.Go.ChangeSpec) : _root_.Go.OpenSpec := { _root_.Go.OpenSpec.ofChange s with cond := some uptoSmall }

/-- 'pinchcocklaw57.HoldsSays', WHERE WHAT IT READS IS OF BULK AT MOST 1048576: true; the input reads as it did. -/
def holdsSaysUptoRow : OpenClaim := { program := "ytmemhlhjkpijpaa", sum := "b3b44b5a15b81685bde5c4cb27747b9711613b14ec6fb0b1e0be66038b9b11a8", func := "pinchcock/pinchcocklaw57.HoldsSays", spec := "holdsSays", unfollowed := true, recurses := true, apart := false, narrowed := true }
def HoldsSaysUptoSaid : Prop := holdsSaysUptoRow.holds Try.pinned (OpenSpec.upto holdsSaysSpec)

/-- 'pinchcocklaw57.HoldsLaws', WHERE WHAT IT READS IS OF BULK AT MOST 1048576: true; the input reads as it did. -/
def holdsLawsUptoRow : OpenClaim := { program := "ytmemhlhjkpijpaa", sum := "b3b44b5a15b81685bde5c4cb27747b9711613b14ec6fb0b1e0be66038b9b11a8", func := "pinchcock/pinchcocklaw57.HoldsLaws", spec := "holdsLaws", unfollowed := true, recurses := true, apart := false, narrowed := true }
def HoldsLawsUptoSaid : Prop := holdsLawsUptoRow.holds Try.pinned (OpenSpec.upto holdsLawsSpec)

/-- 'pinchcocklaw57.HoldsEarly', WHERE WHAT IT READS IS OF BULK AT MOST 1048576: true; the input reads as it did. -/
def holdsEarlyUptoRow : OpenClaim := { program := "ytmemhlhjkpijpaa", sum := "b3b44b5a15b81685bde5c4cb27747b9711613b14ec6fb0b1e0be66038b9b11a8", func := "pinchcock/pinchcocklaw57.HoldsEarly", spec := "holdsEarly", unfollowed := true, recurses := true, apart := false, narrowed := true }
def HoldsEarlyUptoSaid : Prop := holdsEarlyUptoRow.holds Try.pinned (OpenSpec.upto holdsEarlySpec)

/-- 'pinchcocklaw58.MonitorHolds', WHERE WHAT IT READS IS OF BULK AT MOST 1048576: true; the input reads as it did. -/
def monitorHoldsUptoRow : OpenClaim := { program := "ytmemhlhjkpijpaa", sum := "b3b44b5a15b81685bde5c4cb27747b9711613b14ec6fb0b1e0be66038b9b11a8", func := "pinchcock/pinchcocklaw58.MonitorHolds", spec := "monitorHolds", unfollowed := true, recurses := true, apart := false, narrowed := true }
def MonitorHoldsUptoSaid : Prop := monitorHoldsUptoRow.holds Try.pinned (OpenSpec.upto monitorHoldsSpec)

end Rows
end Go.Proofs.Ytmemhlhjkpijpaa
