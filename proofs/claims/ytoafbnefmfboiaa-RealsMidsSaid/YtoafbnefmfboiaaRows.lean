/-
  No cell of these rows narrows 'for every input' (looked for: loops, veiled, ifaces, maps, wideKeys, modest, calm, conditions, laid).
  DERIVED. THE GIVEN ROWS OF THIS SEAT. 5 by the template 'for every input the law returns true; each argument reads behind the call as it read before'; 0 by the template 'total and deterministic' (their statements: YtoafbnefmfboiaaTotals.lean).
  GIVEN WITH THE SEED: the statements are not yours to turn. If you find one false, say at which input.
  Laid BY PROGRAM, IN A SANDBOX (cutbox-rows.mjs): the forced cells as the released guide's own fill.sh prints them over the translation f14900d80c6b0c14… (all of the seat's roots in one cut). By AI agents, Wed Nov 11 2026. No macro, syntax, notation, axiom, sorry.
-/
import Derived.Test.YtoafbnefmfboiaaChecked
import GoSem.Claim
import GoSem.ClaimJoined
import GoSem.ClaimMapViews
import Derived.JoinedTies
import Derived.KernelRfl
namespace Go.Proofs.Ytoafbnefmfboiaa
/- THE CELL 'sum', in the pinned program and in every row, IS THE sha256 OF THE DUMP (.gsa) THAT YtoafbnefmfboiaaProg.lean LOADS. Nothing in Lean hashes anything: it is a label: what it is worth is what the hold of that sum in a sandbox is worth. -/
noncomputable def Try.pinned : Pinned := { name := "ytoafbnefmfboiaa", sum := "f14900d80c6b0c1498c11f458e57167bdf7fa3abe7353976ae9a23b156409df8", checked := Try.checked }
namespace Rows
def none {H : Type} : Left H := { results := [], args := [] }

/-- 'pinchcocklaw03.RealsSays': WHATEVER THE INPUT: true; the input reads as it did. -/
def realsSaysSpec : ChangeSpec := { name := "realsSays", fn := fun _ => fun
  | [d1, d2, d3] => { results := [.lit (.bool true)], args := [d1, d2, d3] }
  | _ => none }
def realsSaysRow : OpenClaim := { program := "ytoafbnefmfboiaa", sum := "f14900d80c6b0c1498c11f458e57167bdf7fa3abe7353976ae9a23b156409df8", func := "pinchcock/pinchcocklaw03.RealsSays", spec := "realsSays", inPlace := ["math.archFloor", "math.Float64bits", "math.Float64frombits", "math.archTrunc", "math.RoundToEven"], unfollowed := true, recurses := true, apart := false }
def RealsSaysSaid : Prop := realsSaysRow.holds Try.pinned (OpenSpec.ofChange realsSaysSpec)

/-- ITS FALSE NEIGHBOUR: 'it returns false'. Refute it at one input. -/
def realsSaysWrong : ChangeSpec := { name := "realsSays", fn := fun _ => fun
  | [d1, d2, d3] => { results := [.lit (.bool false)], args := [d1, d2, d3] }
  | _ => none }
def RealsSaysWrongFalsely : Prop := realsSaysRow.holds Try.pinned (OpenSpec.ofChange realsSaysWrong)

/-- 'pinchcocklaw03.RealsTakes': WHATEVER THE INPUT: true; the input reads as it did. -/
def realsTakesSpec : ChangeSpec := { name := "realsTakes", fn := fun _ => fun
  | [d1, d2, d3] => { results := [.lit (.bool true)], args := [d1, d2, d3] }
  | _ => none }
def realsTakesRow : OpenClaim := { program := "ytoafbnefmfboiaa", sum := "f14900d80c6b0c1498c11f458e57167bdf7fa3abe7353976ae9a23b156409df8", func := "pinchcock/pinchcocklaw03.RealsTakes", spec := "realsTakes", inPlace := ["math.archFloor", "math.Float64bits", "math.Float64frombits", "math.archTrunc", "math.RoundToEven"], unfollowed := true, recurses := true, apart := false }
def RealsTakesSaid : Prop := realsTakesRow.holds Try.pinned (OpenSpec.ofChange realsTakesSpec)

/-- ITS FALSE NEIGHBOUR: 'it returns false'. Refute it at one input. -/
def realsTakesWrong : ChangeSpec := { name := "realsTakes", fn := fun _ => fun
  | [d1, d2, d3] => { results := [.lit (.bool false)], args := [d1, d2, d3] }
  | _ => none }
def RealsTakesWrongFalsely : Prop := realsTakesRow.holds Try.pinned (OpenSpec.ofChange realsTakesWrong)

/-- 'pinchcocklaw03.RealsRow': WHATEVER THE INPUT: true; the input reads as it did. -/
def realsRowSpec : ChangeSpec := { name := "realsRow", fn := fun _ => fun
  | [d1, d2, d3] => { results := [.lit (.bool true)], args := [d1, d2, d3] }
  | _ => none }
def realsRowRow : OpenClaim := { program := "ytoafbnefmfboiaa", sum := "f14900d80c6b0c1498c11f458e57167bdf7fa3abe7353976ae9a23b156409df8", func := "pinchcock/pinchcocklaw03.RealsRow", spec := "realsRow", inPlace := ["math.Float64bits", "math.archFloor", "math.Float64frombits", "math.archTrunc", "math.RoundToEven"], unfollowed := true, recurses := true, apart := false }
def RealsRowSaid : Prop := realsRowRow.holds Try.pinned (OpenSpec.ofChange realsRowSpec)

/-- ITS FALSE NEIGHBOUR: 'it returns false'. Refute it at one input. -/
def realsRowWrong : ChangeSpec := { name := "realsRow", fn := fun _ => fun
  | [d1, d2, d3] => { results := [.lit (.bool false)], args := [d1, d2, d3] }
  | _ => none }
def RealsRowWrongFalsely : Prop := realsRowRow.holds Try.pinned (OpenSpec.ofChange realsRowWrong)

/-- 'pinchcocklaw03.RealsMids': WHATEVER THE INPUT: true; the input reads as it did. -/
def realsMidsSpec : ChangeSpec := { name := "realsMids", fn := fun _ => fun
  | [d1, d2, d3] => { results := [.lit (.bool true)], args := [d1, d2, d3] }
  | _ => none }
def realsMidsRow : OpenClaim := { program := "ytoafbnefmfboiaa", sum := "f14900d80c6b0c1498c11f458e57167bdf7fa3abe7353976ae9a23b156409df8", func := "pinchcock/pinchcocklaw03.RealsMids", spec := "realsMids", inPlace := ["math.Float64bits", "math.archFloor", "math.Float64frombits", "math.archTrunc", "math.RoundToEven"], unfollowed := true, recurses := true, apart := false }
def RealsMidsSaid : Prop := realsMidsRow.holds Try.pinned (OpenSpec.ofChange realsMidsSpec)

/-- ITS FALSE NEIGHBOUR: 'it returns false'. Refute it at one input. -/
def realsMidsWrong : ChangeSpec := { name := "realsMids", fn := fun _ => fun
  | [d1, d2, d3] => { results := [.lit (.bool false)], args := [d1, d2, d3] }
  | _ => none }
def RealsMidsWrongFalsely : Prop := realsMidsRow.holds Try.pinned (OpenSpec.ofChange realsMidsWrong)

/-- 'pinchcocklaw03.RealsRises': WHATEVER THE INPUT: true; the input reads as it did. -/
def realsRisesSpec : ChangeSpec := { name := "realsRises", fn := fun _ => fun
  | [d1, d2, d3] => { results := [.lit (.bool true)], args := [d1, d2, d3] }
  | _ => none }
def realsRisesRow : OpenClaim := { program := "ytoafbnefmfboiaa", sum := "f14900d80c6b0c1498c11f458e57167bdf7fa3abe7353976ae9a23b156409df8", func := "pinchcock/pinchcocklaw03.RealsRises", spec := "realsRises", inPlace := ["math.Float64bits", "math.archFloor", "math.Float64frombits", "math.archTrunc", "math.RoundToEven"], unfollowed := true, recurses := true, apart := false }
def RealsRisesSaid : Prop := realsRisesRow.holds Try.pinned (OpenSpec.ofChange realsRisesSpec)

/-- ITS FALSE NEIGHBOUR: 'it returns false'. Refute it at one input. -/
def realsRisesWrong : ChangeSpec := { name := "realsRises", fn := fun _ => fun
  | [d1, d2, d3] => { results := [.lit (.bool false)], args := [d1, d2, d3] }
  | _ => none }
def RealsRisesWrongFalsely : Prop := realsRisesRow.holds Try.pinned (OpenSpec.ofChange realsRisesWrong)

/- THE SECOND FORM. 'bulk': how many values and letters a reading holds, each counted each time it is reached (what is shared counts as often as it is met; a slice's spare places count too). A statement '..UptoSaid' is the law's where the arguments, and the package variables that the reading takes, are together of bulk at most 1048576: NARROWER than '..Said'. Prove '..Said' where nothing that the law and all that it calls make is longer than what came in: it says more and counts as full. Else prove '..UptoSaid'. A law counts once. -/
mutual
def uptoBulk {H : Type} : DataW H → Nat
  | .lit (.string bytes) => bytes.length + 1
  | .lit _ => 1
  | .nil => 1
  | .ptr d => uptoBulk d + 1
  | .slice elems spare => uptoBulkAll elems + uptoBulkAll spare + 1
  | .agg parts => uptoBulkAll parts + 1
  | .iface _ d => uptoBulk d + 1
  | .map entries => uptoBulkEntries entries + 1
  | .held _ => 1
def uptoBulkAll {H : Type} : List (DataW H) → Nat
  | [] => 0
  | d :: r => uptoBulk d + uptoBulkAll r
def uptoBulkEntries {H : Type} : List (Lit × DataW H) → Nat
  | [] => 0
  | x :: r => uptoBulkEntry x + uptoBulkEntries r
def uptoBulkEntry {H : Type} : Lit × DataW H → Nat
  | (.string bytes, d) => bytes.length + uptoBulk d + 1
  | (_, d) => uptoBulk d + 1
 end
def uptoSmall : (H : Type) → List (DataW H) → Bool := fun _ ds => decide (uptoBulkAll ds ≤ 1048576)
def OpenSpec.upto (s : _root_.Go.ChangeSpec) : _root_.Go.OpenSpec := { _root_.Go.OpenSpec.ofChange s with cond := some uptoSmall }

/-- 'pinchcocklaw03.RealsSays', WHERE WHAT IT READS IS OF BULK AT MOST 1048576: true; the input reads as it did. -/
def realsSaysUptoRow : OpenClaim := { program := "ytoafbnefmfboiaa", sum := "f14900d80c6b0c1498c11f458e57167bdf7fa3abe7353976ae9a23b156409df8", func := "pinchcock/pinchcocklaw03.RealsSays", spec := "realsSays", inPlace := ["math.archFloor", "math.Float64bits", "math.Float64frombits", "math.archTrunc", "math.RoundToEven"], unfollowed := true, recurses := true, apart := false, narrowed := true }
def RealsSaysUptoSaid : Prop := realsSaysUptoRow.holds Try.pinned (OpenSpec.upto realsSaysSpec)

/-- 'pinchcocklaw03.RealsTakes', WHERE WHAT IT READS IS OF BULK AT MOST 1048576: true; the input reads as it did. -/
def realsTakesUptoRow : OpenClaim := { program := "ytoafbnefmfboiaa", sum := "f14900d80c6b0c1498c11f458e57167bdf7fa3abe7353976ae9a23b156409df8", func := "pinchcock/pinchcocklaw03.RealsTakes", spec := "realsTakes", inPlace := ["math.archFloor", "math.Float64bits", "math.Float64frombits", "math.archTrunc", "math.RoundToEven"], unfollowed := true, recurses := true, apart := false, narrowed := true }
def RealsTakesUptoSaid : Prop := realsTakesUptoRow.holds Try.pinned (OpenSpec.upto realsTakesSpec)

/-- 'pinchcocklaw03.RealsRow', WHERE WHAT IT READS IS OF BULK AT MOST 1048576: true; the input reads as it did. -/
def realsRowUptoRow : OpenClaim := { program := "ytoafbnefmfboiaa", sum := "f14900d80c6b0c1498c11f458e57167bdf7fa3abe7353976ae9a23b156409df8", func := "pinchcock/pinchcocklaw03.RealsRow", spec := "realsRow", inPlace := ["math.Float64bits", "math.archFloor", "math.Float64frombits", "math.archTrunc", "math.RoundToEven"], unfollowed := true, recurses := true, apart := false, narrowed := true }
def RealsRowUptoSaid : Prop := realsRowUptoRow.holds Try.pinned (OpenSpec.upto realsRowSpec)

/-- 'pinchcocklaw03.RealsMids', WHERE WHAT IT READS IS OF BULK AT MOST 1048576: true; the input reads as it did. -/
def realsMidsUptoRow : OpenClaim := { program := "ytoafbnefmfboiaa", sum := "f14900d80c6b0c1498c11f458e57167bdf7fa3abe7353976ae9a23b156409df8", func := "pinchcock/pinchcocklaw03.RealsMids", spec := "realsMids", inPlace := ["math.Float64bits", "math.archFloor", "math.Float64frombits", "math.archTrunc", "math.RoundToEven"], unfollowed := true, recurses := true, apart := false, narrowed := true }
def RealsMidsUptoSaid : Prop := realsMidsUptoRow.holds Try.pinned (OpenSpec.upto realsMidsSpec)

/-- 'pinchcocklaw03.RealsRises', WHERE WHAT IT READS IS OF BULK AT MOST 1048576: true; the input reads as it did. -/
def realsRisesUptoRow : OpenClaim := { program := "ytoafbnefmfboiaa", sum := "f14900d80c6b0c1498c11f458e57167bdf7fa3abe7353976ae9a23b156409df8", func := "pinchcock/pinchcocklaw03.RealsRises", spec := "realsRises", inPlace := ["math.Float64bits", "math.archFloor", "math.Float64frombits", "math.archTrunc", "math.RoundToEven"], unfollowed := true, recurses := true, apart := false, narrowed := true }
def RealsRisesUptoSaid : Prop := realsRisesUptoRow.holds Try.pinned (OpenSpec.upto realsRisesSpec)

end Rows
end Go.Proofs.Ytoafbnefmfboiaa
