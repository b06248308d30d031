/-
  No cell of these rows narrows 'for every input' (looked for: loops, veiled, ifaces, maps, wideKeys, modest, calm, conditions, laid).
  DERIVED. THE GIVEN ROWS OF THIS SEAT. 3 by the template 'for every input the law returns true; each argument reads behind the call as it read before'; 0 by the template 'total and deterministic' (their statements: YtmjggnjddhbejaaTotals.lean).
  GIVEN WITH THE SEED: the statements are not yours to turn. If you find one false, say at which input.
  Laid BY PROGRAM, IN A SANDBOX (cutbox-rows.mjs): the forced cells as the released guide's own fill.sh prints them over the translation fbffbfab29d4a231… (all of the seat's roots in one cut). By AI agents, Wed Nov 11 2026. No macro, syntax, notation, axiom, sorry.
-/
import Derived.Test.YtmjggnjddhbejaaChecked
import GoSem.Claim
import GoSem.ClaimJoined
import GoSem.ClaimMapViews
import Derived.JoinedTies
import Derived.KernelRfl
namespace Go.Proofs.Ytmjggnjddhbejaa
/- THE CELL 'sum', in the pinned program and in every row, IS THE sha256 OF THE DUMP (.gsa) THAT YtmjggnjddhbejaaProg.lean LOADS. Nothing in Lean hashes anything: it is a label: what it is worth is what the hold of that sum in a sandbox is worth. -/
noncomputable def Try.pinned : Pinned := { name := "ytmjggnjddhbejaa", sum := "fbffbfab29d4a23195b0a1b2a707ddb701f7fc799200c1523a697149ea7bb3d1", checked := Try.checked }
namespace Rows
def none {H : Type} : Left H := { results := [], args := [] }

/-- 'pinchcocklaw09.DropsetLeast': WHATEVER THE INPUT: true; the input reads as it did. -/
def dropsetLeastSpec : ChangeSpec := { name := "dropsetLeast", fn := fun _ => fun
  | [d1, d2] => { results := [.lit (.bool true)], args := [d1, d2] }
  | _ => none }
def dropsetLeastRow : OpenClaim := { program := "ytmjggnjddhbejaa", sum := "fbffbfab29d4a23195b0a1b2a707ddb701f7fc799200c1523a697149ea7bb3d1", func := "pinchcock/pinchcocklaw09.DropsetLeast", spec := "dropsetLeast", inPlace := ["math/bits.Add64"], unfollowed := true, recurses := true, named := ["math/bits.divideError", "math/bits.overflowError"], apart := false }
def DropsetLeastSaid : Prop := dropsetLeastRow.holds Try.pinned (OpenSpec.ofChange dropsetLeastSpec)

/-- ITS FALSE NEIGHBOUR: 'it returns false'. Refute it at one input. -/
def dropsetLeastWrong : ChangeSpec := { name := "dropsetLeast", fn := fun _ => fun
  | [d1, d2] => { results := [.lit (.bool false)], args := [d1, d2] }
  | _ => none }
def DropsetLeastWrongFalsely : Prop := dropsetLeastRow.holds Try.pinned (OpenSpec.ofChange dropsetLeastWrong)

/-- 'pinchcocklaw09.DropsetAdds': WHATEVER THE INPUT: true; the input reads as it did. -/
def dropsetAddsSpec : ChangeSpec := { name := "dropsetAdds", fn := fun _ => fun
  | [d1, d2, d3] => { results := [.lit (.bool true)], args := [d1, d2, d3] }
  | _ => none }
def dropsetAddsRow : OpenClaim := { program := "ytmjggnjddhbejaa", sum := "fbffbfab29d4a23195b0a1b2a707ddb701f7fc799200c1523a697149ea7bb3d1", func := "pinchcock/pinchcocklaw09.DropsetAdds", spec := "dropsetAdds", inPlace := ["math/bits.Add64"], unfollowed := true, recurses := true, named := ["math/bits.divideError", "math/bits.overflowError"], apart := false }
def DropsetAddsSaid : Prop := dropsetAddsRow.holds Try.pinned (OpenSpec.ofChange dropsetAddsSpec)

/-- ITS FALSE NEIGHBOUR: 'it returns false'. Refute it at one input. -/
def dropsetAddsWrong : ChangeSpec := { name := "dropsetAdds", fn := fun _ => fun
  | [d1, d2, d3] => { results := [.lit (.bool false)], args := [d1, d2, d3] }
  | _ => none }
def DropsetAddsWrongFalsely : Prop := dropsetAddsRow.holds Try.pinned (OpenSpec.ofChange dropsetAddsWrong)

/-- 'pinchcocklaw09.DropsetCalm': WHATEVER THE INPUT: true; the input reads as it did. -/
def dropsetCalmSpec : ChangeSpec := { name := "dropsetCalm", fn := fun _ => fun
  | [d1, d2, d3] => { results := [.lit (.bool true)], args := [d1, d2, d3] }
  | _ => none }
def dropsetCalmRow : OpenClaim := { program := "ytmjggnjddhbejaa", sum := "fbffbfab29d4a23195b0a1b2a707ddb701f7fc799200c1523a697149ea7bb3d1", func := "pinchcock/pinchcocklaw09.DropsetCalm", spec := "dropsetCalm", inPlace := ["math/bits.Add64"], unfollowed := true, recurses := true, named := ["math/bits.divideError", "math/bits.overflowError"], apart := false }
def DropsetCalmSaid : Prop := dropsetCalmRow.holds Try.pinned (OpenSpec.ofChange dropsetCalmSpec)

/-- ITS FALSE NEIGHBOUR: 'it returns false'. Refute it at one input. -/
def dropsetCalmWrong : ChangeSpec := { name := "dropsetCalm", fn := fun _ => fun
  | [d1, d2, d3] => { results := [.lit (.bool false)], args := [d1, d2, d3] }
  | _ => none }
def DropsetCalmWrongFalsely : Prop := dropsetCalmRow.holds Try.pinned (OpenSpec.ofChange dropsetCalmWrong)

/- THE SECOND FORM. 'bulk': how many values and letters a reading holds, each counted each time it is reached (what is shared counts as often as it is met; a slice's spare places count too). A statement '..UptoSaid' is the law's where the arguments, and the package variables that the reading takes, are together of bulk at most 1048576: NARROWER than '..Said'. Prove '..Said' where nothing that the law and all that it calls make is longer than what came in: it says more and counts as full. Else prove '..UptoSaid'. A law counts once. -/
mutual
def uptoBulk {H : Type} : DataW H → Nat
  | .lit (.string bytes) => bytes.length + 1
  | .lit _ => 1
  | .nil => 1
  | .ptr d => uptoBulk d + 1
  | .slice elems spare => uptoBulkAll elems + uptoBulkAll spare + 1
  | .agg parts => uptoBulkAll parts + 1
  | .iface _ d => uptoBulk d + 1
  | .map entries => uptoBulkEntries entries + 1
  | .held _ => 1
def uptoBulkAll {H : Type} : List (DataW H) → Nat
  | [] => 0
  | d :: r => uptoBulk d + uptoBulkAll r
def uptoBulkEntries {H : Type} : List (Lit × DataW H) → Nat
  | [] => 0
  | x :: r => uptoBulkEntry x + uptoBulkEntries r
def uptoBulkEntry {H : Type} : Lit × DataW H → Nat
  | (.string bytes, d) => bytes.length + uptoBulk d + 1
  | (_, d) => uptoBulk d + 1
 end
def uptoSmall : (H : Type) → List (DataW H) → Bool := fun _ ds => decide (uptoBulkAll ds ≤ 1048576)
def OpenSpec.upto (s : _root_.Go.ChangeSpec) : _root_.Go.OpenSpec := { _root_.Go.OpenSpec.ofChange s with cond := some uptoSmall }

/-- 'pinchcocklaw09.DropsetLeast', WHERE WHAT IT READS IS OF BULK AT MOST 1048576: true; the input reads as it did. -/
def dropsetLeastUptoRow : OpenClaim := { program := "ytmjggnjddhbejaa", sum := "fbffbfab29d4a23195b0a1b2a707ddb701f7fc799200c1523a697149ea7bb3d1", func := "pinchcock/pinchcocklaw09.DropsetLeast", spec := "dropsetLeast", inPlace := ["math/bits.Add64"], unfollowed := true, recurses := true, named := ["math/bits.divideError", "math/bits.overflowError"], apart := false, narrowed := true }
def DropsetLeastUptoSaid : Prop := dropsetLeastUptoRow.holds Try.pinned (OpenSpec.upto dropsetLeastSpec)

/-- 'pinchcocklaw09.DropsetAdds', WHERE WHAT IT READS IS OF BULK AT MOST 1048576: true; the input reads as it did. -/
def dropsetAddsUptoRow : OpenClaim := { program := "ytmjggnjddhbejaa", sum := "fbffbfab29d4a23195b0a1b2a707ddb701f7fc799200c1523a697149ea7bb3d1", func := "pinchcock/pinchcocklaw09.DropsetAdds", spec := "dropsetAdds", inPlace := ["math/bits.Add64"], unfollowed := true, recurses := true, named := ["math/bits.divideError", "math/bits.overflowError"], apart := false, narrowed := true }
def DropsetAddsUptoSaid : Prop := dropsetAddsUptoRow.holds Try.pinned (OpenSpec.upto dropsetAddsSpec)

/-- 'pinchcocklaw09.DropsetCalm', WHERE WHAT IT READS IS OF BULK AT MOST 1048576: true; the input reads as it did. -/
def dropsetCalmUptoRow : OpenClaim := { program := "ytmjggnjddhbejaa", sum := "fbffbfab29d4a23195b0a1b2a707ddb701f7fc799200c1523a697149ea7bb3d1", func := "pinchcock/pinchcocklaw09.DropsetCalm", spec := "dropsetCalm", inPlace := ["math/bits.Add64"], unfollowed := true, recurses := true, named := ["math/bits.divideError", "math/bits.overflowError"], apart := false, narrowed := true }
def DropsetCalmUptoSaid : Prop := dropsetCalmUptoRow.holds Try.pinned (OpenSpec.upto dropsetCalmSpec)

end Rows
end Go.Proofs.Ytmjggnjddhbejaa
