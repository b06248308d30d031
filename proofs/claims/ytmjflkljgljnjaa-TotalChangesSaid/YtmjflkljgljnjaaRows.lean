/-
  No cell of these rows narrows 'for every input' (looked for: loops, veiled, ifaces, maps, wideKeys, modest, calm, conditions, laid).
  DERIVED. THE GIVEN ROWS OF THIS SEAT. 3 by the template 'for every input the law returns true; each argument reads behind the call as it read before'; 0 by the template 'total and deterministic' (their statements: YtmjflkljgljnjaaTotals.lean).
  GIVEN WITH THE SEED: the statements are not yours to turn. If you find one false, say at which input.
  Laid BY PROGRAM, IN A SANDBOX (cutbox-rows.mjs): the forced cells as the released guide's own fill.sh prints them over the translation c8eed3e750e1e0d9… (all of the seat's roots in one cut). By AI agents, Wed Nov 11 2026. No macro, syntax, notation, axiom, sorry.
-/
import Derived.Test.YtmjflkljgljnjaaChecked
import GoSem.Claim
import GoSem.ClaimJoined
import GoSem.ClaimMapViews
import Derived.JoinedTies
import Derived.KernelRfl
namespace Go.Proofs.Ytmjflkljgljnjaa
/- THE CELL 'sum', in the pinned program and in every row, IS THE sha256 OF THE DUMP (.gsa) THAT YtmjflkljgljnjaaProg.lean LOADS. Nothing in Lean hashes anything: it is a label: what it is worth is what the hold of that sum in a sandbox is worth. -/
noncomputable def Try.pinned : Pinned := { name := "ytmjflkljgljnjaa", sum := "c8eed3e750e1e0d93730f65eab4a71c8b5ca554ceb535b6108922146ce6cafdf", checked := Try.checked }
namespace Rows
def none {H : Type} : Left H := { results := [], args := [] }

/-- 'pinchcocklaw25.TotalSays': WHATEVER THE INPUT: true; the input reads as it did. -/
def totalSaysSpec : ChangeSpec := { name := "totalSays", fn := fun _ => fun
  | [d1, d2] => { results := [.lit (.bool true)], args := [d1, d2] }
  | _ => none }
def totalSaysRow : OpenClaim := { program := "ytmjflkljgljnjaa", sum := "c8eed3e750e1e0d93730f65eab4a71c8b5ca554ceb535b6108922146ce6cafdf", func := "pinchcock/pinchcocklaw25.TotalSays", spec := "totalSays", inPlace := ["math/bits.Add64"], unfollowed := true, recurses := true, named := ["math/bits.divideError", "math/bits.overflowError"], apart := false }
def TotalSaysSaid : Prop := totalSaysRow.holds Try.pinned (OpenSpec.ofChange totalSaysSpec)

/-- ITS FALSE NEIGHBOUR: 'it returns false'. Refute it at one input. -/
def totalSaysWrong : ChangeSpec := { name := "totalSays", fn := fun _ => fun
  | [d1, d2] => { results := [.lit (.bool false)], args := [d1, d2] }
  | _ => none }
def TotalSaysWrongFalsely : Prop := totalSaysRow.holds Try.pinned (OpenSpec.ofChange totalSaysWrong)

/-- 'pinchcocklaw25.TotalCounts': WHATEVER THE INPUT: true; the input reads as it did. -/
def totalCountsSpec : ChangeSpec := { name := "totalCounts", fn := fun _ => fun
  | [d1, d2, d3] => { results := [.lit (.bool true)], args := [d1, d2, d3] }
  | _ => none }
def totalCountsRow : OpenClaim := { program := "ytmjflkljgljnjaa", sum := "c8eed3e750e1e0d93730f65eab4a71c8b5ca554ceb535b6108922146ce6cafdf", func := "pinchcock/pinchcocklaw25.TotalCounts", spec := "totalCounts", inPlace := ["math/bits.Add64"], unfollowed := true, recurses := true, named := ["math/bits.divideError", "math/bits.overflowError"], apart := false }
def TotalCountsSaid : Prop := totalCountsRow.holds Try.pinned (OpenSpec.ofChange totalCountsSpec)

/-- ITS FALSE NEIGHBOUR: 'it returns false'. Refute it at one input. -/
def totalCountsWrong : ChangeSpec := { name := "totalCounts", fn := fun _ => fun
  | [d1, d2, d3] => { results := [.lit (.bool false)], args := [d1, d2, d3] }
  | _ => none }
def TotalCountsWrongFalsely : Prop := totalCountsRow.holds Try.pinned (OpenSpec.ofChange totalCountsWrong)

/-- 'pinchcocklaw25.TotalChanges': WHATEVER THE INPUT: true; the input reads as it did. -/
def totalChangesSpec : ChangeSpec := { name := "totalChanges", fn := fun _ => fun
  | [d1, d2, d3] => { results := [.lit (.bool true)], args := [d1, d2, d3] }
  | _ => none }
def totalChangesRow : OpenClaim := { program := "ytmjflkljgljnjaa", sum := "c8eed3e750e1e0d93730f65eab4a71c8b5ca554ceb535b6108922146ce6cafdf", func := "pinchcock/pinchcocklaw25.TotalChanges", spec := "totalChanges", inPlace := ["math/bits.Add64"], unfollowed := true, recurses := true, named := ["math/bits.divideError", "math/bits.overflowError"], apart := false }
def TotalChangesSaid : Prop := totalChangesRow.holds Try.pinned (OpenSpec.ofChange totalChangesSpec)

/-- ITS FALSE NEIGHBOUR: 'it returns false'. Refute it at one input. -/
def totalChangesWrong : ChangeSpec := { name := "totalChanges", fn := fun _ => fun
  | [d1, d2, d3] => { results := [.lit (.bool false)], args := [d1, d2, d3] }
  | _ => none }
def TotalChangesWrongFalsely : Prop := totalChangesRow.holds Try.pinned (OpenSpec.ofChange totalChangesWrong)

/- THE SECOND FORM. 'bulk': how many values and letters a reading holds, each counted each time it is reached (what is shared counts as often as it is met; a slice's spare places count too). A statement '..UptoSaid' is the law's where the arguments, and the package variables that the reading takes, are together of bulk at most 1048576: NARROWER than '..Said'. Prove '..Said' where nothing that the law and all that it calls make is longer than what came in: it says more and counts as full. Else prove '..UptoSaid'. A law counts once. -/
mutual
def uptoBulk {H : Type} : DataW H → Nat
  | .lit (.string bytes) => bytes.length + 1
  | .lit _ => 1
  | .nil => 1
  | .ptr d => uptoBulk d + 1
  | .slice elems spare => uptoBulkAll elems + uptoBulkAll spare + 1
  | .agg parts => uptoBulkAll parts + 1
  | .iface _ d => uptoBulk d + 1
  | .map entries => uptoBulkEntries entries + 1
  | .held _ => 1
def uptoBulkAll {H : Type} : List (DataW H) → Nat
  | [] => 0
  | d :: r => uptoBulk d + uptoBulkAll r
def uptoBulkEntries {H : Type} : List (Lit × DataW H) → Nat
  | [] => 0
  | x :: r => uptoBulkEntry x + uptoBulkEntries r
def uptoBulkEntry {H : Type} : Lit × DataW H → Nat
  | (.string bytes, d) => bytes.length + uptoBulk d + 1
  | (_, d) => uptoBulk d + 1
 end
def uptoSmall : (H : Type) → List (DataW H) → Bool := fun _ ds => decide (uptoBulkAll ds ≤ 1048576)
def OpenSpec.upto (s : _root_.Go.ChangeSpec) : _root_.Go.OpenSpec := { _root_.Go.OpenSpec.ofChange s with cond := some uptoSmall }

/-- 'pinchcocklaw25.TotalSays', WHERE WHAT IT READS IS OF BULK AT MOST 1048576: true; the input reads as it did. -/
def totalSaysUptoRow : OpenClaim := { program := "ytmjflkljgljnjaa", sum := "c8eed3e750e1e0d93730f65eab4a71c8b5ca554ceb535b6108922146ce6cafdf", func := "pinchcock/pinchcocklaw25.TotalSays", spec := "totalSays", inPlace := ["math/bits.Add64"], unfollowed := true, recurses := true, named := ["math/bits.divideError", "math/bits.overflowError"], apart := false, narrowed := true }
def TotalSaysUptoSaid : Prop := totalSaysUptoRow.holds Try.pinned (OpenSpec.upto totalSaysSpec)

/-- 'pinchcocklaw25.TotalCounts', WHERE WHAT IT READS IS OF BULK AT MOST 1048576: true; the input reads as it did. -/
def totalCountsUptoRow : OpenClaim := { program := "ytmjflkljgljnjaa", sum := "c8eed3e750e1e0d93730f65eab4a71c8b5ca554ceb535b6108922146ce6cafdf", func := "pinchcock/pinchcocklaw25.TotalCounts", spec := "totalCounts", inPlace := ["math/bits.Add64"], unfollowed := true, recurses := true, named := ["math/bits.divideError", "math/bits.overflowError"], apart := false, narrowed := true }
def TotalCountsUptoSaid : Prop := totalCountsUptoRow.holds Try.pinned (OpenSpec.upto totalCountsSpec)

/-- 'pinchcocklaw25.TotalChanges', WHERE WHAT IT READS IS OF BULK AT MOST 1048576: true; the input reads as it did. -/
def totalChangesUptoRow : OpenClaim := { program := "ytmjflkljgljnjaa", sum := "c8eed3e750e1e0d93730f65eab4a71c8b5ca554ceb535b6108922146ce6cafdf", func := "pinchcock/pinchcocklaw25.TotalChanges", spec := "totalChanges", inPlace := ["math/bits.Add64"], unfollowed := true, recurses := true, named := ["math/bits.divideError", "math/bits.overflowError"], apart := false, narrowed := true }
def TotalChangesUptoSaid : Prop := totalChangesUptoRow.holds Try.pinned (OpenSpec.upto totalChangesSpec)

end Rows
end Go.Proofs.Ytmjflkljgljnjaa
