/-
  No cell of these rows narrows 'for every input' (looked for: loops, veiled, ifaces, maps, wideKeys, modest, calm, conditions, laid).
  DERIVED. THE GIVEN ROWS OF THIS SEAT. 3 by the template 'for every input the law returns true; each argument reads behind the call as it read before'; 0 by the template 'total and deterministic' (their statements: YtgfioiclhoiobaaTotals.lean).
  GIVEN WITH THE SEED: the statements are not yours to turn. If you find one false, say at which input.
  Laid BY PROGRAM, IN A SANDBOX (cutbox-rows.mjs): the forced cells as the released guide's own fill.sh prints them over the translation 0a9044a27d2e140c… (all of the seat's roots in one cut). By AI agents, Wed Nov 11 2026. No macro, syntax, notation, axiom, sorry.
-/
import Derived.Test.YtgfioiclhoiobaaChecked
import GoSem.Claim
import GoSem.ClaimJoined
import GoSem.ClaimMapViews
import Derived.JoinedTies
import Derived.KernelRfl
namespace Go.Proofs.Ytgfioiclhoiobaa
/- THE CELL 'sum', in the pinned program and in every row, IS THE sha256 OF THE DUMP (.gsa) THAT YtgfioiclhoiobaaProg.lean LOADS. Nothing in Lean hashes anything: it is a label: what it is worth is what the hold of that sum in a sandbox is worth. -/
noncomputable def Try.pinned : Pinned := { name := "ytgfioiclhoiobaa", sum := "0a9044a27d2e140cbdf68c70b87f8de35008963b1e3ce7ec3d1098314cc0bd2c", checked := Try.checked }
namespace Rows
def none {H : Type} : Left H := { results := [], args := [] }

/-- 'pinchcocklaw20.BeamSays': WHATEVER THE INPUT: true; the input reads as it did. -/
def beamSaysSpec : ChangeSpec := { name := "beamSays", fn := fun _ => fun
  | [d1, d2, d3] => { results := [.lit (.bool true)], args := [d1, d2, d3] }
  | _ => none }
def beamSaysRow : OpenClaim := { program := "ytgfioiclhoiobaa", sum := "0a9044a27d2e140cbdf68c70b87f8de35008963b1e3ce7ec3d1098314cc0bd2c", func := "pinchcock/pinchcocklaw20.BeamSays", spec := "beamSays", unfollowed := true, recurses := true, apart := false }
def BeamSaysSaid : Prop := beamSaysRow.holds Try.pinned (OpenSpec.ofChange beamSaysSpec)

/-- ITS FALSE NEIGHBOUR: 'it returns false'. Refute it at one input. -/
def beamSaysWrong : ChangeSpec := { name := "beamSays", fn := fun _ => fun
  | [d1, d2, d3] => { results := [.lit (.bool false)], args := [d1, d2, d3] }
  | _ => none }
def BeamSaysWrongFalsely : Prop := beamSaysRow.holds Try.pinned (OpenSpec.ofChange beamSaysWrong)

/-- 'pinchcocklaw20.BeamRuns': WHATEVER THE INPUT: true; the input reads as it did. -/
def beamRunsSpec : ChangeSpec := { name := "beamRuns", fn := fun _ => fun
  | [d] => { results := [.lit (.bool true)], args := [d] }
  | _ => none }
def beamRunsRow : OpenClaim := { program := "ytgfioiclhoiobaa", sum := "0a9044a27d2e140cbdf68c70b87f8de35008963b1e3ce7ec3d1098314cc0bd2c", func := "pinchcock/pinchcocklaw20.BeamRuns", spec := "beamRuns", unfollowed := true, recurses := true, apart := false }
def BeamRunsSaid : Prop := beamRunsRow.holds Try.pinned (OpenSpec.ofChange beamRunsSpec)

/-- ITS FALSE NEIGHBOUR: 'it returns false'. Refute it at one input. -/
def beamRunsWrong : ChangeSpec := { name := "beamRuns", fn := fun _ => fun
  | [d] => { results := [.lit (.bool false)], args := [d] }
  | _ => none }
def BeamRunsWrongFalsely : Prop := beamRunsRow.holds Try.pinned (OpenSpec.ofChange beamRunsWrong)

/-- 'pinchcocklaw20.BeamParts': WHATEVER THE INPUT: true; the input reads as it did. -/
def beamPartsSpec : ChangeSpec := { name := "beamParts", fn := fun _ => fun
  | [d1, d2] => { results := [.lit (.bool true)], args := [d1, d2] }
  | _ => none }
def beamPartsRow : OpenClaim := { program := "ytgfioiclhoiobaa", sum := "0a9044a27d2e140cbdf68c70b87f8de35008963b1e3ce7ec3d1098314cc0bd2c", func := "pinchcock/pinchcocklaw20.BeamParts", spec := "beamParts", unfollowed := true, recurses := true, apart := false }
def BeamPartsSaid : Prop := beamPartsRow.holds Try.pinned (OpenSpec.ofChange beamPartsSpec)

/-- ITS FALSE NEIGHBOUR: 'it returns false'. Refute it at one input. -/
def beamPartsWrong : ChangeSpec := { name := "beamParts", fn := fun _ => fun
  | [d1, d2] => { results := [.lit (.bool false)], args := [d1, d2] }
  | _ => none }
def BeamPartsWrongFalsely : Prop := beamPartsRow.holds Try.pinned (OpenSpec.ofChange beamPartsWrong)

/- THE SECOND FORM. 'bulk': how many values and letters a reading holds, each counted each time it is reached (what is shared counts as often as it is met; a slice's spare places count too). A statement '..UptoSaid' is the law's where the arguments, and the package variables that the reading takes, are together of bulk at most 1048576: NARROWER than '..Said'. Prove '..Said' where nothing that the law and all that it calls make is longer than what came in: it says more and counts as full. Else prove '..UptoSaid'. A law counts once. -/
mutual
def uptoBulk {H : Type} : DataW H → Nat
  | .lit (.string bytes) => bytes.length + 1
  | .lit _ => 1
  | .nil => 1
  | .ptr d => uptoBulk d + 1
  | .slice elems spare => uptoBulkAll elems + uptoBulkAll spare + 1
  | .agg parts => uptoBulkAll parts + 1
  | .iface _ d => uptoBulk d + 1
  | .map entries => uptoBulkEntries entries + 1
  | .held _ => 1
def uptoBulkAll {H : Type} : List (DataW H) → Nat
  | [] => 0
  | d :: r => uptoBulk d + uptoBulkAll r
def uptoBulkEntries {H : Type} : List (Lit × DataW H) → Nat
  | [] => 0
  | x :: r => uptoBulkEntry x + uptoBulkEntries r
def uptoBulkEntry {H : Type} : Lit × DataW H → Nat
  | (.string bytes, d) => bytes.length + uptoBulk d + 1
  | (_, d) => uptoBulk d + 1
 end
def uptoSmall : (H : Type) → List (DataW H) → Bool := fun _ ds => decide (uptoBulkAll ds ≤ 1048576)
def OpenSpec.upto (s : _root_.Go.ChangeSpec) : _root_.Go.OpenSpec := { _root_.Go.OpenSpec.ofChange s with cond := some uptoSmall }

/-- 'pinchcocklaw20.BeamSays', WHERE WHAT IT READS IS OF BULK AT MOST 1048576: true; the input reads as it did. -/
def beamSaysUptoRow : OpenClaim := { program := "ytgfioiclhoiobaa", sum := "0a9044a27d2e140cbdf68c70b87f8de35008963b1e3ce7ec3d1098314cc0bd2c", func := "pinchcock/pinchcocklaw20.BeamSays", spec := "beamSays", unfollowed := true, recurses := true, apart := false, narrowed := true }
def BeamSaysUptoSaid : Prop := beamSaysUptoRow.holds Try.pinned (OpenSpec.upto beamSaysSpec)

/-- 'pinchcocklaw20.BeamRuns', WHERE WHAT IT READS IS OF BULK AT MOST 1048576: true; the input reads as it did. -/
def beamRunsUptoRow : OpenClaim := { program := "ytgfioiclhoiobaa", sum := "0a9044a27d2e140cbdf68c70b87f8de35008963b1e3ce7ec3d1098314cc0bd2c", func := "pinchcock/pinchcocklaw20.BeamRuns", spec := "beamRuns", unfollowed := true, recurses := true, apart := false, narrowed := true }
def BeamRunsUptoSaid : Prop := beamRunsUptoRow.holds Try.pinned (OpenSpec.upto beamRunsSpec)

/-- 'pinchcocklaw20.BeamParts', WHERE WHAT IT READS IS OF BULK AT MOST 1048576: true; the input reads as it did. -/
def beamPartsUptoRow : OpenClaim := { program := "ytgfioiclhoiobaa", sum := "0a9044a27d2e140cbdf68c70b87f8de35008963b1e3ce7ec3d1098314cc0bd2c", func := "pinchcock/pinchcocklaw20.BeamParts", spec := "beamParts", unfollowed := true, recurses := true, apart := false, narrowed := true }
def BeamPartsUptoSaid : Prop := beamPartsUptoRow.holds Try.pinned (OpenSpec.upto beamPartsSpec)

end Rows
end Go.Proofs.Ytgfioiclhoiobaa
