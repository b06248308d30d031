/-
  No cell of these rows narrows 'for every input' (looked for: loops, veiled, ifaces, maps, wideKeys, modest, calm, conditions, laid).
  DERIVED. THE GIVEN ROWS OF THIS SEAT. 3 by the template 'for every input the law returns true; each argument reads behind the call as it read before'; 0 by the template 'total and deterministic' (their statements: YtpgelcpnjggakaaTotals.lean).
  GIVEN WITH THE SEED: the statements are not yours to turn. If you find one false, say at which input.
  Laid BY PROGRAM, IN A SANDBOX (cutbox-rows.mjs): the forced cells as the released guide's own fill.sh prints them over the translation 43efe99573553661… (all of the seat's roots in one cut). By AI agents, Wed Nov 11 2026. No macro, syntax, notation, axiom, sorry.
-/
import Derived.Test.YtpgelcpnjggakaaChecked
import GoSem.Claim
import GoSem.ClaimJoined
import GoSem.ClaimMapViews
import Derived.JoinedTies
import Derived.KernelRfl
namespace Go.Proofs.Ytpgelcpnjggakaa
/- THE CELL 'sum', in the pinned program and in every row, IS THE sha256 OF THE DUMP (.gsa) THAT YtpgelcpnjggakaaProg.lean LOADS. Nothing in Lean hashes anything: it is a label: what it is worth is what the hold of that sum in a sandbox is worth. -/
noncomputable def Try.pinned : Pinned := { name := "ytpgelcpnjggakaa", sum := "43efe995735536614d9c4e2cc14bf2032ec71346de86f6cc838f267bdd6db38d", checked := Try.checked }
namespace Rows
def none {H : Type} : Left H := { results := [], args := [] }

/-- 'pinchcocklaw16.AmbientSays': WHATEVER THE INPUT: true; the input reads as it did. -/
def ambientSaysSpec : ChangeSpec := { name := "ambientSays", fn := fun _ => fun
  | [d1, d2, d3] => { results := [.lit (.bool true)], args := [d1, d2, d3] }
  | _ => none }
def ambientSaysRow : OpenClaim := { program := "ytpgelcpnjggakaa", sum := "43efe995735536614d9c4e2cc14bf2032ec71346de86f6cc838f267bdd6db38d", func := "pinchcock/pinchcocklaw16.AmbientSays", spec := "ambientSays", apart := false }
def AmbientSaysSaid : Prop := ambientSaysRow.holds Try.pinned (OpenSpec.ofChange ambientSaysSpec)

/-- ITS FALSE NEIGHBOUR: 'it returns false'. Refute it at one input. -/
def ambientSaysWrong : ChangeSpec := { name := "ambientSays", fn := fun _ => fun
  | [d1, d2, d3] => { results := [.lit (.bool false)], args := [d1, d2, d3] }
  | _ => none }
def AmbientSaysWrongFalsely : Prop := ambientSaysRow.holds Try.pinned (OpenSpec.ofChange ambientSaysWrong)

/-- 'pinchcocklaw16.AmbientTowards': WHATEVER THE INPUT: true; the input reads as it did. -/
def ambientTowardsSpec : ChangeSpec := { name := "ambientTowards", fn := fun _ => fun
  | [d1, d2, d3] => { results := [.lit (.bool true)], args := [d1, d2, d3] }
  | _ => none }
def ambientTowardsRow : OpenClaim := { program := "ytpgelcpnjggakaa", sum := "43efe995735536614d9c4e2cc14bf2032ec71346de86f6cc838f267bdd6db38d", func := "pinchcock/pinchcocklaw16.AmbientTowards", spec := "ambientTowards", apart := false }
def AmbientTowardsSaid : Prop := ambientTowardsRow.holds Try.pinned (OpenSpec.ofChange ambientTowardsSpec)

/-- ITS FALSE NEIGHBOUR: 'it returns false'. Refute it at one input. -/
def ambientTowardsWrong : ChangeSpec := { name := "ambientTowards", fn := fun _ => fun
  | [d1, d2, d3] => { results := [.lit (.bool false)], args := [d1, d2, d3] }
  | _ => none }
def AmbientTowardsWrongFalsely : Prop := ambientTowardsRow.holds Try.pinned (OpenSpec.ofChange ambientTowardsWrong)

/-- 'pinchcocklaw16.AmbientSettles': WHATEVER THE INPUT: true; the input reads as it did. -/
def ambientSettlesSpec : ChangeSpec := { name := "ambientSettles", fn := fun _ => fun
  | [d1, d2, d3] => { results := [.lit (.bool true)], args := [d1, d2, d3] }
  | _ => none }
def ambientSettlesRow : OpenClaim := { program := "ytpgelcpnjggakaa", sum := "43efe995735536614d9c4e2cc14bf2032ec71346de86f6cc838f267bdd6db38d", func := "pinchcock/pinchcocklaw16.AmbientSettles", spec := "ambientSettles", apart := false }
def AmbientSettlesSaid : Prop := ambientSettlesRow.holds Try.pinned (OpenSpec.ofChange ambientSettlesSpec)

/-- ITS FALSE NEIGHBOUR: 'it returns false'. Refute it at one input. -/
def ambientSettlesWrong : ChangeSpec := { name := "ambientSettles", fn := fun _ => fun
  | [d1, d2, d3] => { results := [.lit (.bool false)], args := [d1, d2, d3] }
  | _ => none }
def AmbientSettlesWrongFalsely : Prop := ambientSettlesRow.holds Try.pinned (OpenSpec.ofChange ambientSettlesWrong)

/- THE SECOND FORM. 'bulk': how many values and letters a reading holds, each counted each time it is reached (what is shared counts as often as it is met; a slice's spare places count too). A statement '..UptoSaid' is the law's where the arguments, and the package variables that the reading takes, are together of bulk at most 1048576: NARROWER than '..Said'. Prove '..Said' where nothing that the law and all that it calls make is longer than what came in: it says more and counts as full. Else prove '..UptoSaid'. A law counts once. -/
mutual
def uptoBulk {H : Type} : DataW H → Nat
  | .lit (.string bytes) => bytes.length + 1
  | .lit _ => 1
  | .nil => 1
  | .ptr d => uptoBulk d + 1
  | .slice elems spare => uptoBulkAll elems + uptoBulkAll spare + 1
  | .agg parts => uptoBulkAll parts + 1
  | .iface _ d => uptoBulk d + 1
  | .map entries => uptoBulkEntries entries + 1
  | .held _ => 1
def uptoBulkAll {H : Type} : List (DataW H) → Nat
  | [] => 0
  | d :: r => uptoBulk d + uptoBulkAll r
def uptoBulkEntries {H : Type} : List (Lit × DataW H) → Nat
  | [] => 0
  | x :: r => uptoBulkEntry x + uptoBulkEntries r
def uptoBulkEntry {H : Type} : Lit × DataW H → Nat
  | (.string bytes, d) => bytes.length + uptoBulk d + 1
  | (_, d) => uptoBulk d + 1
 end
def uptoSmall : (H : Type) → List (DataW H) → Bool := fun _ ds => decide (uptoBulkAll ds ≤ 1048576)
def OpenSpec.upto (s : _root_.Go.ChangeSpec) : _root_.Go.OpenSpec := { _root_.Go.OpenSpec.ofChange s with cond := some uptoSmall }

/-- 'pinchcocklaw16.AmbientSays', WHERE WHAT IT READS IS OF BULK AT MOST 1048576: true; the input reads as it did. -/
def ambientSaysUptoRow : OpenClaim := { program := "ytpgelcpnjggakaa", sum := "43efe995735536614d9c4e2cc14bf2032ec71346de86f6cc838f267bdd6db38d", func := "pinchcock/pinchcocklaw16.AmbientSays", spec := "ambientSays", apart := false, narrowed := true }
def AmbientSaysUptoSaid : Prop := ambientSaysUptoRow.holds Try.pinned (OpenSpec.upto ambientSaysSpec)

/-- 'pinchcocklaw16.AmbientTowards', WHERE WHAT IT READS IS OF BULK AT MOST 1048576: true; the input reads as it did. -/
def ambientTowardsUptoRow : OpenClaim := { program := "ytpgelcpnjggakaa", sum := "43efe995735536614d9c4e2cc14bf2032ec71346de86f6cc838f267bdd6db38d", func := "pinchcock/pinchcocklaw16.AmbientTowards", spec := "ambientTowards", apart := false, narrowed := true }
def AmbientTowardsUptoSaid : Prop := ambientTowardsUptoRow.holds Try.pinned (OpenSpec.upto ambientTowardsSpec)

/-- 'pinchcocklaw16.AmbientSettles', WHERE WHAT IT READS IS OF BULK AT MOST 1048576: true; the input reads as it did. -/
def ambientSettlesUptoRow : OpenClaim := { program := "ytpgelcpnjggakaa", sum := "43efe995735536614d9c4e2cc14bf2032ec71346de86f6cc838f267bdd6db38d", func := "pinchcock/pinchcocklaw16.AmbientSettles", spec := "ambientSettles", apart := false, narrowed := true }
def AmbientSettlesUptoSaid : Prop := ambientSettlesUptoRow.holds Try.pinned (OpenSpec.upto ambientSettlesSpec)

end Rows
end Go.Proofs.Ytpgelcpnjggakaa
