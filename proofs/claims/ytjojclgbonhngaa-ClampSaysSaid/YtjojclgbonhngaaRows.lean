/-
  No cell of these rows narrows 'for every input' (looked for: loops, veiled, ifaces, maps, wideKeys, modest, calm, conditions, laid).
  DERIVED. THE GIVEN ROWS OF THIS SEAT. 4 by the template 'for every input the law returns true; each argument reads behind the call as it read before'; 0 by the template 'total and deterministic' (their statements: YtjojclgbonhngaaTotals.lean).
  GIVEN WITH THE SEED: the statements are not yours to turn. If you find one false, say at which input.
  Laid BY PROGRAM, IN A SANDBOX (cutbox-rows.mjs): the forced cells as the released guide's own fill.sh prints them over the translation 07495c406d305b65… (all of the seat's roots in one cut). By AI agents, Wed Nov 11 2026. No macro, syntax, notation, axiom, sorry.
-/
import Derived.Test.YtjojclgbonhngaaChecked
import GoSem.Claim
import GoSem.ClaimJoined
import GoSem.ClaimMapViews
import Derived.JoinedTies
import Derived.KernelRfl
namespace Go.Proofs.Ytjojclgbonhngaa
/- THE CELL 'sum', in the pinned program and in every row, IS THE sha256 OF THE DUMP (.gsa) THAT YtjojclgbonhngaaProg.lean LOADS. Nothing in Lean hashes anything: it is a label: what it is worth is what the hold of that sum in a sandbox is worth. -/
noncomputable def Try.pinned : Pinned := { name := "ytjojclgbonhngaa", sum := "07495c406d305b65371ee4554016eb534d6c5caa1fbce619d40d8966ceeb7e75", checked := Try.checked }
namespace Rows
def none {H : Type} : Left H := { results := [], args := [] }

/-- 'pinchcocklaw14.ClampSays': WHATEVER THE INPUT: true; the input reads as it did. -/
def clampSaysSpec : ChangeSpec := { name := "clampSays", fn := fun _ => fun
  | [d1, d2, d3] => { results := [.lit (.bool true)], args := [d1, d2, d3] }
  | _ => none }
def clampSaysRow : OpenClaim := { program := "ytjojclgbonhngaa", sum := "07495c406d305b65371ee4554016eb534d6c5caa1fbce619d40d8966ceeb7e75", func := "pinchcock/pinchcocklaw14.ClampSays", spec := "clampSays", apart := false }
def ClampSaysSaid : Prop := clampSaysRow.holds Try.pinned (OpenSpec.ofChange clampSaysSpec)

/-- ITS FALSE NEIGHBOUR: 'it returns false'. Refute it at one input. -/
def clampSaysWrong : ChangeSpec := { name := "clampSays", fn := fun _ => fun
  | [d1, d2, d3] => { results := [.lit (.bool false)], args := [d1, d2, d3] }
  | _ => none }
def ClampSaysWrongFalsely : Prop := clampSaysRow.holds Try.pinned (OpenSpec.ofChange clampSaysWrong)

/-- 'pinchcocklaw14.ClampShuts': WHATEVER THE INPUT: true; the input reads as it did. -/
def clampShutsSpec : ChangeSpec := { name := "clampShuts", fn := fun _ => fun
  | [d1, d2, d3] => { results := [.lit (.bool true)], args := [d1, d2, d3] }
  | _ => none }
def clampShutsRow : OpenClaim := { program := "ytjojclgbonhngaa", sum := "07495c406d305b65371ee4554016eb534d6c5caa1fbce619d40d8966ceeb7e75", func := "pinchcock/pinchcocklaw14.ClampShuts", spec := "clampShuts", apart := false }
def ClampShutsSaid : Prop := clampShutsRow.holds Try.pinned (OpenSpec.ofChange clampShutsSpec)

/-- ITS FALSE NEIGHBOUR: 'it returns false'. Refute it at one input. -/
def clampShutsWrong : ChangeSpec := { name := "clampShuts", fn := fun _ => fun
  | [d1, d2, d3] => { results := [.lit (.bool false)], args := [d1, d2, d3] }
  | _ => none }
def ClampShutsWrongFalsely : Prop := clampShutsRow.holds Try.pinned (OpenSpec.ofChange clampShutsWrong)

/-- 'pinchcocklaw14.ClampHonest': WHATEVER THE INPUT: true; the input reads as it did. -/
def clampHonestSpec : ChangeSpec := { name := "clampHonest", fn := fun _ => fun
  | [d1, d2, d3] => { results := [.lit (.bool true)], args := [d1, d2, d3] }
  | _ => none }
def clampHonestRow : OpenClaim := { program := "ytjojclgbonhngaa", sum := "07495c406d305b65371ee4554016eb534d6c5caa1fbce619d40d8966ceeb7e75", func := "pinchcock/pinchcocklaw14.ClampHonest", spec := "clampHonest", apart := false }
def ClampHonestSaid : Prop := clampHonestRow.holds Try.pinned (OpenSpec.ofChange clampHonestSpec)

/-- ITS FALSE NEIGHBOUR: 'it returns false'. Refute it at one input. -/
def clampHonestWrong : ChangeSpec := { name := "clampHonest", fn := fun _ => fun
  | [d1, d2, d3] => { results := [.lit (.bool false)], args := [d1, d2, d3] }
  | _ => none }
def ClampHonestWrongFalsely : Prop := clampHonestRow.holds Try.pinned (OpenSpec.ofChange clampHonestWrong)

/-- 'pinchcocklaw14.ClampStuck': WHATEVER THE INPUT: true; the input reads as it did. -/
def clampStuckSpec : ChangeSpec := { name := "clampStuck", fn := fun _ => fun
  | [d1, d2, d3] => { results := [.lit (.bool true)], args := [d1, d2, d3] }
  | _ => none }
def clampStuckRow : OpenClaim := { program := "ytjojclgbonhngaa", sum := "07495c406d305b65371ee4554016eb534d6c5caa1fbce619d40d8966ceeb7e75", func := "pinchcock/pinchcocklaw14.ClampStuck", spec := "clampStuck", apart := false }
def ClampStuckSaid : Prop := clampStuckRow.holds Try.pinned (OpenSpec.ofChange clampStuckSpec)

/-- ITS FALSE NEIGHBOUR: 'it returns false'. Refute it at one input. -/
def clampStuckWrong : ChangeSpec := { name := "clampStuck", fn := fun _ => fun
  | [d1, d2, d3] => { results := [.lit (.bool false)], args := [d1, d2, d3] }
  | _ => none }
def ClampStuckWrongFalsely : Prop := clampStuckRow.holds Try.pinned (OpenSpec.ofChange clampStuckWrong)

/- THE SECOND FORM. 'bulk': how many values and letters a reading holds, each counted each time it is reached (what is shared counts as often as it is met; a slice's spare places count too). A statement '..UptoSaid' is the law's where the arguments, and the package variables that the reading takes, are together of bulk at most 1048576: NARROWER than '..Said'. Prove '..Said' where nothing that the law and all that it calls make is longer than what came in: it says more and counts as full. Else prove '..UptoSaid'. A law counts once. -/
mutual
def uptoBulk {H : Type} : DataW H → Nat
  | .lit (.string bytes) => bytes.length + 1
  | .lit _ => 1
  | .nil => 1
  | .ptr d => uptoBulk d + 1
  | .slice elems spare => uptoBulkAll elems + uptoBulkAll spare + 1
  | .agg parts => uptoBulkAll parts + 1
  | .iface _ d => uptoBulk d + 1
  | .map entries => uptoBulkEntries entries + 1
  | .held _ => 1
def uptoBulkAll {H : Type} : List (DataW H) → Nat
  | [] => 0
  | d :: r => uptoBulk d + uptoBulkAll r
def uptoBulkEntries {H : Type} : List (Lit × DataW H) → Nat
  | [] => 0
  | x :: r => uptoBulkEntry x + uptoBulkEntries r
def uptoBulkEntry {H : Type} : Lit × DataW H → Nat
  | (.string bytes, d) => bytes.length + uptoBulk d + 1
  | (_, d) => uptoBulk d + 1
 end
def uptoSmall : (H : Type) → List (DataW H) → Bool := fun _ ds => decide (uptoBulkAll ds ≤ 1048576)
def OpenSpec.upto (s : _root_.Go.ChangeSpec) : _root_.Go.OpenSpec := { _root_.Go.OpenSpec.ofChange s with cond := some uptoSmall }

/-- 'pinchcocklaw14.ClampSays', WHERE WHAT IT READS IS OF BULK AT MOST 1048576: true; the input reads as it did. -/
def clampSaysUptoRow : OpenClaim := { program := "ytjojclgbonhngaa", sum := "07495c406d305b65371ee4554016eb534d6c5caa1fbce619d40d8966ceeb7e75", func := "pinchcock/pinchcocklaw14.ClampSays", spec := "clampSays", apart := false, narrowed := true }
def ClampSaysUptoSaid : Prop := clampSaysUptoRow.holds Try.pinned (OpenSpec.upto clampSaysSpec)

/-- 'pinchcocklaw14.ClampShuts', WHERE WHAT IT READS IS OF BULK AT MOST 1048576: true; the input reads as it did. -/
def clampShutsUptoRow : OpenClaim := { program := "ytjojclgbonhngaa", sum := "07495c406d305b65371ee4554016eb534d6c5caa1fbce619d40d8966ceeb7e75", func := "pinchcock/pinchcocklaw14.ClampShuts", spec := "clampShuts", apart := false, narrowed := true }
def ClampShutsUptoSaid : Prop := clampShutsUptoRow.holds Try.pinned (OpenSpec.upto clampShutsSpec)

/-- 'pinchcocklaw14.ClampHonest', WHERE WHAT IT READS IS OF BULK AT MOST 1048576: true; the input reads as it did. -/
def clampHonestUptoRow : OpenClaim := { program := "ytjojclgbonhngaa", sum := "07495c406d305b65371ee4554016eb534d6c5caa1fbce619d40d8966ceeb7e75", func := "pinchcock/pinchcocklaw14.ClampHonest", spec := "clampHonest", apart := false, narrowed := true }
def ClampHonestUptoSaid : Prop := clampHonestUptoRow.holds Try.pinned (OpenSpec.upto clampHonestSpec)

/-- 'pinchcocklaw14.ClampStuck', WHERE WHAT IT READS IS OF BULK AT MOST 1048576: true; the input reads as it did. -/
def clampStuckUptoRow : OpenClaim := { program := "ytjojclgbonhngaa", sum := "07495c406d305b65371ee4554016eb534d6c5caa1fbce619d40d8966ceeb7e75", func := "pinchcock/pinchcocklaw14.ClampStuck", spec := "clampStuck", apart := false, narrowed := true }
def ClampStuckUptoSaid : Prop := clampStuckUptoRow.holds Try.pinned (OpenSpec.upto clampStuckSpec)

end Rows
end Go.Proofs.Ytjojclgbonhngaa
