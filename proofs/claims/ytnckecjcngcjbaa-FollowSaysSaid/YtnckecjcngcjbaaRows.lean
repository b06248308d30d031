/-
  No cell of these rows narrows 'for every input' (looked for: loops, veiled, ifaces, maps, wideKeys, modest, calm, conditions, laid).
  DERIVED. THE GIVEN ROWS OF THIS SEAT. 3 by the template 'for every input the law returns true; each argument reads behind the call as it read before'; 0 by the template 'total and deterministic' (their statements: YtnckecjcngcjbaaTotals.lean).
  GIVEN WITH THE SEED: the statements are not yours to turn. If you find one false, say at which input.
  Laid BY PROGRAM, IN A SANDBOX (cutbox-rows.mjs): the forced cells as the released guide's own fill.sh prints them over the translation 0d447e38e0edb4a1… (all of the seat's roots in one cut). By AI agents, Wed Nov 11 2026. No macro, syntax, notation, axiom, sorry.
-/
import Derived.Test.YtnckecjcngcjbaaChecked
import GoSem.Claim
import GoSem.ClaimJoined
import GoSem.ClaimMapViews
import Derived.JoinedTies
import Derived.KernelRfl
namespace Go.Proofs.Ytnckecjcngcjbaa
/- THE CELL 'sum', in the pinned program and in every row, IS THE sha256 OF THE DUMP (.gsa) THAT YtnckecjcngcjbaaProg.lean LOADS. Nothing in Lean hashes anything: it is a label: what it is worth is what the hold of that sum in a sandbox is worth. -/
noncomputable def Try.pinned : Pinned := { name := "ytnckecjcngcjbaa", sum := "0d447e38e0edb4a196b49714e4273ae408bc82c27842c67cf6bb54e8d3cab203", checked := Try.checked }
namespace Rows
def none {H : Type} : Left H := { results := [], args := [] }

/-- 'pinchcocklaw13.FollowSays': WHATEVER THE INPUT: true; the input reads as it did. -/
def followSaysSpec : ChangeSpec := { name := "followSays", fn := fun _ => fun
  | [d1, d2, d3] => { results := [.lit (.bool true)], args := [d1, d2, d3] }
  | _ => none }
def followSaysRow : OpenClaim := { program := "ytnckecjcngcjbaa", sum := "0d447e38e0edb4a196b49714e4273ae408bc82c27842c67cf6bb54e8d3cab203", func := "pinchcock/pinchcocklaw13.FollowSays", spec := "followSays", apart := false }
def FollowSaysSaid : Prop := followSaysRow.holds Try.pinned (OpenSpec.ofChange followSaysSpec)

/-- ITS FALSE NEIGHBOUR: 'it returns false'. Refute it at one input. -/
def followSaysWrong : ChangeSpec := { name := "followSays", fn := fun _ => fun
  | [d1, d2, d3] => { results := [.lit (.bool false)], args := [d1, d2, d3] }
  | _ => none }
def FollowSaysWrongFalsely : Prop := followSaysRow.holds Try.pinned (OpenSpec.ofChange followSaysWrong)

/-- 'pinchcocklaw13.FollowFinds': WHATEVER THE INPUT: true; the input reads as it did. -/
def followFindsSpec : ChangeSpec := { name := "followFinds", fn := fun _ => fun
  | [d1, d2] => { results := [.lit (.bool true)], args := [d1, d2] }
  | _ => none }
def followFindsRow : OpenClaim := { program := "ytnckecjcngcjbaa", sum := "0d447e38e0edb4a196b49714e4273ae408bc82c27842c67cf6bb54e8d3cab203", func := "pinchcock/pinchcocklaw13.FollowFinds", spec := "followFinds", apart := false }
def FollowFindsSaid : Prop := followFindsRow.holds Try.pinned (OpenSpec.ofChange followFindsSpec)

/-- ITS FALSE NEIGHBOUR: 'it returns false'. Refute it at one input. -/
def followFindsWrong : ChangeSpec := { name := "followFinds", fn := fun _ => fun
  | [d1, d2] => { results := [.lit (.bool false)], args := [d1, d2] }
  | _ => none }
def FollowFindsWrongFalsely : Prop := followFindsRow.holds Try.pinned (OpenSpec.ofChange followFindsWrong)

/-- 'pinchcocklaw13.FollowStuck': WHATEVER THE INPUT: true; the input reads as it did. -/
def followStuckSpec : ChangeSpec := { name := "followStuck", fn := fun _ => fun
  | [d1, d2, d3] => { results := [.lit (.bool true)], args := [d1, d2, d3] }
  | _ => none }
def followStuckRow : OpenClaim := { program := "ytnckecjcngcjbaa", sum := "0d447e38e0edb4a196b49714e4273ae408bc82c27842c67cf6bb54e8d3cab203", func := "pinchcock/pinchcocklaw13.FollowStuck", spec := "followStuck", apart := false }
def FollowStuckSaid : Prop := followStuckRow.holds Try.pinned (OpenSpec.ofChange followStuckSpec)

/-- ITS FALSE NEIGHBOUR: 'it returns false'. Refute it at one input. -/
def followStuckWrong : ChangeSpec := { name := "followStuck", fn := fun _ => fun
  | [d1, d2, d3] => { results := [.lit (.bool false)], args := [d1, d2, d3] }
  | _ => none }
def FollowStuckWrongFalsely : Prop := followStuckRow.holds Try.pinned (OpenSpec.ofChange followStuckWrong)

/- THE SECOND FORM. 'bulk': how many values and letters a reading holds, each counted each time it is reached (what is shared counts as often as it is met; a slice's spare places count too). A statement '..UptoSaid' is the law's where the arguments, and the package variables that the reading takes, are together of bulk at most 1048576: NARROWER than '..Said'. Prove '..Said' where nothing that the law and all that it calls make is longer than what came in: it says more and counts as full. Else prove '..UptoSaid'. A law counts once. -/
mutual
def uptoBulk {H : Type} : DataW H → Nat
  | .lit (.string bytes) => bytes.length + 1
  | .lit _ => 1
  | .nil => 1
  | .ptr d => uptoBulk d + 1
  | .slice elems spare => uptoBulkAll elems + uptoBulkAll spare + 1
  | .agg parts => uptoBulkAll parts + 1
  | .iface _ d => uptoBulk d + 1
  | .map entries => uptoBulkEntries entries + 1
  | .held _ => 1
def uptoBulkAll {H : Type} : List (DataW H) → Nat
  | [] => 0
  | d :: r => uptoBulk d + uptoBulkAll r
def uptoBulkEntries {H : Type} : List (Lit × DataW H) → Nat
  | [] => 0
  | x :: r => uptoBulkEntry x + uptoBulkEntries r
def uptoBulkEntry {H : Type} : Lit × DataW H → Nat
  | (.string bytes, d) => bytes.length + uptoBulk d + 1
  | (_, d) => uptoBulk d + 1
 end
def uptoSmall : (H : Type) → List (DataW H) → Bool := fun _ ds => decide (uptoBulkAll ds ≤ 1048576)
def OpenSpec.upto (s : _root_.Go.ChangeSpec) : _root_.Go.OpenSpec := { _root_.Go.OpenSpec.ofChange s with cond := some uptoSmall }

/-- 'pinchcocklaw13.FollowSays', WHERE WHAT IT READS IS OF BULK AT MOST 1048576: true; the input reads as it did. -/
def followSaysUptoRow : OpenClaim := { program := "ytnckecjcngcjbaa", sum := "0d447e38e0edb4a196b49714e4273ae408bc82c27842c67cf6bb54e8d3cab203", func := "pinchcock/pinchcocklaw13.FollowSays", spec := "followSays", apart := false, narrowed := true }
def FollowSaysUptoSaid : Prop := followSaysUptoRow.holds Try.pinned (OpenSpec.upto followSaysSpec)

/-- 'pinchcocklaw13.FollowFinds', WHERE WHAT IT READS IS OF BULK AT MOST 1048576: true; the input reads as it did. -/
def followFindsUptoRow : OpenClaim := { program := "ytnckecjcngcjbaa", sum := "0d447e38e0edb4a196b49714e4273ae408bc82c27842c67cf6bb54e8d3cab203", func := "pinchcock/pinchcocklaw13.FollowFinds", spec := "followFinds", apart := false, narrowed := true }
def FollowFindsUptoSaid : Prop := followFindsUptoRow.holds Try.pinned (OpenSpec.upto followFindsSpec)

/-- 'pinchcocklaw13.FollowStuck', WHERE WHAT IT READS IS OF BULK AT MOST 1048576: true; the input reads as it did. -/
def followStuckUptoRow : OpenClaim := { program := "ytnckecjcngcjbaa", sum := "0d447e38e0edb4a196b49714e4273ae408bc82c27842c67cf6bb54e8d3cab203", func := "pinchcock/pinchcocklaw13.FollowStuck", spec := "followStuck", apart := false, narrowed := true }
def FollowStuckUptoSaid : Prop := followStuckUptoRow.holds Try.pinned (OpenSpec.upto followStuckSpec)

end Rows
end Go.Proofs.Ytnckecjcngcjbaa
