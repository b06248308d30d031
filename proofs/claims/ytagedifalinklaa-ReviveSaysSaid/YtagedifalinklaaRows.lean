/-
  No cell of these rows narrows 'for every input' (looked for: loops, veiled, ifaces, maps, wideKeys, modest, calm, conditions, laid).
  DERIVED. THE GIVEN ROWS OF THIS SEAT. 3 by the template 'for every input the law returns true; each argument reads behind the call as it read before'; 0 by the template 'total and deterministic' (their statements: YtagedifalinklaaTotals.lean).
  GIVEN WITH THE SEED: the statements are not yours to turn. If you find one false, say at which input.
  Laid BY PROGRAM, IN A SANDBOX (cutbox-rows.mjs): the forced cells as the released guide's own fill.sh prints them over the translation 94dfc5d8b6bf7237… (all of the seat's roots in one cut). By AI agents, Wed Nov 11 2026. No macro, syntax, notation, axiom, sorry.
-/
import Derived.Test.YtagedifalinklaaChecked
import GoSem.Claim
import GoSem.ClaimJoined
import GoSem.ClaimMapViews
import Derived.JoinedTies
import Derived.KernelRfl
namespace Go.Proofs.Ytagedifalinklaa
/- THE CELL 'sum', in the pinned program and in every row, IS THE sha256 OF THE DUMP (.gsa) THAT YtagedifalinklaaProg.lean LOADS. Nothing in Lean hashes anything: it is a label: what it is worth is what the hold of that sum in a sandbox is worth. -/
noncomputable def Try.pinned : Pinned := { name := "ytagedifalinklaa", sum := "94dfc5d8b6bf723792fc9384970d3c4b5704b1d0a407ded5f977e9720e14252e", checked := Try.checked }
namespace Rows
def none {H : Type} : Left H := { results := [], args := [] }

/-- 'pinchcocklaw39.JournalSays': WHATEVER THE INPUT: true; the input reads as it did. -/
def journalSaysSpec : ChangeSpec := { name := "journalSays", fn := fun _ => fun
  | [d1, d2] => { results := [.lit (.bool true)], args := [d1, d2] }
  | _ => none }
def journalSaysRow : OpenClaim := { program := "ytagedifalinklaa", sum := "94dfc5d8b6bf723792fc9384970d3c4b5704b1d0a407ded5f977e9720e14252e", func := "pinchcock/pinchcocklaw39.JournalSays", spec := "journalSays", apart := false }
def JournalSaysSaid : Prop := journalSaysRow.holds Try.pinned (OpenSpec.ofChange journalSaysSpec)

/-- ITS FALSE NEIGHBOUR: 'it returns false'. Refute it at one input. -/
def journalSaysWrong : ChangeSpec := { name := "journalSays", fn := fun _ => fun
  | [d1, d2] => { results := [.lit (.bool false)], args := [d1, d2] }
  | _ => none }
def JournalSaysWrongFalsely : Prop := journalSaysRow.holds Try.pinned (OpenSpec.ofChange journalSaysWrong)

/-- 'pinchcocklaw40.ReviveSays': WHATEVER THE INPUT: true; the input reads as it did. -/
def reviveSaysSpec : ChangeSpec := { name := "reviveSays", fn := fun _ => fun
  | [d1, d2, d3] => { results := [.lit (.bool true)], args := [d1, d2, d3] }
  | _ => none }
def reviveSaysRow : OpenClaim := { program := "ytagedifalinklaa", sum := "94dfc5d8b6bf723792fc9384970d3c4b5704b1d0a407ded5f977e9720e14252e", func := "pinchcock/pinchcocklaw40.ReviveSays", spec := "reviveSays", apart := false }
def ReviveSaysSaid : Prop := reviveSaysRow.holds Try.pinned (OpenSpec.ofChange reviveSaysSpec)

/-- ITS FALSE NEIGHBOUR: 'it returns false'. Refute it at one input. -/
def reviveSaysWrong : ChangeSpec := { name := "reviveSays", fn := fun _ => fun
  | [d1, d2, d3] => { results := [.lit (.bool false)], args := [d1, d2, d3] }
  | _ => none }
def ReviveSaysWrongFalsely : Prop := reviveSaysRow.holds Try.pinned (OpenSpec.ofChange reviveSaysWrong)

/-- 'pinchcocklaw40.ReviveFinds': WHATEVER THE INPUT: true; the input reads as it did. -/
def reviveFindsSpec : ChangeSpec := { name := "reviveFinds", fn := fun _ => fun
  | [d1, d2, d3] => { results := [.lit (.bool true)], args := [d1, d2, d3] }
  | _ => none }
def reviveFindsRow : OpenClaim := { program := "ytagedifalinklaa", sum := "94dfc5d8b6bf723792fc9384970d3c4b5704b1d0a407ded5f977e9720e14252e", func := "pinchcock/pinchcocklaw40.ReviveFinds", spec := "reviveFinds", apart := false }
def ReviveFindsSaid : Prop := reviveFindsRow.holds Try.pinned (OpenSpec.ofChange reviveFindsSpec)

/-- ITS FALSE NEIGHBOUR: 'it returns false'. Refute it at one input. -/
def reviveFindsWrong : ChangeSpec := { name := "reviveFinds", fn := fun _ => fun
  | [d1, d2, d3] => { results := [.lit (.bool false)], args := [d1, d2, d3] }
  | _ => none }
def ReviveFindsWrongFalsely : Prop := reviveFindsRow.holds Try.pinned (OpenSpec.ofChange reviveFindsWrong)

/- THE SECOND FORM. 'bulk': how many values and letters a reading holds, each counted each time it is reached (what is shared counts as often as it is met; a slice's spare places count too). A statement '..UptoSaid' is the law's where the arguments, and the package variables that the reading takes, are together of bulk at most 1048576: NARROWER than '..Said'. Prove '..Said' where nothing that the law and all that it calls make is longer than what came in: it says more and counts as full. Else prove '..UptoSaid'. A law counts once. -/
mutual
def uptoBulk {H : Type} : DataW H → Nat
  | .lit (.string bytes) => bytes.length + 1
  | .lit _ => 1
  | .nil => 1
  | .ptr d => uptoBulk d + 1
  | .slice elems spare => uptoBulkAll elems + uptoBulkAll spare + 1
  | .agg parts => uptoBulkAll parts + 1
  | .iface _ d => uptoBulk d + 1
  | .map entries => uptoBulkEntries entries + 1
  | .held _ => 1
def uptoBulkAll {H : Type} : List (DataW H) → Nat
  | [] => 0
  | d :: r => uptoBulk d + uptoBulkAll r
def uptoBulkEntries {H : Type} : List (Lit × DataW H) → Nat
  | [] => 0
  | x :: r => uptoBulkEntry x + uptoBulkEntries r
def uptoBulkEntry {H : Type} : Lit × DataW H → Nat
  | (.string bytes, d) => bytes.length + uptoBulk d + 1
  | (_, d) => uptoBulk d + 1
 end
def uptoSmall : (H : Type) → List (DataW H) → Bool := fun _ ds => decide (uptoBulkAll ds ≤ 1048576)
def OpenSpec.upto (s : _root_.Go.ChangeSpec) : _root_.Go.OpenSpec := { _root_.Go.OpenSpec.ofChange s with cond := some uptoSmall }

/-- 'pinchcocklaw39.JournalSays', WHERE WHAT IT READS IS OF BULK AT MOST 1048576: true; the input reads as it did. -/
def journalSaysUptoRow : OpenClaim := { program := "ytagedifalinklaa", sum := "94dfc5d8b6bf723792fc9384970d3c4b5704b1d0a407ded5f977e9720e14252e", func := "pinchcock/pinchcocklaw39.JournalSays", spec := "journalSays", apart := false, narrowed := true }
def JournalSaysUptoSaid : Prop := journalSaysUptoRow.holds Try.pinned (OpenSpec.upto journalSaysSpec)

/-- 'pinchcocklaw40.ReviveSays', WHERE WHAT IT READS IS OF BULK AT MOST 1048576: true; the input reads as it did. -/
def reviveSaysUptoRow : OpenClaim := { program := "ytagedifalinklaa", sum := "94dfc5d8b6bf723792fc9384970d3c4b5704b1d0a407ded5f977e9720e14252e", func := "pinchcock/pinchcocklaw40.ReviveSays", spec := "reviveSays", apart := false, narrowed := true }
def ReviveSaysUptoSaid : Prop := reviveSaysUptoRow.holds Try.pinned (OpenSpec.upto reviveSaysSpec)

/-- 'pinchcocklaw40.ReviveFinds', WHERE WHAT IT READS IS OF BULK AT MOST 1048576: true; the input reads as it did. -/
def reviveFindsUptoRow : OpenClaim := { program := "ytagedifalinklaa", sum := "94dfc5d8b6bf723792fc9384970d3c4b5704b1d0a407ded5f977e9720e14252e", func := "pinchcock/pinchcocklaw40.ReviveFinds", spec := "reviveFinds", apart := false, narrowed := true }
def ReviveFindsUptoSaid : Prop := reviveFindsUptoRow.holds Try.pinned (OpenSpec.upto reviveFindsSpec)

end Rows
end Go.Proofs.Ytagedifalinklaa
