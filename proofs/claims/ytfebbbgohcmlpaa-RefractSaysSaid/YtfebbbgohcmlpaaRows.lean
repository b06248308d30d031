/-
  No cell of these rows narrows 'for every input' (looked for: loops, veiled, ifaces, maps, wideKeys, modest, calm, conditions, laid).
  DERIVED. THE GIVEN ROWS OF THIS SEAT. 2 by the template 'for every input the law returns true; each argument reads behind the call as it read before'; 0 by the template 'total and deterministic' (their statements: YtfebbbgohcmlpaaTotals.lean).
  GIVEN WITH THE SEED: the statements are not yours to turn. If you find one false, say at which input.
  Laid BY PROGRAM, IN A SANDBOX (cutbox-rows.mjs): the forced cells as the released guide's own fill.sh prints them over the translation fa40f760920daf12… (all of the seat's roots in one cut). By AI agents, Wed Nov 11 2026. No macro, syntax, notation, axiom, sorry.
-/
import Derived.Test.YtfebbbgohcmlpaaChecked
import GoSem.Claim
import GoSem.ClaimJoined
import GoSem.ClaimMapViews
import Derived.JoinedTies
import Derived.KernelRfl
namespace Go.Proofs.Ytfebbbgohcmlpaa
/- THE CELL 'sum', in the pinned program and in every row, IS THE sha256 OF THE DUMP (.gsa) THAT YtfebbbgohcmlpaaProg.lean LOADS. Nothing in Lean hashes anything: it is a label: what it is worth is what the hold of that sum in a sandbox is worth. -/
noncomputable def Try.pinned : Pinned := { name := "ytfebbbgohcmlpaa", sum := "fa40f760920daf12e71207d6d70654f0a02350adf47c3838ceb80f44af8cd9a1", checked := Try.checked }
namespace Rows
def none {H : Type} : Left H := { results := [], args := [] }

/-- 'pinchcocklaw19.RefractSays': WHATEVER THE INPUT: true; the input reads as it did. -/
def refractSaysSpec : ChangeSpec := { name := "refractSays", fn := fun _ => fun
  | [d1, d2] => { results := [.lit (.bool true)], args := [d1, d2] }
  | _ => none }
def refractSaysRow : OpenClaim := { program := "ytfebbbgohcmlpaa", sum := "fa40f760920daf12e71207d6d70654f0a02350adf47c3838ceb80f44af8cd9a1", func := "pinchcock/pinchcocklaw19.RefractSays", spec := "refractSays", apart := false }
def RefractSaysSaid : Prop := refractSaysRow.holds Try.pinned (OpenSpec.ofChange refractSaysSpec)

/-- ITS FALSE NEIGHBOUR: 'it returns false'. Refute it at one input. -/
def refractSaysWrong : ChangeSpec := { name := "refractSays", fn := fun _ => fun
  | [d1, d2] => { results := [.lit (.bool false)], args := [d1, d2] }
  | _ => none }
def RefractSaysWrongFalsely : Prop := refractSaysRow.holds Try.pinned (OpenSpec.ofChange refractSaysWrong)

/-- 'pinchcocklaw19.RefractApart': WHATEVER THE INPUT: true; the input reads as it did. -/
def refractApartSpec : ChangeSpec := { name := "refractApart", fn := fun _ => fun
  | [d] => { results := [.lit (.bool true)], args := [d] }
  | _ => none }
def refractApartRow : OpenClaim := { program := "ytfebbbgohcmlpaa", sum := "fa40f760920daf12e71207d6d70654f0a02350adf47c3838ceb80f44af8cd9a1", func := "pinchcock/pinchcocklaw19.RefractApart", spec := "refractApart", apart := false }
def RefractApartSaid : Prop := refractApartRow.holds Try.pinned (OpenSpec.ofChange refractApartSpec)

/-- ITS FALSE NEIGHBOUR: 'it returns false'. Refute it at one input. -/
def refractApartWrong : ChangeSpec := { name := "refractApart", fn := fun _ => fun
  | [d] => { results := [.lit (.bool false)], args := [d] }
  | _ => none }
def RefractApartWrongFalsely : Prop := refractApartRow.holds Try.pinned (OpenSpec.ofChange refractApartWrong)

/- THE SECOND FORM. 'bulk': how many values and letters a reading holds, each counted each time it is reached (what is shared counts as often as it is met; a slice's spare places count too). A statement '..UptoSaid' is the law's where the arguments, and the package variables that the reading takes, are together of bulk at most 1048576: NARROWER than '..Said'. Prove '..Said' where nothing that the law and all that it calls make is longer than what came in: it says more and counts as full. Else prove '..UptoSaid'. A law counts once. -/
mutual
def uptoBulk {H : Type} : DataW H → Nat
  | .lit (.string bytes) => bytes.length + 1
  | .lit _ => 1
  | .nil => 1
  | .ptr d => uptoBulk d + 1
  | .slice elems spare => uptoBulkAll elems + uptoBulkAll spare + 1
  | .agg parts => uptoBulkAll parts + 1
  | .iface _ d => uptoBulk d + 1
  | .map entries => uptoBulkEntries entries + 1
  | .held _ => 1
def uptoBulkAll {H : Type} : List (DataW H) → Nat
  | [] => 0
  | d :: r => uptoBulk d + uptoBulkAll r
def uptoBulkEntries {H : Type} : List (Lit × DataW H) → Nat
  | [] => 0
  | x :: r => uptoBulkEntry x + uptoBulkEntries r
def uptoBulkEntry {H : Type} : Lit × DataW H → Nat
  | (.string bytes, d) => bytes.length + uptoBulk d + 1
  | (_, d) => uptoBulk d + 1
 end
def uptoSmall : (H : Type) → List (DataW H) → Bool := fun _ ds => decide (uptoBulkAll ds ≤ 1048576)
def OpenSpec.upto (s : _root_.Go.ChangeSpec) : _root_.Go.OpenSpec := { _root_.Go.OpenSpec.ofChange s with cond := some uptoSmall }

/-- 'pinchcocklaw19.RefractSays', WHERE WHAT IT READS IS OF BULK AT MOST 1048576: true; the input reads as it did. -/
def refractSaysUptoRow : OpenClaim := { program := "ytfebbbgohcmlpaa", sum := "fa40f760920daf12e71207d6d70654f0a02350adf47c3838ceb80f44af8cd9a1", func := "pinchcock/pinchcocklaw19.RefractSays", spec := "refractSays", apart := false, narrowed := true }
def RefractSaysUptoSaid : Prop := refractSaysUptoRow.holds Try.pinned (OpenSpec.upto refractSaysSpec)

/-- 'pinchcocklaw19.RefractApart', WHERE WHAT IT READS IS OF BULK AT MOST 1048576: true; the input reads as it did. -/
def refractApartUptoRow : OpenClaim := { program := "ytfebbbgohcmlpaa", sum := "fa40f760920daf12e71207d6d70654f0a02350adf47c3838ceb80f44af8cd9a1", func := "pinchcock/pinchcocklaw19.RefractApart", spec := "refractApart", apart := false, narrowed := true }
def RefractApartUptoSaid : Prop := refractApartUptoRow.holds Try.pinned (OpenSpec.upto refractApartSpec)

end Rows
end Go.Proofs.Ytfebbbgohcmlpaa
