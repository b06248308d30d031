/-
  No cell of these rows narrows 'for every input' (looked for: loops, veiled, ifaces, maps, wideKeys, modest, calm, conditions, laid).
  DERIVED. THE GIVEN ROWS OF THIS SEAT. 3 by the template 'for every input the law returns true; each argument reads behind the call as it read before'; 0 by the template 'total and deterministic' (their statements: YtlclapedabgiaaaTotals.lean).
  GIVEN WITH THE SEED: the statements are not yours to turn. If you find one false, say at which input.
  Laid BY PROGRAM, IN A SANDBOX (cutbox-rows.mjs): the forced cells as the released guide's own fill.sh prints them over the translation d5e94a4064d6372e… (all of the seat's roots in one cut). By AI agents, Wed Nov 11 2026. No macro, syntax, notation, axiom, sorry.
-/
import Derived.Test.YtlclapedabgiaaaChecked
import GoSem.Claim
import GoSem.ClaimJoined
import GoSem.ClaimMapViews
import Derived.JoinedTies
import Derived.KernelRfl
namespace Go.Proofs.Ytlclapedabgiaaa
/- THE CELL 'sum', in the pinned program and in every row, IS THE sha256 OF THE DUMP (.gsa) THAT YtlclapedabgiaaaProg.lean LOADS. Nothing in Lean hashes anything: it is a label: what it is worth is what the hold of that sum in a sandbox is worth. -/
noncomputable def Try.pinned : Pinned := { name := "ytlclapedabgiaaa", sum := "d5e94a4064d6372e855f9bc0ba6f92e2682f57601382323d539efb6fd4142fd6", checked := Try.checked }
namespace Rows
def none {H : Type} : Left H := { results := [], args := [] }

/-- 'pinchcocklaw17.CompareSays': WHATEVER THE INPUT: true; the input reads as it did. -/
def compareSaysSpec : ChangeSpec := { name := "compareSays", fn := fun _ => fun
  | [d1, d2, d3] => { results := [.lit (.bool true)], args := [d1, d2, d3] }
  | _ => none }
def compareSaysRow : OpenClaim := { program := "ytlclapedabgiaaa", sum := "d5e94a4064d6372e855f9bc0ba6f92e2682f57601382323d539efb6fd4142fd6", func := "pinchcock/pinchcocklaw17.CompareSays", spec := "compareSays", apart := false }
def CompareSaysSaid : Prop := compareSaysRow.holds Try.pinned (OpenSpec.ofChange compareSaysSpec)

/-- ITS FALSE NEIGHBOUR: 'it returns false'. Refute it at one input. -/
def compareSaysWrong : ChangeSpec := { name := "compareSays", fn := fun _ => fun
  | [d1, d2, d3] => { results := [.lit (.bool false)], args := [d1, d2, d3] }
  | _ => none }
def CompareSaysWrongFalsely : Prop := compareSaysRow.holds Try.pinned (OpenSpec.ofChange compareSaysWrong)

/-- 'pinchcocklaw17.CompareDarker': WHATEVER THE INPUT: true; the input reads as it did. -/
def compareDarkerSpec : ChangeSpec := { name := "compareDarker", fn := fun _ => fun
  | [d1, d2, d3] => { results := [.lit (.bool true)], args := [d1, d2, d3] }
  | _ => none }
def compareDarkerRow : OpenClaim := { program := "ytlclapedabgiaaa", sum := "d5e94a4064d6372e855f9bc0ba6f92e2682f57601382323d539efb6fd4142fd6", func := "pinchcock/pinchcocklaw17.CompareDarker", spec := "compareDarker", apart := false }
def CompareDarkerSaid : Prop := compareDarkerRow.holds Try.pinned (OpenSpec.ofChange compareDarkerSpec)

/-- ITS FALSE NEIGHBOUR: 'it returns false'. Refute it at one input. -/
def compareDarkerWrong : ChangeSpec := { name := "compareDarker", fn := fun _ => fun
  | [d1, d2, d3] => { results := [.lit (.bool false)], args := [d1, d2, d3] }
  | _ => none }
def CompareDarkerWrongFalsely : Prop := compareDarkerRow.holds Try.pinned (OpenSpec.ofChange compareDarkerWrong)

/-- 'pinchcocklaw17.CompareQuiet': WHATEVER THE INPUT: true; the input reads as it did. -/
def compareQuietSpec : ChangeSpec := { name := "compareQuiet", fn := fun _ => fun
  | [d1, d2, d3] => { results := [.lit (.bool true)], args := [d1, d2, d3] }
  | _ => none }
def compareQuietRow : OpenClaim := { program := "ytlclapedabgiaaa", sum := "d5e94a4064d6372e855f9bc0ba6f92e2682f57601382323d539efb6fd4142fd6", func := "pinchcock/pinchcocklaw17.CompareQuiet", spec := "compareQuiet", apart := false }
def CompareQuietSaid : Prop := compareQuietRow.holds Try.pinned (OpenSpec.ofChange compareQuietSpec)

/-- ITS FALSE NEIGHBOUR: 'it returns false'. Refute it at one input. -/
def compareQuietWrong : ChangeSpec := { name := "compareQuiet", fn := fun _ => fun
  | [d1, d2, d3] => { results := [.lit (.bool false)], args := [d1, d2, d3] }
  | _ => none }
def CompareQuietWrongFalsely : Prop := compareQuietRow.holds Try.pinned (OpenSpec.ofChange compareQuietWrong)

/- THE SECOND FORM. 'bulk': how many values and letters a reading holds, each counted each time it is reached (what is shared counts as often as it is met; a slice's spare places count too). A statement '..UptoSaid' is the law's where the arguments, and the package variables that the reading takes, are together of bulk at most 1048576: NARROWER than '..Said'. Prove '..Said' where nothing that the law and all that it calls make is longer than what came in: it says more and counts as full. Else prove '..UptoSaid'. A law counts once. -/
mutual
def uptoBulk {H : Type} : DataW H → Nat
  | .lit (.string bytes) => bytes.length + 1
  | .lit _ => 1
  | .nil => 1
  | .ptr d => uptoBulk d + 1
  | .slice elems spare => uptoBulkAll elems + uptoBulkAll spare + 1
  | .agg parts => uptoBulkAll parts + 1
  | .iface _ d => uptoBulk d + 1
  | .map entries => uptoBulkEntries entries + 1
  | .held _ => 1
def uptoBulkAll {H : Type} : List (DataW H) → Nat
  | [] => 0
  | d :: r => uptoBulk d + uptoBulkAll r
def uptoBulkEntries {H : Type} : List (Lit × DataW H) → Nat
  | [] => 0
  | x :: r => uptoBulkEntry x + uptoBulkEntries r
def uptoBulkEntry {H : Type} : Lit × DataW H → Nat
  | (.string bytes, d) => bytes.length + uptoBulk d + 1
  | (_, d) => uptoBulk d + 1
 end
def uptoSmall : (H : Type) → List (DataW H) → Bool := fun _ ds => decide (uptoBulkAll ds ≤ 1048576)
def OpenSpec.upto (s : _root_.Go.ChangeSpec) : _root_.Go.OpenSpec := { _root_.Go.OpenSpec.ofChange s with cond := some uptoSmall }

/-- 'pinchcocklaw17.CompareSays', WHERE WHAT IT READS IS OF BULK AT MOST 1048576: true; the input reads as it did. -/
def compareSaysUptoRow : OpenClaim := { program := "ytlclapedabgiaaa", sum := "d5e94a4064d6372e855f9bc0ba6f92e2682f57601382323d539efb6fd4142fd6", func := "pinchcock/pinchcocklaw17.CompareSays", spec := "compareSays", apart := false, narrowed := true }
def CompareSaysUptoSaid : Prop := compareSaysUptoRow.holds Try.pinned (OpenSpec.upto compareSaysSpec)

/-- 'pinchcocklaw17.CompareDarker', WHERE WHAT IT READS IS OF BULK AT MOST 1048576: true; the input reads as it did. -/
def compareDarkerUptoRow : OpenClaim := { program := "ytlclapedabgiaaa", sum := "d5e94a4064d6372e855f9bc0ba6f92e2682f57601382323d539efb6fd4142fd6", func := "pinchcock/pinchcocklaw17.CompareDarker", spec := "compareDarker", apart := false, narrowed := true }
def CompareDarkerUptoSaid : Prop := compareDarkerUptoRow.holds Try.pinned (OpenSpec.upto compareDarkerSpec)

/-- 'pinchcocklaw17.CompareQuiet', WHERE WHAT IT READS IS OF BULK AT MOST 1048576: true; the input reads as it did. -/
def compareQuietUptoRow : OpenClaim := { program := "ytlclapedabgiaaa", sum := "d5e94a4064d6372e855f9bc0ba6f92e2682f57601382323d539efb6fd4142fd6", func := "pinchcock/pinchcocklaw17.CompareQuiet", spec := "compareQuiet", apart := false, narrowed := true }
def CompareQuietUptoSaid : Prop := compareQuietUptoRow.holds Try.pinned (OpenSpec.upto compareQuietSpec)

end Rows
end Go.Proofs.Ytlclapedabgiaaa
