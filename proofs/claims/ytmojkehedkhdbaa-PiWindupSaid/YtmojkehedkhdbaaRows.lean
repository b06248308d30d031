/-
  No cell of these rows narrows 'for every input' (looked for: loops, veiled, ifaces, maps, wideKeys, modest, calm, conditions, laid).
  DERIVED. THE GIVEN ROWS OF THIS SEAT. 7 by the template 'for every input the law returns true; each argument reads behind the call as it read before'; 0 by the template 'total and deterministic' (their statements: YtmojkehedkhdbaaTotals.lean).
  GIVEN WITH THE SEED: the statements are not yours to turn. If you find one false, say at which input.
  Laid BY PROGRAM, IN A SANDBOX (cutbox-rows.mjs): the forced cells as the released guide's own fill.sh prints them over the translation a8991df06c15f038… (all of the seat's roots in one cut). By AI agents, Wed Nov 11 2026. No macro, syntax, notation, axiom, sorry.
-/
import Derived.Test.YtmojkehedkhdbaaChecked
import GoSem.Claim
import GoSem.ClaimJoined
import GoSem.ClaimMapViews
import Derived.JoinedTies
import Derived.KernelRfl
namespace Go.Proofs.Ytmojkehedkhdbaa
/- THE CELL 'sum', in the pinned program and in every row, IS THE sha256 OF THE DUMP (.gsa) THAT YtmojkehedkhdbaaProg.lean LOADS. Nothing in Lean hashes anything: it is a label: what it is worth is what the hold of that sum in a sandbox is worth. -/
noncomputable def Try.pinned : Pinned := { name := "ytmojkehedkhdbaa", sum := "a8991df06c15f038239e8ddb4530cb4bd20763cff9c0b59763b2f882def8d8dc", checked := Try.checked }
namespace Rows
def none {H : Type} : Left H := { results := [], args := [] }

/-- 'pinchcocklaw38.TitrateSays': WHATEVER THE INPUT: true; the input reads as it did. -/
def titrateSaysSpec : ChangeSpec := { name := "titrateSays", fn := fun _ => fun
  | [d1, d2] => { results := [.lit (.bool true)], args := [d1, d2] }
  | _ => none }
def titrateSaysRow : OpenClaim := { program := "ytmojkehedkhdbaa", sum := "a8991df06c15f038239e8ddb4530cb4bd20763cff9c0b59763b2f882def8d8dc", func := "pinchcock/pinchcocklaw38.TitrateSays", spec := "titrateSays", apart := false }
def TitrateSaysSaid : Prop := titrateSaysRow.holds Try.pinned (OpenSpec.ofChange titrateSaysSpec)

/-- ITS FALSE NEIGHBOUR: 'it returns false'. Refute it at one input. -/
def titrateSaysWrong : ChangeSpec := { name := "titrateSays", fn := fun _ => fun
  | [d1, d2] => { results := [.lit (.bool false)], args := [d1, d2] }
  | _ => none }
def TitrateSaysWrongFalsely : Prop := titrateSaysRow.holds Try.pinned (OpenSpec.ofChange titrateSaysWrong)

/-- 'pinchcocklaw38.TitrateLeads': WHATEVER THE INPUT: true; the input reads as it did. -/
def titrateLeadsSpec : ChangeSpec := { name := "titrateLeads", fn := fun _ => fun
  | [d1, d2] => { results := [.lit (.bool true)], args := [d1, d2] }
  | _ => none }
def titrateLeadsRow : OpenClaim := { program := "ytmojkehedkhdbaa", sum := "a8991df06c15f038239e8ddb4530cb4bd20763cff9c0b59763b2f882def8d8dc", func := "pinchcock/pinchcocklaw38.TitrateLeads", spec := "titrateLeads", apart := false }
def TitrateLeadsSaid : Prop := titrateLeadsRow.holds Try.pinned (OpenSpec.ofChange titrateLeadsSpec)

/-- ITS FALSE NEIGHBOUR: 'it returns false'. Refute it at one input. -/
def titrateLeadsWrong : ChangeSpec := { name := "titrateLeads", fn := fun _ => fun
  | [d1, d2] => { results := [.lit (.bool false)], args := [d1, d2] }
  | _ => none }
def TitrateLeadsWrongFalsely : Prop := titrateLeadsRow.holds Try.pinned (OpenSpec.ofChange titrateLeadsWrong)

/-- 'pinchcocklaw38.TitrateTurns': WHATEVER THE INPUT: true; the input reads as it did. -/
def titrateTurnsSpec : ChangeSpec := { name := "titrateTurns", fn := fun _ => fun
  | [d1, d2] => { results := [.lit (.bool true)], args := [d1, d2] }
  | _ => none }
def titrateTurnsRow : OpenClaim := { program := "ytmojkehedkhdbaa", sum := "a8991df06c15f038239e8ddb4530cb4bd20763cff9c0b59763b2f882def8d8dc", func := "pinchcock/pinchcocklaw38.TitrateTurns", spec := "titrateTurns", apart := false }
def TitrateTurnsSaid : Prop := titrateTurnsRow.holds Try.pinned (OpenSpec.ofChange titrateTurnsSpec)

/-- ITS FALSE NEIGHBOUR: 'it returns false'. Refute it at one input. -/
def titrateTurnsWrong : ChangeSpec := { name := "titrateTurns", fn := fun _ => fun
  | [d1, d2] => { results := [.lit (.bool false)], args := [d1, d2] }
  | _ => none }
def TitrateTurnsWrongFalsely : Prop := titrateTurnsRow.holds Try.pinned (OpenSpec.ofChange titrateTurnsWrong)

/-- 'pinchcocklaw26.PaneExact': WHATEVER THE INPUT: true; the input reads as it did. -/
def paneExactSpec : ChangeSpec := { name := "paneExact", fn := fun _ => fun
  | [d1, d2] => { results := [.lit (.bool true)], args := [d1, d2] }
  | _ => none }
def paneExactRow : OpenClaim := { program := "ytmojkehedkhdbaa", sum := "a8991df06c15f038239e8ddb4530cb4bd20763cff9c0b59763b2f882def8d8dc", func := "pinchcock/pinchcocklaw26.PaneExact", spec := "paneExact", apart := false }
def PaneExactSaid : Prop := paneExactRow.holds Try.pinned (OpenSpec.ofChange paneExactSpec)

/-- ITS FALSE NEIGHBOUR: 'it returns false'. Refute it at one input. -/
def paneExactWrong : ChangeSpec := { name := "paneExact", fn := fun _ => fun
  | [d1, d2] => { results := [.lit (.bool false)], args := [d1, d2] }
  | _ => none }
def PaneExactWrongFalsely : Prop := paneExactRow.holds Try.pinned (OpenSpec.ofChange paneExactWrong)

/-- 'pinchcocklaw26.PaneCalm': WHATEVER THE INPUT: true; the input reads as it did. -/
def paneCalmSpec : ChangeSpec := { name := "paneCalm", fn := fun _ => fun
  | [d1, d2, d3] => { results := [.lit (.bool true)], args := [d1, d2, d3] }
  | _ => none }
def paneCalmRow : OpenClaim := { program := "ytmojkehedkhdbaa", sum := "a8991df06c15f038239e8ddb4530cb4bd20763cff9c0b59763b2f882def8d8dc", func := "pinchcock/pinchcocklaw26.PaneCalm", spec := "paneCalm", inPlace := ["math/bits.Add64"], unfollowed := true, recurses := true, named := ["math/bits.divideError", "math/bits.overflowError"], apart := false }
def PaneCalmSaid : Prop := paneCalmRow.holds Try.pinned (OpenSpec.ofChange paneCalmSpec)

/-- ITS FALSE NEIGHBOUR: 'it returns false'. Refute it at one input. -/
def paneCalmWrong : ChangeSpec := { name := "paneCalm", fn := fun _ => fun
  | [d1, d2, d3] => { results := [.lit (.bool false)], args := [d1, d2, d3] }
  | _ => none }
def PaneCalmWrongFalsely : Prop := paneCalmRow.holds Try.pinned (OpenSpec.ofChange paneCalmWrong)

/-- 'pinchcocklaw27.PiWindup': WHATEVER THE INPUT: true; the input reads as it did. -/
def piWindupSpec : ChangeSpec := { name := "piWindup", fn := fun _ => fun
  | [d1, d2, d3] => { results := [.lit (.bool true)], args := [d1, d2, d3] }
  | _ => none }
def piWindupRow : OpenClaim := { program := "ytmojkehedkhdbaa", sum := "a8991df06c15f038239e8ddb4530cb4bd20763cff9c0b59763b2f882def8d8dc", func := "pinchcock/pinchcocklaw27.PiWindup", spec := "piWindup", apart := false }
def PiWindupSaid : Prop := piWindupRow.holds Try.pinned (OpenSpec.ofChange piWindupSpec)

/-- ITS FALSE NEIGHBOUR: 'it returns false'. Refute it at one input. -/
def piWindupWrong : ChangeSpec := { name := "piWindup", fn := fun _ => fun
  | [d1, d2, d3] => { results := [.lit (.bool false)], args := [d1, d2, d3] }
  | _ => none }
def PiWindupWrongFalsely : Prop := piWindupRow.holds Try.pinned (OpenSpec.ofChange piWindupWrong)

/-- 'pinchcocklaw27.PiSums': WHATEVER THE INPUT: true; the input reads as it did. -/
def piSumsSpec : ChangeSpec := { name := "piSums", fn := fun _ => fun
  | [d] => { results := [.lit (.bool true)], args := [d] }
  | _ => none }
def piSumsRow : OpenClaim := { program := "ytmojkehedkhdbaa", sum := "a8991df06c15f038239e8ddb4530cb4bd20763cff9c0b59763b2f882def8d8dc", func := "pinchcock/pinchcocklaw27.PiSums", spec := "piSums", apart := false }
def PiSumsSaid : Prop := piSumsRow.holds Try.pinned (OpenSpec.ofChange piSumsSpec)

/-- ITS FALSE NEIGHBOUR: 'it returns false'. Refute it at one input. -/
def piSumsWrong : ChangeSpec := { name := "piSums", fn := fun _ => fun
  | [d] => { results := [.lit (.bool false)], args := [d] }
  | _ => none }
def PiSumsWrongFalsely : Prop := piSumsRow.holds Try.pinned (OpenSpec.ofChange piSumsWrong)

/- THE SECOND FORM. 'bulk': how many values and letters a reading holds, each counted each time it is reached (what is shared counts as often as it is met; a slice's spare places count too). A statement '..UptoSaid' is the law's where the arguments, and the package variables that the reading takes, are together of bulk at most 1048576: NARROWER than '..Said'. Prove '..Said' where nothing that the law and all that it calls make is longer than what came in: it says more and counts as full. Else prove '..UptoSaid'. A law counts once. -/
mutual
def uptoBulk {H : Type} : DataW H → Nat
  | .lit (.string bytes) => bytes.length + 1
  | .lit _ => 1
  | .nil => 1
  | .ptr d => uptoBulk d + 1
  | .slice elems spare => uptoBulkAll elems + uptoBulkAll spare + 1
  | .agg parts => uptoBulkAll parts + 1
  | .iface _ d => uptoBulk d + 1
  | .map entries => uptoBulkEntries entries + 1
  | .held _ => 1
def uptoBulkAll {H : Type} : List (DataW H) → Nat
  | [] => 0
  | d :: r => uptoBulk d + uptoBulkAll r
def uptoBulkEntries {H : Type} : List (Lit × DataW H) → Nat
  | [] => 0
  | x :: r => uptoBulkEntry x + uptoBulkEntries r
def uptoBulkEntry {H : Type} : Lit × DataW H → Nat
  | (.string bytes, d) => bytes.length + uptoBulk d + 1
  | (_, d) => uptoBulk d + 1
 end
def uptoSmall : (H : Type) → List (DataW H) → Bool := fun _ ds => decide (uptoBulkAll ds ≤ 1048576)
def OpenSpec.upto (s : _root_.Go.ChangeSpec) : _root_.Go.OpenSpec := { _root_.Go.OpenSpec.ofChange s with cond := some uptoSmall }

/-- 'pinchcocklaw38.TitrateSays', WHERE WHAT IT READS IS OF BULK AT MOST 1048576: true; the input reads as it did. -/
def titrateSaysUptoRow : OpenClaim := { program := "ytmojkehedkhdbaa", sum := "a8991df06c15f038239e8ddb4530cb4bd20763cff9c0b59763b2f882def8d8dc", func := "pinchcock/pinchcocklaw38.TitrateSays", spec := "titrateSays", apart := false, narrowed := true }
def TitrateSaysUptoSaid : Prop := titrateSaysUptoRow.holds Try.pinned (OpenSpec.upto titrateSaysSpec)

/-- 'pinchcocklaw38.TitrateLeads', WHERE WHAT IT READS IS OF BULK AT MOST 1048576: true; the input reads as it did. -/
def titrateLeadsUptoRow : OpenClaim := { program := "ytmojkehedkhdbaa", sum := "a8991df06c15f038239e8ddb4530cb4bd20763cff9c0b59763b2f882def8d8dc", func := "pinchcock/pinchcocklaw38.TitrateLeads", spec := "titrateLeads", apart := false, narrowed := true }
def TitrateLeadsUptoSaid : Prop := titrateLeadsUptoRow.holds Try.pinned (OpenSpec.upto titrateLeadsSpec)

/-- 'pinchcocklaw38.TitrateTurns', WHERE WHAT IT READS IS OF BULK AT MOST 1048576: true; the input reads as it did. -/
def titrateTurnsUptoRow : OpenClaim := { program := "ytmojkehedkhdbaa", sum := "a8991df06c15f038239e8ddb4530cb4bd20763cff9c0b59763b2f882def8d8dc", func := "pinchcock/pinchcocklaw38.TitrateTurns", spec := "titrateTurns", apart := false, narrowed := true }
def TitrateTurnsUptoSaid : Prop := titrateTurnsUptoRow.holds Try.pinned (OpenSpec.upto titrateTurnsSpec)

/-- 'pinchcocklaw26.PaneExact', WHERE WHAT IT READS IS OF BULK AT MOST 1048576: true; the input reads as it did. -/
def paneExactUptoRow : OpenClaim := { program := "ytmojkehedkhdbaa", sum := "a8991df06c15f038239e8ddb4530cb4bd20763cff9c0b59763b2f882def8d8dc", func := "pinchcock/pinchcocklaw26.PaneExact", spec := "paneExact", apart := false, narrowed := true }
def PaneExactUptoSaid : Prop := paneExactUptoRow.holds Try.pinned (OpenSpec.upto paneExactSpec)

/-- 'pinchcocklaw26.PaneCalm', WHERE WHAT IT READS IS OF BULK AT MOST 1048576: true; the input reads as it did. -/
def paneCalmUptoRow : OpenClaim := { program := "ytmojkehedkhdbaa", sum := "a8991df06c15f038239e8ddb4530cb4bd20763cff9c0b59763b2f882def8d8dc", func := "pinchcock/pinchcocklaw26.PaneCalm", spec := "paneCalm", inPlace := ["math/bits.Add64"], unfollowed := true, recurses := true, named := ["math/bits.divideError", "math/bits.overflowError"], apart := false, narrowed := true }
def PaneCalmUptoSaid : Prop := paneCalmUptoRow.holds Try.pinned (OpenSpec.upto paneCalmSpec)

/-- 'pinchcocklaw27.PiWindup', WHERE WHAT IT READS IS OF BULK AT MOST 1048576: true; the input reads as it did. -/
def piWindupUptoRow : OpenClaim := { program := "ytmojkehedkhdbaa", sum := "a8991df06c15f038239e8ddb4530cb4bd20763cff9c0b59763b2f882def8d8dc", func := "pinchcock/pinchcocklaw27.PiWindup", spec := "piWindup", apart := false, narrowed := true }
def PiWindupUptoSaid : Prop := piWindupUptoRow.holds Try.pinned (OpenSpec.upto piWindupSpec)

/-- 'pinchcocklaw27.PiSums', WHERE WHAT IT READS IS OF BULK AT MOST 1048576: true; the input reads as it did. -/
def piSumsUptoRow : OpenClaim := { program := "ytmojkehedkhdbaa", sum := "a8991df06c15f038239e8ddb4530cb4bd20763cff9c0b59763b2f882def8d8dc", func := "pinchcock/pinchcocklaw27.PiSums", spec := "piSums", apart := false, narrowed := true }
def PiSumsUptoSaid : Prop := piSumsUptoRow.holds Try.pinned (OpenSpec.upto piSumsSpec)

end Rows
end Go.Proofs.Ytmojkehedkhdbaa
