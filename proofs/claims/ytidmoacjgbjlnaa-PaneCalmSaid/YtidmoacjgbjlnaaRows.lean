/-
  No cell of these rows narrows 'for every input' (looked for: loops, veiled, ifaces, maps, wideKeys, modest, calm, conditions, laid).
  DERIVED. THE GIVEN ROWS OF THIS SEAT. 9 by the template 'for every input the law returns true; each argument reads behind the call as it read before'; 0 by the template 'total and deterministic' (their statements: YtidmoacjgbjlnaaTotals.lean).
  GIVEN WITH THE SEED: the statements are not yours to turn. If you find one false, say at which input.
  Laid BY PROGRAM, IN A SANDBOX (cutbox-rows.mjs): the forced cells as the released guide's own fill.sh prints them over the translation 3f6a116c45c449b0… (all of the seat's roots in one cut). By AI agents, Wed Nov 11 2026. No macro, syntax, notation, axiom, sorry.
-/
import Derived.Test.YtidmoacjgbjlnaaChecked
import GoSem.Claim
import GoSem.ClaimJoined
import GoSem.ClaimMapViews
import Derived.JoinedTies
import Derived.KernelRfl
namespace Go.Proofs.Ytidmoacjgbjlnaa
/- THE CELL 'sum', in the pinned program and in every row, IS THE sha256 OF THE DUMP (.gsa) THAT YtidmoacjgbjlnaaProg.lean LOADS. Nothing in Lean hashes anything: it is a label: what it is worth is what the hold of that sum in a sandbox is worth. -/
noncomputable def Try.pinned : Pinned := { name := "ytidmoacjgbjlnaa", sum := "3f6a116c45c449b00eb89f7c230b151ab5a9ed20e6d8422d0db34d7f5aeac072", checked := Try.checked }
namespace Rows
def none {H : Type} : Left H := { results := [], args := [] }

/-- 'pinchcocklaw26.PaneExact': WHATEVER THE INPUT: true; the input reads as it did. -/
def paneExactSpec : ChangeSpec := { name := "paneExact", fn := fun _ => fun
  | [d1, d2] => { results := [.lit (.bool true)], args := [d1, d2] }
  | _ => none }
def paneExactRow : OpenClaim := { program := "ytidmoacjgbjlnaa", sum := "3f6a116c45c449b00eb89f7c230b151ab5a9ed20e6d8422d0db34d7f5aeac072", func := "pinchcock/pinchcocklaw26.PaneExact", spec := "paneExact", apart := false }
def PaneExactSaid : Prop := paneExactRow.holds Try.pinned (OpenSpec.ofChange paneExactSpec)

/-- ITS FALSE NEIGHBOUR: 'it returns false'. Refute it at one input. -/
def paneExactWrong : ChangeSpec := { name := "paneExact", fn := fun _ => fun
  | [d1, d2] => { results := [.lit (.bool false)], args := [d1, d2] }
  | _ => none }
def PaneExactWrongFalsely : Prop := paneExactRow.holds Try.pinned (OpenSpec.ofChange paneExactWrong)

/-- 'pinchcocklaw26.PaneCalm': WHATEVER THE INPUT: true; the input reads as it did. -/
def paneCalmSpec : ChangeSpec := { name := "paneCalm", fn := fun _ => fun
  | [d1, d2, d3] => { results := [.lit (.bool true)], args := [d1, d2, d3] }
  | _ => none }
def paneCalmRow : OpenClaim := { program := "ytidmoacjgbjlnaa", sum := "3f6a116c45c449b00eb89f7c230b151ab5a9ed20e6d8422d0db34d7f5aeac072", func := "pinchcock/pinchcocklaw26.PaneCalm", spec := "paneCalm", inPlace := ["math/bits.Add64"], unfollowed := true, recurses := true, named := ["math/bits.divideError", "math/bits.overflowError"], apart := false }
def PaneCalmSaid : Prop := paneCalmRow.holds Try.pinned (OpenSpec.ofChange paneCalmSpec)

/-- ITS FALSE NEIGHBOUR: 'it returns false'. Refute it at one input. -/
def paneCalmWrong : ChangeSpec := { name := "paneCalm", fn := fun _ => fun
  | [d1, d2, d3] => { results := [.lit (.bool false)], args := [d1, d2, d3] }
  | _ => none }
def PaneCalmWrongFalsely : Prop := paneCalmRow.holds Try.pinned (OpenSpec.ofChange paneCalmWrong)

/-- 'pinchcocklaw24.BeatSays': WHATEVER THE INPUT: true; the input reads as it did. -/
def beatSaysSpec : ChangeSpec := { name := "beatSays", fn := fun _ => fun
  | [d1, d2, d3] => { results := [.lit (.bool true)], args := [d1, d2, d3] }
  | _ => none }
def beatSaysRow : OpenClaim := { program := "ytidmoacjgbjlnaa", sum := "3f6a116c45c449b00eb89f7c230b151ab5a9ed20e6d8422d0db34d7f5aeac072", func := "pinchcock/pinchcocklaw24.BeatSays", spec := "beatSays", recurses := true, apart := false }
def BeatSaysSaid : Prop := beatSaysRow.holds Try.pinned (OpenSpec.ofChange beatSaysSpec)

/-- ITS FALSE NEIGHBOUR: 'it returns false'. Refute it at one input. -/
def beatSaysWrong : ChangeSpec := { name := "beatSays", fn := fun _ => fun
  | [d1, d2, d3] => { results := [.lit (.bool false)], args := [d1, d2, d3] }
  | _ => none }
def BeatSaysWrongFalsely : Prop := beatSaysRow.holds Try.pinned (OpenSpec.ofChange beatSaysWrong)

/-- 'pinchcocklaw24.BeatSteady': WHATEVER THE INPUT: true; the input reads as it did. -/
def beatSteadySpec : ChangeSpec := { name := "beatSteady", fn := fun _ => fun
  | [d1, d2, d3] => { results := [.lit (.bool true)], args := [d1, d2, d3] }
  | _ => none }
def beatSteadyRow : OpenClaim := { program := "ytidmoacjgbjlnaa", sum := "3f6a116c45c449b00eb89f7c230b151ab5a9ed20e6d8422d0db34d7f5aeac072", func := "pinchcock/pinchcocklaw24.BeatSteady", spec := "beatSteady", recurses := true, apart := false }
def BeatSteadySaid : Prop := beatSteadyRow.holds Try.pinned (OpenSpec.ofChange beatSteadySpec)

/-- ITS FALSE NEIGHBOUR: 'it returns false'. Refute it at one input. -/
def beatSteadyWrong : ChangeSpec := { name := "beatSteady", fn := fun _ => fun
  | [d1, d2, d3] => { results := [.lit (.bool false)], args := [d1, d2, d3] }
  | _ => none }
def BeatSteadyWrongFalsely : Prop := beatSteadyRow.holds Try.pinned (OpenSpec.ofChange beatSteadyWrong)

/-- 'pinchcocklaw24.BeatFades': WHATEVER THE INPUT: true; the input reads as it did. -/
def beatFadesSpec : ChangeSpec := { name := "beatFades", fn := fun _ => fun
  | [d1, d2, d3] => { results := [.lit (.bool true)], args := [d1, d2, d3] }
  | _ => none }
def beatFadesRow : OpenClaim := { program := "ytidmoacjgbjlnaa", sum := "3f6a116c45c449b00eb89f7c230b151ab5a9ed20e6d8422d0db34d7f5aeac072", func := "pinchcock/pinchcocklaw24.BeatFades", spec := "beatFades", recurses := true, apart := false }
def BeatFadesSaid : Prop := beatFadesRow.holds Try.pinned (OpenSpec.ofChange beatFadesSpec)

/-- ITS FALSE NEIGHBOUR: 'it returns false'. Refute it at one input. -/
def beatFadesWrong : ChangeSpec := { name := "beatFades", fn := fun _ => fun
  | [d1, d2, d3] => { results := [.lit (.bool false)], args := [d1, d2, d3] }
  | _ => none }
def BeatFadesWrongFalsely : Prop := beatFadesRow.holds Try.pinned (OpenSpec.ofChange beatFadesWrong)

/-- 'pinchcocklaw39.JournalSays': WHATEVER THE INPUT: true; the input reads as it did. -/
def journalSaysSpec : ChangeSpec := { name := "journalSays", fn := fun _ => fun
  | [d1, d2] => { results := [.lit (.bool true)], args := [d1, d2] }
  | _ => none }
def journalSaysRow : OpenClaim := { program := "ytidmoacjgbjlnaa", sum := "3f6a116c45c449b00eb89f7c230b151ab5a9ed20e6d8422d0db34d7f5aeac072", func := "pinchcock/pinchcocklaw39.JournalSays", spec := "journalSays", apart := false }
def JournalSaysSaid : Prop := journalSaysRow.holds Try.pinned (OpenSpec.ofChange journalSaysSpec)

/-- ITS FALSE NEIGHBOUR: 'it returns false'. Refute it at one input. -/
def journalSaysWrong : ChangeSpec := { name := "journalSays", fn := fun _ => fun
  | [d1, d2] => { results := [.lit (.bool false)], args := [d1, d2] }
  | _ => none }
def JournalSaysWrongFalsely : Prop := journalSaysRow.holds Try.pinned (OpenSpec.ofChange journalSaysWrong)

/-- 'pinchcocklaw39.JournalBack': WHATEVER THE INPUT: true; the input reads as it did. -/
def journalBackSpec : ChangeSpec := { name := "journalBack", fn := fun _ => fun
  | [d1, d2] => { results := [.lit (.bool true)], args := [d1, d2] }
  | _ => none }
def journalBackRow : OpenClaim := { program := "ytidmoacjgbjlnaa", sum := "3f6a116c45c449b00eb89f7c230b151ab5a9ed20e6d8422d0db34d7f5aeac072", func := "pinchcock/pinchcocklaw39.JournalBack", spec := "journalBack", apart := false }
def JournalBackSaid : Prop := journalBackRow.holds Try.pinned (OpenSpec.ofChange journalBackSpec)

/-- ITS FALSE NEIGHBOUR: 'it returns false'. Refute it at one input. -/
def journalBackWrong : ChangeSpec := { name := "journalBack", fn := fun _ => fun
  | [d1, d2] => { results := [.lit (.bool false)], args := [d1, d2] }
  | _ => none }
def JournalBackWrongFalsely : Prop := journalBackRow.holds Try.pinned (OpenSpec.ofChange journalBackWrong)

/-- 'pinchcocklaw39.JournalFinds': WHATEVER THE INPUT: true; the input reads as it did. -/
def journalFindsSpec : ChangeSpec := { name := "journalFinds", fn := fun _ => fun
  | [d1, d2, d3] => { results := [.lit (.bool true)], args := [d1, d2, d3] }
  | _ => none }
def journalFindsRow : OpenClaim := { program := "ytidmoacjgbjlnaa", sum := "3f6a116c45c449b00eb89f7c230b151ab5a9ed20e6d8422d0db34d7f5aeac072", func := "pinchcock/pinchcocklaw39.JournalFinds", spec := "journalFinds", apart := false }
def JournalFindsSaid : Prop := journalFindsRow.holds Try.pinned (OpenSpec.ofChange journalFindsSpec)

/-- ITS FALSE NEIGHBOUR: 'it returns false'. Refute it at one input. -/
def journalFindsWrong : ChangeSpec := { name := "journalFinds", fn := fun _ => fun
  | [d1, d2, d3] => { results := [.lit (.bool false)], args := [d1, d2, d3] }
  | _ => none }
def JournalFindsWrongFalsely : Prop := journalFindsRow.holds Try.pinned (OpenSpec.ofChange journalFindsWrong)

/-- 'pinchcocklaw15.FlashOther': WHATEVER THE INPUT: true; the input reads as it did. -/
def flashOtherSpec : ChangeSpec := { name := "flashOther", fn := fun _ => fun
  | [d1, d2] => { results := [.lit (.bool true)], args := [d1, d2] }
  | _ => none }
def flashOtherRow : OpenClaim := { program := "ytidmoacjgbjlnaa", sum := "3f6a116c45c449b00eb89f7c230b151ab5a9ed20e6d8422d0db34d7f5aeac072", func := "pinchcock/pinchcocklaw15.FlashOther", spec := "flashOther", apart := false }
def FlashOtherSaid : Prop := flashOtherRow.holds Try.pinned (OpenSpec.ofChange flashOtherSpec)

/-- ITS FALSE NEIGHBOUR: 'it returns false'. Refute it at one input. -/
def flashOtherWrong : ChangeSpec := { name := "flashOther", fn := fun _ => fun
  | [d1, d2] => { results := [.lit (.bool false)], args := [d1, d2] }
  | _ => none }
def FlashOtherWrongFalsely : Prop := flashOtherRow.holds Try.pinned (OpenSpec.ofChange flashOtherWrong)

/- THE SECOND FORM. 'bulk': how many values and letters a reading holds, each counted each time it is reached (what is shared counts as often as it is met; a slice's spare places count too). A statement '..UptoSaid' is the law's where the arguments, and the package variables that the reading takes, are together of bulk at most 1048576: NARROWER than '..Said'. Prove '..Said' where nothing that the law and all that it calls make is longer than what came in: it says more and counts as full. Else prove '..UptoSaid'. A law counts once. -/
mutual
def uptoBulk {H : Type} : DataW H → Nat
  | .lit (.string bytes) => bytes.length + 1
  | .lit _ => 1
  | .nil => 1
  | .ptr d => uptoBulk d + 1
  | .slice elems spare => uptoBulkAll elems + uptoBulkAll spare + 1
  | .agg parts => uptoBulkAll parts + 1
  | .iface _ d => uptoBulk d + 1
  | .map entries => uptoBulkEntries entries + 1
  | .held _ => 1
def uptoBulkAll {H : Type} : List (DataW H) → Nat
  | [] => 0
  | d :: r => uptoBulk d + uptoBulkAll r
def uptoBulkEntries {H : Type} : List (Lit × DataW H) → Nat
  | [] => 0
  | x :: r => uptoBulkEntry x + uptoBulkEntries r
def uptoBulkEntry {H : Type} : Lit × DataW H → Nat
  | (.string bytes, d) => bytes.length + uptoBulk d + 1
  | (_, d) => uptoBulk d + 1
 end
def uptoSmall : (H : Type) → List (DataW H) → Bool := fun _ ds => decide (uptoBulkAll ds ≤ 1048576)
def OpenSpec.upto (s : _root_.Go.ChangeSpec) : _root_.Go.OpenSpec := { _root_.Go.OpenSpec.ofChange s with cond := some uptoSmall }

/-- 'pinchcocklaw26.PaneExact', WHERE WHAT IT READS IS OF BULK AT MOST 1048576: true; the input reads as it did. -/
def paneExactUptoRow : OpenClaim := { program := "ytidmoacjgbjlnaa", sum := "3f6a116c45c449b00eb89f7c230b151ab5a9ed20e6d8422d0db34d7f5aeac072", func := "pinchcock/pinchcocklaw26.PaneExact", spec := "paneExact", apart := false, narrowed := true }
def PaneExactUptoSaid : Prop := paneExactUptoRow.holds Try.pinned (OpenSpec.upto paneExactSpec)

/-- 'pinchcocklaw26.PaneCalm', WHERE WHAT IT READS IS OF BULK AT MOST 1048576: true; the input reads as it did. -/
def paneCalmUptoRow : OpenClaim := { program := "ytidmoacjgbjlnaa", sum := "3f6a116c45c449b00eb89f7c230b151ab5a9ed20e6d8422d0db34d7f5aeac072", func := "pinchcock/pinchcocklaw26.PaneCalm", spec := "paneCalm", inPlace := ["math/bits.Add64"], unfollowed := true, recurses := true, named := ["math/bits.divideError", "math/bits.overflowError"], apart := false, narrowed := true }
def PaneCalmUptoSaid : Prop := paneCalmUptoRow.holds Try.pinned (OpenSpec.upto paneCalmSpec)

/-- 'pinchcocklaw24.BeatSays', WHERE WHAT IT READS IS OF BULK AT MOST 1048576: true; the input reads as it did. -/
def beatSaysUptoRow : OpenClaim := { program := "ytidmoacjgbjlnaa", sum := "3f6a116c45c449b00eb89f7c230b151ab5a9ed20e6d8422d0db34d7f5aeac072", func := "pinchcock/pinchcocklaw24.BeatSays", spec := "beatSays", recurses := true, apart := false, narrowed := true }
def BeatSaysUptoSaid : Prop := beatSaysUptoRow.holds Try.pinned (OpenSpec.upto beatSaysSpec)

/-- 'pinchcocklaw24.BeatSteady', WHERE WHAT IT READS IS OF BULK AT MOST 1048576: true; the input reads as it did. -/
def beatSteadyUptoRow : OpenClaim := { program := "ytidmoacjgbjlnaa", sum := "3f6a116c45c449b00eb89f7c230b151ab5a9ed20e6d8422d0db34d7f5aeac072", func := "pinchcock/pinchcocklaw24.BeatSteady", spec := "beatSteady", recurses := true, apart := false, narrowed := true }
def BeatSteadyUptoSaid : Prop := beatSteadyUptoRow.holds Try.pinned (OpenSpec.upto beatSteadySpec)

/-- 'pinchcocklaw24.BeatFades', WHERE WHAT IT READS IS OF BULK AT MOST 1048576: true; the input reads as it did. -/
def beatFadesUptoRow : OpenClaim := { program := "ytidmoacjgbjlnaa", sum := "3f6a116c45c449b00eb89f7c230b151ab5a9ed20e6d8422d0db34d7f5aeac072", func := "pinchcock/pinchcocklaw24.BeatFades", spec := "beatFades", recurses := true, apart := false, narrowed := true }
def BeatFadesUptoSaid : Prop := beatFadesUptoRow.holds Try.pinned (OpenSpec.upto beatFadesSpec)

/-- 'pinchcocklaw39.JournalSays', WHERE WHAT IT READS IS OF BULK AT MOST 1048576: true; the input reads as it did. -/
def journalSaysUptoRow : OpenClaim := { program := "ytidmoacjgbjlnaa", sum := "3f6a116c45c449b00eb89f7c230b151ab5a9ed20e6d8422d0db34d7f5aeac072", func := "pinchcock/pinchcocklaw39.JournalSays", spec := "journalSays", apart := false, narrowed := true }
def JournalSaysUptoSaid : Prop := journalSaysUptoRow.holds Try.pinned (OpenSpec.upto journalSaysSpec)

/-- 'pinchcocklaw39.JournalBack', WHERE WHAT IT READS IS OF BULK AT MOST 1048576: true; the input reads as it did. -/
def journalBackUptoRow : OpenClaim := { program := "ytidmoacjgbjlnaa", sum := "3f6a116c45c449b00eb89f7c230b151ab5a9ed20e6d8422d0db34d7f5aeac072", func := "pinchcock/pinchcocklaw39.JournalBack", spec := "journalBack", apart := false, narrowed := true }
def JournalBackUptoSaid : Prop := journalBackUptoRow.holds Try.pinned (OpenSpec.upto journalBackSpec)

/-- 'pinchcocklaw39.JournalFinds', WHERE WHAT IT READS IS OF BULK AT MOST 1048576: true; the input reads as it did. -/
def journalFindsUptoRow : OpenClaim := { program := "ytidmoacjgbjlnaa", sum := "3f6a116c45c449b00eb89f7c230b151ab5a9ed20e6d8422d0db34d7f5aeac072", func := "pinchcock/pinchcocklaw39.JournalFinds", spec := "journalFinds", apart := false, narrowed := true }
def JournalFindsUptoSaid : Prop := journalFindsUptoRow.holds Try.pinned (OpenSpec.upto journalFindsSpec)

/-- 'pinchcocklaw15.FlashOther', WHERE WHAT IT READS IS OF BULK AT MOST 1048576: true; the input reads as it did. -/
def flashOtherUptoRow : OpenClaim := { program := "ytidmoacjgbjlnaa", sum := "3f6a116c45c449b00eb89f7c230b151ab5a9ed20e6d8422d0db34d7f5aeac072", func := "pinchcock/pinchcocklaw15.FlashOther", spec := "flashOther", apart := false, narrowed := true }
def FlashOtherUptoSaid : Prop := flashOtherUptoRow.holds Try.pinned (OpenSpec.upto flashOtherSpec)

end Rows
end Go.Proofs.Ytidmoacjgbjlnaa
