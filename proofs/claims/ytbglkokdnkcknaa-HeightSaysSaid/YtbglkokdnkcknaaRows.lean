/-
  No cell of these rows narrows 'for every input' (looked for: loops, veiled, ifaces, maps, wideKeys, modest, calm, conditions, laid).
  DERIVED. THE GIVEN ROWS OF THIS SEAT. 11 by the template 'for every input the law returns true; each argument reads behind the call as it read before'; 0 by the template 'total and deterministic' (their statements: YtbglkokdnkcknaaTotals.lean).
  GIVEN WITH THE SEED: the statements are not yours to turn. If you find one false, say at which input.
  Laid BY PROGRAM, IN A SANDBOX (cutbox-rows.mjs): the forced cells as the released guide's own fill.sh prints them over the translation 2cc3f6a2f54bacaf… (all of the seat's roots in one cut). By AI agents, Wed Nov 11 2026. No macro, syntax, notation, axiom, sorry.
-/
import Derived.Test.YtbglkokdnkcknaaChecked
import GoSem.Claim
import GoSem.ClaimJoined
import GoSem.ClaimMapViews
import Derived.JoinedTies
import Derived.KernelRfl
namespace Go.Proofs.Ytbglkokdnkcknaa
/- THE CELL 'sum', in the pinned program and in every row, IS THE sha256 OF THE DUMP (.gsa) THAT YtbglkokdnkcknaaProg.lean LOADS. Nothing in Lean hashes anything: it is a label: what it is worth is what the hold of that sum in a sandbox is worth. -/
noncomputable def Try.pinned : Pinned := { name := "ytbglkokdnkcknaa", sum := "2cc3f6a2f54bacafdc9021a1d29ecd40783e65909e92c00c7d31a94a0623b7dd", checked := Try.checked }
namespace Rows
def none {H : Type} : Left H := { results := [], args := [] }

/-- 'pinchcocklaw28.SlewSays': WHATEVER THE INPUT: true; the input reads as it did. -/
def slewSaysSpec : ChangeSpec := { name := "slewSays", fn := fun _ => fun
  | [d1, d2, d3] => { results := [.lit (.bool true)], args := [d1, d2, d3] }
  | _ => none }
def slewSaysRow : OpenClaim := { program := "ytbglkokdnkcknaa", sum := "2cc3f6a2f54bacafdc9021a1d29ecd40783e65909e92c00c7d31a94a0623b7dd", func := "pinchcock/pinchcocklaw28.SlewSays", spec := "slewSays", apart := false }
def SlewSaysSaid : Prop := slewSaysRow.holds Try.pinned (OpenSpec.ofChange slewSaysSpec)

/-- ITS FALSE NEIGHBOUR: 'it returns false'. Refute it at one input. -/
def slewSaysWrong : ChangeSpec := { name := "slewSays", fn := fun _ => fun
  | [d1, d2, d3] => { results := [.lit (.bool false)], args := [d1, d2, d3] }
  | _ => none }
def SlewSaysWrongFalsely : Prop := slewSaysRow.holds Try.pinned (OpenSpec.ofChange slewSaysWrong)

/-- 'pinchcocklaw28.SlewGets': WHATEVER THE INPUT: true; the input reads as it did. -/
def slewGetsSpec : ChangeSpec := { name := "slewGets", fn := fun _ => fun
  | [d1, d2, d3] => { results := [.lit (.bool true)], args := [d1, d2, d3] }
  | _ => none }
def slewGetsRow : OpenClaim := { program := "ytbglkokdnkcknaa", sum := "2cc3f6a2f54bacafdc9021a1d29ecd40783e65909e92c00c7d31a94a0623b7dd", func := "pinchcock/pinchcocklaw28.SlewGets", spec := "slewGets", apart := false }
def SlewGetsSaid : Prop := slewGetsRow.holds Try.pinned (OpenSpec.ofChange slewGetsSpec)

/-- ITS FALSE NEIGHBOUR: 'it returns false'. Refute it at one input. -/
def slewGetsWrong : ChangeSpec := { name := "slewGets", fn := fun _ => fun
  | [d1, d2, d3] => { results := [.lit (.bool false)], args := [d1, d2, d3] }
  | _ => none }
def SlewGetsWrongFalsely : Prop := slewGetsRow.holds Try.pinned (OpenSpec.ofChange slewGetsWrong)

/-- 'pinchcocklaw29.HeightSays': WHATEVER THE INPUT: true; the input reads as it did. -/
def heightSaysSpec : ChangeSpec := { name := "heightSays", fn := fun _ => fun
  | [d1, d2, d3] => { results := [.lit (.bool true)], args := [d1, d2, d3] }
  | _ => none }
def heightSaysRow : OpenClaim := { program := "ytbglkokdnkcknaa", sum := "2cc3f6a2f54bacafdc9021a1d29ecd40783e65909e92c00c7d31a94a0623b7dd", func := "pinchcock/pinchcocklaw29.HeightSays", spec := "heightSays", apart := false }
def HeightSaysSaid : Prop := heightSaysRow.holds Try.pinned (OpenSpec.ofChange heightSaysSpec)

/-- ITS FALSE NEIGHBOUR: 'it returns false'. Refute it at one input. -/
def heightSaysWrong : ChangeSpec := { name := "heightSays", fn := fun _ => fun
  | [d1, d2, d3] => { results := [.lit (.bool false)], args := [d1, d2, d3] }
  | _ => none }
def HeightSaysWrongFalsely : Prop := heightSaysRow.holds Try.pinned (OpenSpec.ofChange heightSaysWrong)

/-- 'pinchcocklaw29.HeightTurns': WHATEVER THE INPUT: true; the input reads as it did. -/
def heightTurnsSpec : ChangeSpec := { name := "heightTurns", fn := fun _ => fun
  | [d1, d2, d3] => { results := [.lit (.bool true)], args := [d1, d2, d3] }
  | _ => none }
def heightTurnsRow : OpenClaim := { program := "ytbglkokdnkcknaa", sum := "2cc3f6a2f54bacafdc9021a1d29ecd40783e65909e92c00c7d31a94a0623b7dd", func := "pinchcock/pinchcocklaw29.HeightTurns", spec := "heightTurns", apart := false }
def HeightTurnsSaid : Prop := heightTurnsRow.holds Try.pinned (OpenSpec.ofChange heightTurnsSpec)

/-- ITS FALSE NEIGHBOUR: 'it returns false'. Refute it at one input. -/
def heightTurnsWrong : ChangeSpec := { name := "heightTurns", fn := fun _ => fun
  | [d1, d2, d3] => { results := [.lit (.bool false)], args := [d1, d2, d3] }
  | _ => none }
def HeightTurnsWrongFalsely : Prop := heightTurnsRow.holds Try.pinned (OpenSpec.ofChange heightTurnsWrong)

/-- 'pinchcocklaw29.HeightFinds': WHATEVER THE INPUT: true; the input reads as it did. -/
def heightFindsSpec : ChangeSpec := { name := "heightFinds", fn := fun _ => fun
  | [d1, d2, d3] => { results := [.lit (.bool true)], args := [d1, d2, d3] }
  | _ => none }
def heightFindsRow : OpenClaim := { program := "ytbglkokdnkcknaa", sum := "2cc3f6a2f54bacafdc9021a1d29ecd40783e65909e92c00c7d31a94a0623b7dd", func := "pinchcock/pinchcocklaw29.HeightFinds", spec := "heightFinds", apart := false }
def HeightFindsSaid : Prop := heightFindsRow.holds Try.pinned (OpenSpec.ofChange heightFindsSpec)

/-- ITS FALSE NEIGHBOUR: 'it returns false'. Refute it at one input. -/
def heightFindsWrong : ChangeSpec := { name := "heightFinds", fn := fun _ => fun
  | [d1, d2, d3] => { results := [.lit (.bool false)], args := [d1, d2, d3] }
  | _ => none }
def HeightFindsWrongFalsely : Prop := heightFindsRow.holds Try.pinned (OpenSpec.ofChange heightFindsWrong)

/-- 'pinchcocklaw31.DriftSays': WHATEVER THE INPUT: true; the input reads as it did. -/
def driftSaysSpec : ChangeSpec := { name := "driftSays", fn := fun _ => fun
  | [d1, d2, d3] => { results := [.lit (.bool true)], args := [d1, d2, d3] }
  | _ => none }
def driftSaysRow : OpenClaim := { program := "ytbglkokdnkcknaa", sum := "2cc3f6a2f54bacafdc9021a1d29ecd40783e65909e92c00c7d31a94a0623b7dd", func := "pinchcock/pinchcocklaw31.DriftSays", spec := "driftSays", apart := false }
def DriftSaysSaid : Prop := driftSaysRow.holds Try.pinned (OpenSpec.ofChange driftSaysSpec)

/-- ITS FALSE NEIGHBOUR: 'it returns false'. Refute it at one input. -/
def driftSaysWrong : ChangeSpec := { name := "driftSays", fn := fun _ => fun
  | [d1, d2, d3] => { results := [.lit (.bool false)], args := [d1, d2, d3] }
  | _ => none }
def DriftSaysWrongFalsely : Prop := driftSaysRow.holds Try.pinned (OpenSpec.ofChange driftSaysWrong)

/-- 'pinchcocklaw31.DriftFive': WHATEVER THE INPUT: true; the input reads as it did. -/
def driftFiveSpec : ChangeSpec := { name := "driftFive", fn := fun _ => fun
  | [d1, d2] => { results := [.lit (.bool true)], args := [d1, d2] }
  | _ => none }
def driftFiveRow : OpenClaim := { program := "ytbglkokdnkcknaa", sum := "2cc3f6a2f54bacafdc9021a1d29ecd40783e65909e92c00c7d31a94a0623b7dd", func := "pinchcock/pinchcocklaw31.DriftFive", spec := "driftFive", apart := false }
def DriftFiveSaid : Prop := driftFiveRow.holds Try.pinned (OpenSpec.ofChange driftFiveSpec)

/-- ITS FALSE NEIGHBOUR: 'it returns false'. Refute it at one input. -/
def driftFiveWrong : ChangeSpec := { name := "driftFive", fn := fun _ => fun
  | [d1, d2] => { results := [.lit (.bool false)], args := [d1, d2] }
  | _ => none }
def DriftFiveWrongFalsely : Prop := driftFiveRow.holds Try.pinned (OpenSpec.ofChange driftFiveWrong)

/-- 'pinchcocklaw32.LossSays': WHATEVER THE INPUT: true; the input reads as it did. -/
def lossSaysSpec : ChangeSpec := { name := "lossSays", fn := fun _ => fun
  | [d1, d2, d3] => { results := [.lit (.bool true)], args := [d1, d2, d3] }
  | _ => none }
def lossSaysRow : OpenClaim := { program := "ytbglkokdnkcknaa", sum := "2cc3f6a2f54bacafdc9021a1d29ecd40783e65909e92c00c7d31a94a0623b7dd", func := "pinchcock/pinchcocklaw32.LossSays", spec := "lossSays", apart := false }
def LossSaysSaid : Prop := lossSaysRow.holds Try.pinned (OpenSpec.ofChange lossSaysSpec)

/-- ITS FALSE NEIGHBOUR: 'it returns false'. Refute it at one input. -/
def lossSaysWrong : ChangeSpec := { name := "lossSays", fn := fun _ => fun
  | [d1, d2, d3] => { results := [.lit (.bool false)], args := [d1, d2, d3] }
  | _ => none }
def LossSaysWrongFalsely : Prop := lossSaysRow.holds Try.pinned (OpenSpec.ofChange lossSaysWrong)

/-- 'pinchcocklaw32.LossExact': WHATEVER THE INPUT: true; the input reads as it did. -/
def lossExactSpec : ChangeSpec := { name := "lossExact", fn := fun _ => fun
  | [d1, d2] => { results := [.lit (.bool true)], args := [d1, d2] }
  | _ => none }
def lossExactRow : OpenClaim := { program := "ytbglkokdnkcknaa", sum := "2cc3f6a2f54bacafdc9021a1d29ecd40783e65909e92c00c7d31a94a0623b7dd", func := "pinchcock/pinchcocklaw32.LossExact", spec := "lossExact", apart := false }
def LossExactSaid : Prop := lossExactRow.holds Try.pinned (OpenSpec.ofChange lossExactSpec)

/-- ITS FALSE NEIGHBOUR: 'it returns false'. Refute it at one input. -/
def lossExactWrong : ChangeSpec := { name := "lossExact", fn := fun _ => fun
  | [d1, d2] => { results := [.lit (.bool false)], args := [d1, d2] }
  | _ => none }
def LossExactWrongFalsely : Prop := lossExactRow.holds Try.pinned (OpenSpec.ofChange lossExactWrong)

/-- 'pinchcocklaw33.PostureSays': WHATEVER THE INPUT: true; the input reads as it did. -/
def postureSaysSpec : ChangeSpec := { name := "postureSays", fn := fun _ => fun
  | [d1, d2, d3] => { results := [.lit (.bool true)], args := [d1, d2, d3] }
  | _ => none }
def postureSaysRow : OpenClaim := { program := "ytbglkokdnkcknaa", sum := "2cc3f6a2f54bacafdc9021a1d29ecd40783e65909e92c00c7d31a94a0623b7dd", func := "pinchcock/pinchcocklaw33.PostureSays", spec := "postureSays", apart := false }
def PostureSaysSaid : Prop := postureSaysRow.holds Try.pinned (OpenSpec.ofChange postureSaysSpec)

/-- ITS FALSE NEIGHBOUR: 'it returns false'. Refute it at one input. -/
def postureSaysWrong : ChangeSpec := { name := "postureSays", fn := fun _ => fun
  | [d1, d2, d3] => { results := [.lit (.bool false)], args := [d1, d2, d3] }
  | _ => none }
def PostureSaysWrongFalsely : Prop := postureSaysRow.holds Try.pinned (OpenSpec.ofChange postureSaysWrong)

/-- 'pinchcocklaw33.PostureLasts': WHATEVER THE INPUT: true; the input reads as it did. -/
def postureLastsSpec : ChangeSpec := { name := "postureLasts", fn := fun _ => fun
  | [d] => { results := [.lit (.bool true)], args := [d] }
  | _ => none }
def postureLastsRow : OpenClaim := { program := "ytbglkokdnkcknaa", sum := "2cc3f6a2f54bacafdc9021a1d29ecd40783e65909e92c00c7d31a94a0623b7dd", func := "pinchcock/pinchcocklaw33.PostureLasts", spec := "postureLasts", apart := false }
def PostureLastsSaid : Prop := postureLastsRow.holds Try.pinned (OpenSpec.ofChange postureLastsSpec)

/-- ITS FALSE NEIGHBOUR: 'it returns false'. Refute it at one input. -/
def postureLastsWrong : ChangeSpec := { name := "postureLasts", fn := fun _ => fun
  | [d] => { results := [.lit (.bool false)], args := [d] }
  | _ => none }
def PostureLastsWrongFalsely : Prop := postureLastsRow.holds Try.pinned (OpenSpec.ofChange postureLastsWrong)

/- THE SECOND FORM. 'bulk': how many values and letters a reading holds, each counted each time it is reached (what is shared counts as often as it is met; a slice's spare places count too). A statement '..UptoSaid' is the law's where the arguments, and the package variables that the reading takes, are together of bulk at most 1048576: NARROWER than '..Said'. Prove '..Said' where nothing that the law and all that it calls make is longer than what came in: it says more and counts as full. Else prove '..UptoSaid'. A law counts once. -/
mutual
def uptoBulk {H : Type} : DataW H → Nat
  | .lit (.string bytes) => bytes.length + 1
  | .lit _ => 1
  | .nil => 1
  | .ptr d => uptoBulk d + 1
  | .slice elems spare => uptoBulkAll elems + uptoBulkAll spare + 1
  | .agg parts => uptoBulkAll parts + 1
  | .iface _ d => uptoBulk d + 1
  | .map entries => uptoBulkEntries entries + 1
  | .held _ => 1
def uptoBulkAll {H : Type} : List (DataW H) → Nat
  | [] => 0
  | d :: r => uptoBulk d + uptoBulkAll r
def uptoBulkEntries {H : Type} : List (Lit × DataW H) → Nat
  | [] => 0
  | x :: r => uptoBulkEntry x + uptoBulkEntries r
def uptoBulkEntry {H : Type} : Lit × DataW H → Nat
  | (.string bytes, d) => bytes.length + uptoBulk d + 1
  | (_, d) => uptoBulk d + 1
 end
def uptoSmall : (H : Type) → List (DataW H) → Bool := fun _ ds => decide (uptoBulkAll ds ≤ 1048576)
def OpenSpec.upto (s : _root_.Go.ChangeSpec) : _root_.Go.OpenSpec := { _root_.Go.OpenSpec.ofChange s with cond := some uptoSmall }

/-- 'pinchcocklaw28.SlewSays', WHERE WHAT IT READS IS OF BULK AT MOST 1048576: true; the input reads as it did. -/
def slewSaysUptoRow : OpenClaim := { program := "ytbglkokdnkcknaa", sum := "2cc3f6a2f54bacafdc9021a1d29ecd40783e65909e92c00c7d31a94a0623b7dd", func := "pinchcock/pinchcocklaw28.SlewSays", spec := "slewSays", apart := false, narrowed := true }
def SlewSaysUptoSaid : Prop := slewSaysUptoRow.holds Try.pinned (OpenSpec.upto slewSaysSpec)

/-- 'pinchcocklaw28.SlewGets', WHERE WHAT IT READS IS OF BULK AT MOST 1048576: true; the input reads as it did. -/
def slewGetsUptoRow : OpenClaim := { program := "ytbglkokdnkcknaa", sum := "2cc3f6a2f54bacafdc9021a1d29ecd40783e65909e92c00c7d31a94a0623b7dd", func := "pinchcock/pinchcocklaw28.SlewGets", spec := "slewGets", apart := false, narrowed := true }
def SlewGetsUptoSaid : Prop := slewGetsUptoRow.holds Try.pinned (OpenSpec.upto slewGetsSpec)

/-- 'pinchcocklaw29.HeightSays', WHERE WHAT IT READS IS OF BULK AT MOST 1048576: true; the input reads as it did. -/
def heightSaysUptoRow : OpenClaim := { program := "ytbglkokdnkcknaa", sum := "2cc3f6a2f54bacafdc9021a1d29ecd40783e65909e92c00c7d31a94a0623b7dd", func := "pinchcock/pinchcocklaw29.HeightSays", spec := "heightSays", apart := false, narrowed := true }
def HeightSaysUptoSaid : Prop := heightSaysUptoRow.holds Try.pinned (OpenSpec.upto heightSaysSpec)

/-- 'pinchcocklaw29.HeightTurns', WHERE WHAT IT READS IS OF BULK AT MOST 1048576: true; the input reads as it did. -/
def heightTurnsUptoRow : OpenClaim := { program := "ytbglkokdnkcknaa", sum := "2cc3f6a2f54bacafdc9021a1d29ecd40783e65909e92c00c7d31a94a0623b7dd", func := "pinchcock/pinchcocklaw29.HeightTurns", spec := "heightTurns", apart := false, narrowed := true }
def HeightTurnsUptoSaid : Prop := heightTurnsUptoRow.holds Try.pinned (OpenSpec.upto heightTurnsSpec)

/-- 'pinchcocklaw29.HeightFinds', WHERE WHAT IT READS IS OF BULK AT MOST 1048576: true; the input reads as it did. -/
def heightFindsUptoRow : OpenClaim := { program := "ytbglkokdnkcknaa", sum := "2cc3f6a2f54bacafdc9021a1d29ecd40783e65909e92c00c7d31a94a0623b7dd", func := "pinchcock/pinchcocklaw29.HeightFinds", spec := "heightFinds", apart := false, narrowed := true }
def HeightFindsUptoSaid : Prop := heightFindsUptoRow.holds Try.pinned (OpenSpec.upto heightFindsSpec)

/-- 'pinchcocklaw31.DriftSays', WHERE WHAT IT READS IS OF BULK AT MOST 1048576: true; the input reads as it did. -/
def driftSaysUptoRow : OpenClaim := { program := "ytbglkokdnkcknaa", sum := "2cc3f6a2f54bacafdc9021a1d29ecd40783e65909e92c00c7d31a94a0623b7dd", func := "pinchcock/pinchcocklaw31.DriftSays", spec := "driftSays", apart := false, narrowed := true }
def DriftSaysUptoSaid : Prop := driftSaysUptoRow.holds Try.pinned (OpenSpec.upto driftSaysSpec)

/-- 'pinchcocklaw31.DriftFive', WHERE WHAT IT READS IS OF BULK AT MOST 1048576: true; the input reads as it did. -/
def driftFiveUptoRow : OpenClaim := { program := "ytbglkokdnkcknaa", sum := "2cc3f6a2f54bacafdc9021a1d29ecd40783e65909e92c00c7d31a94a0623b7dd", func := "pinchcock/pinchcocklaw31.DriftFive", spec := "driftFive", apart := false, narrowed := true }
def DriftFiveUptoSaid : Prop := driftFiveUptoRow.holds Try.pinned (OpenSpec.upto driftFiveSpec)

/-- 'pinchcocklaw32.LossSays', WHERE WHAT IT READS IS OF BULK AT MOST 1048576: true; the input reads as it did. -/
def lossSaysUptoRow : OpenClaim := { program := "ytbglkokdnkcknaa", sum := "2cc3f6a2f54bacafdc9021a1d29ecd40783e65909e92c00c7d31a94a0623b7dd", func := "pinchcock/pinchcocklaw32.LossSays", spec := "lossSays", apart := false, narrowed := true }
def LossSaysUptoSaid : Prop := lossSaysUptoRow.holds Try.pinned (OpenSpec.upto lossSaysSpec)

/-- 'pinchcocklaw32.LossExact', WHERE WHAT IT READS IS OF BULK AT MOST 1048576: true; the input reads as it did. -/
def lossExactUptoRow : OpenClaim := { program := "ytbglkokdnkcknaa", sum := "2cc3f6a2f54bacafdc9021a1d29ecd40783e65909e92c00c7d31a94a0623b7dd", func := "pinchcock/pinchcocklaw32.LossExact", spec := "lossExact", apart := false, narrowed := true }
def LossExactUptoSaid : Prop := lossExactUptoRow.holds Try.pinned (OpenSpec.upto lossExactSpec)

/-- 'pinchcocklaw33.PostureSays', WHERE WHAT IT READS IS OF BULK AT MOST 1048576: true; the input reads as it did. -/
def postureSaysUptoRow : OpenClaim := { program := "ytbglkokdnkcknaa", sum := "2cc3f6a2f54bacafdc9021a1d29ecd40783e65909e92c00c7d31a94a0623b7dd", func := "pinchcock/pinchcocklaw33.PostureSays", spec := "postureSays", apart := false, narrowed := true }
def PostureSaysUptoSaid : Prop := postureSaysUptoRow.holds Try.pinned (OpenSpec.upto postureSaysSpec)

/-- 'pinchcocklaw33.PostureLasts', WHERE WHAT IT READS IS OF BULK AT MOST 1048576: true; the input reads as it did. -/
def postureLastsUptoRow : OpenClaim := { program := "ytbglkokdnkcknaa", sum := "2cc3f6a2f54bacafdc9021a1d29ecd40783e65909e92c00c7d31a94a0623b7dd", func := "pinchcock/pinchcocklaw33.PostureLasts", spec := "postureLasts", apart := false, narrowed := true }
def PostureLastsUptoSaid : Prop := postureLastsUptoRow.holds Try.pinned (OpenSpec.upto postureLastsSpec)

end Rows
end Go.Proofs.Ytbglkokdnkcknaa
