/-
  No cell of these rows narrows 'for every input' (looked for: loops, veiled, ifaces, maps, wideKeys, modest, calm, conditions, laid).
  DERIVED. THE GIVEN ROWS OF THIS SEAT. 9 by the template 'for every input the law returns true; each argument reads behind the call as it read before'; 0 by the template 'total and deterministic' (their statements: YthfipnccjnekfaaTotals.lean).
  GIVEN WITH THE SEED: the statements are not yours to turn. If you find one false, say at which input.
  Laid BY PROGRAM, IN A SANDBOX (cutbox-rows.mjs): the forced cells as the released guide's own fill.sh prints them over the translation 1309523bd3c2263a… (all of the seat's roots in one cut). By AI agents, Wed Nov 11 2026. No macro, syntax, notation, axiom, sorry.
-/
import Derived.Test.YthfipnccjnekfaaChecked
import GoSem.Claim
import GoSem.ClaimJoined
import GoSem.ClaimMapViews
import Derived.JoinedTies
import Derived.KernelRfl
namespace Go.Proofs.Ythfipnccjnekfaa
/- THE CELL 'sum', in the pinned program and in every row, IS THE sha256 OF THE DUMP (.gsa) THAT YthfipnccjnekfaaProg.lean LOADS. Nothing in Lean hashes anything: it is a label: what it is worth is what the hold of that sum in a sandbox is worth. -/
noncomputable def Try.pinned : Pinned := { name := "ythfipnccjnekfaa", sum := "1309523bd3c2263a24289737e05bf0e35013e665bc42d3e19813ea242f0acb72", checked := Try.checked }
namespace Rows
def none {H : Type} : Left H := { results := [], args := [] }

/-- 'pinchcocklaw34.LatchSays': WHATEVER THE INPUT: true; the input reads as it did. -/
def latchSaysSpec : ChangeSpec := { name := "latchSays", fn := fun _ => fun
  | [d1, d2] => { results := [.lit (.bool true)], args := [d1, d2] }
  | _ => none }
def latchSaysRow : OpenClaim := { program := "ythfipnccjnekfaa", sum := "1309523bd3c2263a24289737e05bf0e35013e665bc42d3e19813ea242f0acb72", func := "pinchcock/pinchcocklaw34.LatchSays", spec := "latchSays", apart := false }
def LatchSaysSaid : Prop := latchSaysRow.holds Try.pinned (OpenSpec.ofChange latchSaysSpec)

/-- ITS FALSE NEIGHBOUR: 'it returns false'. Refute it at one input. -/
def latchSaysWrong : ChangeSpec := { name := "latchSays", fn := fun _ => fun
  | [d1, d2] => { results := [.lit (.bool false)], args := [d1, d2] }
  | _ => none }
def LatchSaysWrongFalsely : Prop := latchSaysRow.holds Try.pinned (OpenSpec.ofChange latchSaysWrong)

/-- 'pinchcocklaw34.LatchHolds': WHATEVER THE INPUT: true; the input reads as it did. -/
def latchHoldsSpec : ChangeSpec := { name := "latchHolds", fn := fun _ => fun
  | [d] => { results := [.lit (.bool true)], args := [d] }
  | _ => none }
def latchHoldsRow : OpenClaim := { program := "ythfipnccjnekfaa", sum := "1309523bd3c2263a24289737e05bf0e35013e665bc42d3e19813ea242f0acb72", func := "pinchcock/pinchcocklaw34.LatchHolds", spec := "latchHolds", apart := false }
def LatchHoldsSaid : Prop := latchHoldsRow.holds Try.pinned (OpenSpec.ofChange latchHoldsSpec)

/-- ITS FALSE NEIGHBOUR: 'it returns false'. Refute it at one input. -/
def latchHoldsWrong : ChangeSpec := { name := "latchHolds", fn := fun _ => fun
  | [d] => { results := [.lit (.bool false)], args := [d] }
  | _ => none }
def LatchHoldsWrongFalsely : Prop := latchHoldsRow.holds Try.pinned (OpenSpec.ofChange latchHoldsWrong)

/-- 'pinchcocklaw34.LatchRises': WHATEVER THE INPUT: true; the input reads as it did. -/
def latchRisesSpec : ChangeSpec := { name := "latchRises", fn := fun _ => fun
  | [d1, d2, d3] => { results := [.lit (.bool true)], args := [d1, d2, d3] }
  | _ => none }
def latchRisesRow : OpenClaim := { program := "ythfipnccjnekfaa", sum := "1309523bd3c2263a24289737e05bf0e35013e665bc42d3e19813ea242f0acb72", func := "pinchcock/pinchcocklaw34.LatchRises", spec := "latchRises", apart := false }
def LatchRisesSaid : Prop := latchRisesRow.holds Try.pinned (OpenSpec.ofChange latchRisesSpec)

/-- ITS FALSE NEIGHBOUR: 'it returns false'. Refute it at one input. -/
def latchRisesWrong : ChangeSpec := { name := "latchRises", fn := fun _ => fun
  | [d1, d2, d3] => { results := [.lit (.bool false)], args := [d1, d2, d3] }
  | _ => none }
def LatchRisesWrongFalsely : Prop := latchRisesRow.holds Try.pinned (OpenSpec.ofChange latchRisesWrong)

/-- 'pinchcocklaw36.ProgrammeSays': WHATEVER THE INPUT: true; the input reads as it did. -/
def programmeSaysSpec : ChangeSpec := { name := "programmeSays", fn := fun _ => fun
  | [d] => { results := [.lit (.bool true)], args := [d] }
  | _ => none }
def programmeSaysRow : OpenClaim := { program := "ythfipnccjnekfaa", sum := "1309523bd3c2263a24289737e05bf0e35013e665bc42d3e19813ea242f0acb72", func := "pinchcock/pinchcocklaw36.ProgrammeSays", spec := "programmeSays", inPlace := ["math/bits.Add64"], unfollowed := true, recurses := true, named := ["math/bits.divideError", "math/bits.overflowError"], apart := false }
def ProgrammeSaysSaid : Prop := programmeSaysRow.holds Try.pinned (OpenSpec.ofChange programmeSaysSpec)

/-- ITS FALSE NEIGHBOUR: 'it returns false'. Refute it at one input. -/
def programmeSaysWrong : ChangeSpec := { name := "programmeSays", fn := fun _ => fun
  | [d] => { results := [.lit (.bool false)], args := [d] }
  | _ => none }
def ProgrammeSaysWrongFalsely : Prop := programmeSaysRow.holds Try.pinned (OpenSpec.ofChange programmeSaysWrong)

/-- 'pinchcocklaw36.ProgrammeFits': WHATEVER THE INPUT: true; the input reads as it did. -/
def programmeFitsSpec : ChangeSpec := { name := "programmeFits", fn := fun _ => fun
  | [d] => { results := [.lit (.bool true)], args := [d] }
  | _ => none }
def programmeFitsRow : OpenClaim := { program := "ythfipnccjnekfaa", sum := "1309523bd3c2263a24289737e05bf0e35013e665bc42d3e19813ea242f0acb72", func := "pinchcock/pinchcocklaw36.ProgrammeFits", spec := "programmeFits", inPlace := ["math/bits.Add64"], unfollowed := true, recurses := true, named := ["math/bits.divideError", "math/bits.overflowError"], apart := false }
def ProgrammeFitsSaid : Prop := programmeFitsRow.holds Try.pinned (OpenSpec.ofChange programmeFitsSpec)

/-- ITS FALSE NEIGHBOUR: 'it returns false'. Refute it at one input. -/
def programmeFitsWrong : ChangeSpec := { name := "programmeFits", fn := fun _ => fun
  | [d] => { results := [.lit (.bool false)], args := [d] }
  | _ => none }
def ProgrammeFitsWrongFalsely : Prop := programmeFitsRow.holds Try.pinned (OpenSpec.ofChange programmeFitsWrong)

/-- 'pinchcocklaw36.ProgrammeNeeds': WHATEVER THE INPUT: true; the input reads as it did. -/
def programmeNeedsSpec : ChangeSpec := { name := "programmeNeeds", fn := fun _ => fun
  | [d] => { results := [.lit (.bool true)], args := [d] }
  | _ => none }
def programmeNeedsRow : OpenClaim := { program := "ythfipnccjnekfaa", sum := "1309523bd3c2263a24289737e05bf0e35013e665bc42d3e19813ea242f0acb72", func := "pinchcock/pinchcocklaw36.ProgrammeNeeds", spec := "programmeNeeds", inPlace := ["math/bits.Add64"], unfollowed := true, recurses := true, named := ["math/bits.divideError", "math/bits.overflowError"], apart := false }
def ProgrammeNeedsSaid : Prop := programmeNeedsRow.holds Try.pinned (OpenSpec.ofChange programmeNeedsSpec)

/-- ITS FALSE NEIGHBOUR: 'it returns false'. Refute it at one input. -/
def programmeNeedsWrong : ChangeSpec := { name := "programmeNeeds", fn := fun _ => fun
  | [d] => { results := [.lit (.bool false)], args := [d] }
  | _ => none }
def ProgrammeNeedsWrongFalsely : Prop := programmeNeedsRow.holds Try.pinned (OpenSpec.ofChange programmeNeedsWrong)

/-- 'pinchcocklaw41.AlarmSays': WHATEVER THE INPUT: true; the input reads as it did. -/
def alarmSaysSpec : ChangeSpec := { name := "alarmSays", fn := fun _ => fun
  | [d1, d2, d3] => { results := [.lit (.bool true)], args := [d1, d2, d3] }
  | _ => none }
def alarmSaysRow : OpenClaim := { program := "ythfipnccjnekfaa", sum := "1309523bd3c2263a24289737e05bf0e35013e665bc42d3e19813ea242f0acb72", func := "pinchcock/pinchcocklaw41.AlarmSays", spec := "alarmSays", apart := false }
def AlarmSaysSaid : Prop := alarmSaysRow.holds Try.pinned (OpenSpec.ofChange alarmSaysSpec)

/-- ITS FALSE NEIGHBOUR: 'it returns false'. Refute it at one input. -/
def alarmSaysWrong : ChangeSpec := { name := "alarmSays", fn := fun _ => fun
  | [d1, d2, d3] => { results := [.lit (.bool false)], args := [d1, d2, d3] }
  | _ => none }
def AlarmSaysWrongFalsely : Prop := alarmSaysRow.holds Try.pinned (OpenSpec.ofChange alarmSaysWrong)

/-- 'pinchcocklaw41.AlarmSilence': WHATEVER THE INPUT: true; the input reads as it did. -/
def alarmSilenceSpec : ChangeSpec := { name := "alarmSilence", fn := fun _ => fun
  | [d] => { results := [.lit (.bool true)], args := [d] }
  | _ => none }
def alarmSilenceRow : OpenClaim := { program := "ythfipnccjnekfaa", sum := "1309523bd3c2263a24289737e05bf0e35013e665bc42d3e19813ea242f0acb72", func := "pinchcock/pinchcocklaw41.AlarmSilence", spec := "alarmSilence", apart := false }
def AlarmSilenceSaid : Prop := alarmSilenceRow.holds Try.pinned (OpenSpec.ofChange alarmSilenceSpec)

/-- ITS FALSE NEIGHBOUR: 'it returns false'. Refute it at one input. -/
def alarmSilenceWrong : ChangeSpec := { name := "alarmSilence", fn := fun _ => fun
  | [d] => { results := [.lit (.bool false)], args := [d] }
  | _ => none }
def AlarmSilenceWrongFalsely : Prop := alarmSilenceRow.holds Try.pinned (OpenSpec.ofChange alarmSilenceWrong)

/-- 'pinchcocklaw41.AlarmLasts': WHATEVER THE INPUT: true; the input reads as it did. -/
def alarmLastsSpec : ChangeSpec := { name := "alarmLasts", fn := fun _ => fun
  | [d1, d2, d3] => { results := [.lit (.bool true)], args := [d1, d2, d3] }
  | _ => none }
def alarmLastsRow : OpenClaim := { program := "ythfipnccjnekfaa", sum := "1309523bd3c2263a24289737e05bf0e35013e665bc42d3e19813ea242f0acb72", func := "pinchcock/pinchcocklaw41.AlarmLasts", spec := "alarmLasts", apart := false }
def AlarmLastsSaid : Prop := alarmLastsRow.holds Try.pinned (OpenSpec.ofChange alarmLastsSpec)

/-- ITS FALSE NEIGHBOUR: 'it returns false'. Refute it at one input. -/
def alarmLastsWrong : ChangeSpec := { name := "alarmLasts", fn := fun _ => fun
  | [d1, d2, d3] => { results := [.lit (.bool false)], args := [d1, d2, d3] }
  | _ => none }
def AlarmLastsWrongFalsely : Prop := alarmLastsRow.holds Try.pinned (OpenSpec.ofChange alarmLastsWrong)

/- THE SECOND FORM. 'bulk': how many values and letters a reading holds, each counted each time it is reached (what is shared counts as often as it is met; a slice's spare places count too). A statement '..UptoSaid' is the law's where the arguments, and the package variables that the reading takes, are together of bulk at most 1048576: NARROWER than '..Said'. Prove '..Said' where nothing that the law and all that it calls make is longer than what came in: it says more and counts as full. Else prove '..UptoSaid'. A law counts once. -/
mutual
def uptoBulk {H : Type} : DataW H → Nat
  | .lit (.string bytes) => bytes.length + 1
  | .lit _ => 1
  | .nil => 1
  | .ptr d => uptoBulk d + 1
  | .slice elems spare => uptoBulkAll elems + uptoBulkAll spare + 1
  | .agg parts => uptoBulkAll parts + 1
  | .iface _ d => uptoBulk d + 1
  | .map entries => uptoBulkEntries entries + 1
  | .held _ => 1
def uptoBulkAll {H : Type} : List (DataW H) → Nat
  | [] => 0
  | d :: r => uptoBulk d + uptoBulkAll r
def uptoBulkEntries {H : Type} : List (Lit × DataW H) → Nat
  | [] => 0
  | x :: r => uptoBulkEntry x + uptoBulkEntries r
def uptoBulkEntry {H : Type} : Lit × DataW H → Nat
  | (.string bytes, d) => bytes.length + uptoBulk d + 1
  | (_, d) => uptoBulk d + 1
 end
def uptoSmall : (H : Type) → List (DataW H) → Bool := fun _ ds => decide (uptoBulkAll ds ≤ 1048576)
def OpenSpec.upto (s : _root_.Go.ChangeSpec) : _root_.Go.OpenSpec := { _root_.Go.OpenSpec.ofChange s with cond := some uptoSmall }

/-- 'pinchcocklaw34.LatchSays', WHERE WHAT IT READS IS OF BULK AT MOST 1048576: true; the input reads as it did. -/
def latchSaysUptoRow : OpenClaim := { program := "ythfipnccjnekfaa", sum := "1309523bd3c2263a24289737e05bf0e35013e665bc42d3e19813ea242f0acb72", func := "pinchcock/pinchcocklaw34.LatchSays", spec := "latchSays", apart := false, narrowed := true }
def LatchSaysUptoSaid : Prop := latchSaysUptoRow.holds Try.pinned (OpenSpec.upto latchSaysSpec)

/-- 'pinchcocklaw34.LatchHolds', WHERE WHAT IT READS IS OF BULK AT MOST 1048576: true; the input reads as it did. -/
def latchHoldsUptoRow : OpenClaim := { program := "ythfipnccjnekfaa", sum := "1309523bd3c2263a24289737e05bf0e35013e665bc42d3e19813ea242f0acb72", func := "pinchcock/pinchcocklaw34.LatchHolds", spec := "latchHolds", apart := false, narrowed := true }
def LatchHoldsUptoSaid : Prop := latchHoldsUptoRow.holds Try.pinned (OpenSpec.upto latchHoldsSpec)

/-- 'pinchcocklaw34.LatchRises', WHERE WHAT IT READS IS OF BULK AT MOST 1048576: true; the input reads as it did. -/
def latchRisesUptoRow : OpenClaim := { program := "ythfipnccjnekfaa", sum := "1309523bd3c2263a24289737e05bf0e35013e665bc42d3e19813ea242f0acb72", func := "pinchcock/pinchcocklaw34.LatchRises", spec := "latchRises", apart := false, narrowed := true }
def LatchRisesUptoSaid : Prop := latchRisesUptoRow.holds Try.pinned (OpenSpec.upto latchRisesSpec)

/-- 'pinchcocklaw36.ProgrammeSays', WHERE WHAT IT READS IS OF BULK AT MOST 1048576: true; the input reads as it did. -/
def programmeSaysUptoRow : OpenClaim := { program := "ythfipnccjnekfaa", sum := "1309523bd3c2263a24289737e05bf0e35013e665bc42d3e19813ea242f0acb72", func := "pinchcock/pinchcocklaw36.ProgrammeSays", spec := "programmeSays", inPlace := ["math/bits.Add64"], unfollowed := true, recurses := true, named := ["math/bits.divideError", "math/bits.overflowError"], apart := false, narrowed := true }
def ProgrammeSaysUptoSaid : Prop := programmeSaysUptoRow.holds Try.pinned (OpenSpec.upto programmeSaysSpec)

/-- 'pinchcocklaw36.ProgrammeFits', WHERE WHAT IT READS IS OF BULK AT MOST 1048576: true; the input reads as it did. -/
def programmeFitsUptoRow : OpenClaim := { program := "ythfipnccjnekfaa", sum := "1309523bd3c2263a24289737e05bf0e35013e665bc42d3e19813ea242f0acb72", func := "pinchcock/pinchcocklaw36.ProgrammeFits", spec := "programmeFits", inPlace := ["math/bits.Add64"], unfollowed := true, recurses := true, named := ["math/bits.divideError", "math/bits.overflowError"], apart := false, narrowed := true }
def ProgrammeFitsUptoSaid : Prop := programmeFitsUptoRow.holds Try.pinned (OpenSpec.upto programmeFitsSpec)

/-- 'pinchcocklaw36.ProgrammeNeeds', WHERE WHAT IT READS IS OF BULK AT MOST 1048576: true; the input reads as it did. -/
def programmeNeedsUptoRow : OpenClaim := { program := "ythfipnccjnekfaa", sum := "1309523bd3c2263a24289737e05bf0e35013e665bc42d3e19813ea242f0acb72", func := "pinchcock/pinchcocklaw36.ProgrammeNeeds", spec := "programmeNeeds", inPlace := ["math/bits.Add64"], unfollowed := true, recurses := true, named := ["math/bits.divideError", "math/bits.overflowError"], apart := false, narrowed := true }
def ProgrammeNeedsUptoSaid : Prop := programmeNeedsUptoRow.holds Try.pinned (OpenSpec.upto programmeNeedsSpec)

/-- 'pinchcocklaw41.AlarmSays', WHERE WHAT IT READS IS OF BULK AT MOST 1048576: true; the input reads as it did. -/
def alarmSaysUptoRow : OpenClaim := { program := "ythfipnccjnekfaa", sum := "1309523bd3c2263a24289737e05bf0e35013e665bc42d3e19813ea242f0acb72", func := "pinchcock/pinchcocklaw41.AlarmSays", spec := "alarmSays", apart := false, narrowed := true }
def AlarmSaysUptoSaid : Prop := alarmSaysUptoRow.holds Try.pinned (OpenSpec.upto alarmSaysSpec)

/-- 'pinchcocklaw41.AlarmSilence', WHERE WHAT IT READS IS OF BULK AT MOST 1048576: true; the input reads as it did. -/
def alarmSilenceUptoRow : OpenClaim := { program := "ythfipnccjnekfaa", sum := "1309523bd3c2263a24289737e05bf0e35013e665bc42d3e19813ea242f0acb72", func := "pinchcock/pinchcocklaw41.AlarmSilence", spec := "alarmSilence", apart := false, narrowed := true }
def AlarmSilenceUptoSaid : Prop := alarmSilenceUptoRow.holds Try.pinned (OpenSpec.upto alarmSilenceSpec)

/-- 'pinchcocklaw41.AlarmLasts', WHERE WHAT IT READS IS OF BULK AT MOST 1048576: true; the input reads as it did. -/
def alarmLastsUptoRow : OpenClaim := { program := "ythfipnccjnekfaa", sum := "1309523bd3c2263a24289737e05bf0e35013e665bc42d3e19813ea242f0acb72", func := "pinchcock/pinchcocklaw41.AlarmLasts", spec := "alarmLasts", apart := false, narrowed := true }
def AlarmLastsUptoSaid : Prop := alarmLastsUptoRow.holds Try.pinned (OpenSpec.upto alarmLastsSpec)

end Rows
end Go.Proofs.Ythfipnccjnekfaa
