/-
  No cell of these rows narrows 'for every input' (looked for: loops, veiled, ifaces, maps, wideKeys, modest, calm, conditions, laid).
  DERIVED. THE GIVEN ROWS OF THIS SEAT. 9 by the template 'for every input the law returns true; each argument reads behind the call as it read before'; 0 by the template 'total and deterministic' (their statements: YtkddledajffdbaaTotals.lean).
  GIVEN WITH THE SEED: the statements are not yours to turn. If you find one false, say at which input.
  Laid BY PROGRAM, IN A SANDBOX (cutbox-rows.mjs): the forced cells as the released guide's own fill.sh prints them over the translation fcd156b2e9e94aba… (all of the seat's roots in one cut). By AI agents, Wed Nov 11 2026. No macro, syntax, notation, axiom, sorry.
-/
import Derived.Test.YtkddledajffdbaaChecked
import GoSem.Claim
import GoSem.ClaimJoined
import GoSem.ClaimMapViews
import Derived.JoinedTies
import Derived.KernelRfl
namespace Go.Proofs.Ytkddledajffdbaa
/- THE CELL 'sum', in the pinned program and in every row, IS THE sha256 OF THE DUMP (.gsa) THAT YtkddledajffdbaaProg.lean LOADS. Nothing in Lean hashes anything: it is a label: what it is worth is what the hold of that sum in a sandbox is worth. -/
noncomputable def Try.pinned : Pinned := { name := "ytkddledajffdbaa", sum := "fcd156b2e9e94abad86b3d2bb69476489f701ac5e316f79fc2e8b3fa94e469e1", checked := Try.checked }
namespace Rows
def none {H : Type} : Left H := { results := [], args := [] }

/-- 'pinchcocklaw22.EyeSays': WHATEVER THE INPUT: true; the input reads as it did. -/
def eyeSaysSpec : ChangeSpec := { name := "eyeSays", fn := fun _ => fun
  | [d1, d2, d3] => { results := [.lit (.bool true)], args := [d1, d2, d3] }
  | _ => none }
def eyeSaysRow : OpenClaim := { program := "ytkddledajffdbaa", sum := "fcd156b2e9e94abad86b3d2bb69476489f701ac5e316f79fc2e8b3fa94e469e1", func := "pinchcock/pinchcocklaw22.EyeSays", spec := "eyeSays", apart := false }
def EyeSaysSaid : Prop := eyeSaysRow.holds Try.pinned (OpenSpec.ofChange eyeSaysSpec)

/-- ITS FALSE NEIGHBOUR: 'it returns false'. Refute it at one input. -/
def eyeSaysWrong : ChangeSpec := { name := "eyeSays", fn := fun _ => fun
  | [d1, d2, d3] => { results := [.lit (.bool false)], args := [d1, d2, d3] }
  | _ => none }
def EyeSaysWrongFalsely : Prop := eyeSaysRow.holds Try.pinned (OpenSpec.ofChange eyeSaysWrong)

/-- 'pinchcocklaw22.EyeDips': WHATEVER THE INPUT: true; the input reads as it did. -/
def eyeDipsSpec : ChangeSpec := { name := "eyeDips", fn := fun _ => fun
  | [d1, d2] => { results := [.lit (.bool true)], args := [d1, d2] }
  | _ => none }
def eyeDipsRow : OpenClaim := { program := "ytkddledajffdbaa", sum := "fcd156b2e9e94abad86b3d2bb69476489f701ac5e316f79fc2e8b3fa94e469e1", func := "pinchcock/pinchcocklaw22.EyeDips", spec := "eyeDips", apart := false }
def EyeDipsSaid : Prop := eyeDipsRow.holds Try.pinned (OpenSpec.ofChange eyeDipsSpec)

/-- ITS FALSE NEIGHBOUR: 'it returns false'. Refute it at one input. -/
def eyeDipsWrong : ChangeSpec := { name := "eyeDips", fn := fun _ => fun
  | [d1, d2] => { results := [.lit (.bool false)], args := [d1, d2] }
  | _ => none }
def EyeDipsWrongFalsely : Prop := eyeDipsRow.holds Try.pinned (OpenSpec.ofChange eyeDipsWrong)

/-- 'pinchcocklaw22.EyeSlow': WHATEVER THE INPUT: true; the input reads as it did. -/
def eyeSlowSpec : ChangeSpec := { name := "eyeSlow", fn := fun _ => fun
  | [d1, d2] => { results := [.lit (.bool true)], args := [d1, d2] }
  | _ => none }
def eyeSlowRow : OpenClaim := { program := "ytkddledajffdbaa", sum := "fcd156b2e9e94abad86b3d2bb69476489f701ac5e316f79fc2e8b3fa94e469e1", func := "pinchcock/pinchcocklaw22.EyeSlow", spec := "eyeSlow", apart := false }
def EyeSlowSaid : Prop := eyeSlowRow.holds Try.pinned (OpenSpec.ofChange eyeSlowSpec)

/-- ITS FALSE NEIGHBOUR: 'it returns false'. Refute it at one input. -/
def eyeSlowWrong : ChangeSpec := { name := "eyeSlow", fn := fun _ => fun
  | [d1, d2] => { results := [.lit (.bool false)], args := [d1, d2] }
  | _ => none }
def EyeSlowWrongFalsely : Prop := eyeSlowRow.holds Try.pinned (OpenSpec.ofChange eyeSlowWrong)

/-- 'pinchcocklaw22.EyeApart': WHATEVER THE INPUT: true; the input reads as it did. -/
def eyeApartSpec : ChangeSpec := { name := "eyeApart", fn := fun _ => fun
  | [d] => { results := [.lit (.bool true)], args := [d] }
  | _ => none }
def eyeApartRow : OpenClaim := { program := "ytkddledajffdbaa", sum := "fcd156b2e9e94abad86b3d2bb69476489f701ac5e316f79fc2e8b3fa94e469e1", func := "pinchcock/pinchcocklaw22.EyeApart", spec := "eyeApart", apart := false }
def EyeApartSaid : Prop := eyeApartRow.holds Try.pinned (OpenSpec.ofChange eyeApartSpec)

/-- ITS FALSE NEIGHBOUR: 'it returns false'. Refute it at one input. -/
def eyeApartWrong : ChangeSpec := { name := "eyeApart", fn := fun _ => fun
  | [d] => { results := [.lit (.bool false)], args := [d] }
  | _ => none }
def EyeApartWrongFalsely : Prop := eyeApartRow.holds Try.pinned (OpenSpec.ofChange eyeApartWrong)

/-- 'pinchcocklaw23.SpecSays': WHATEVER THE INPUT: true; the input reads as it did. -/
def specSaysSpec : ChangeSpec := { name := "specSays", fn := fun _ => fun
  | [d1, d2, d3] => { results := [.lit (.bool true)], args := [d1, d2, d3] }
  | _ => none }
def specSaysRow : OpenClaim := { program := "ytkddledajffdbaa", sum := "fcd156b2e9e94abad86b3d2bb69476489f701ac5e316f79fc2e8b3fa94e469e1", func := "pinchcock/pinchcocklaw23.SpecSays", spec := "specSays", apart := false }
def SpecSaysSaid : Prop := specSaysRow.holds Try.pinned (OpenSpec.ofChange specSaysSpec)

/-- ITS FALSE NEIGHBOUR: 'it returns false'. Refute it at one input. -/
def specSaysWrong : ChangeSpec := { name := "specSays", fn := fun _ => fun
  | [d1, d2, d3] => { results := [.lit (.bool false)], args := [d1, d2, d3] }
  | _ => none }
def SpecSaysWrongFalsely : Prop := specSaysRow.holds Try.pinned (OpenSpec.ofChange specSaysWrong)

/-- 'pinchcocklaw23.SpecEye': WHATEVER THE INPUT: true; the input reads as it did. -/
def specEyeSpec : ChangeSpec := { name := "specEye", fn := fun _ => fun
  | [d] => { results := [.lit (.bool true)], args := [d] }
  | _ => none }
def specEyeRow : OpenClaim := { program := "ytkddledajffdbaa", sum := "fcd156b2e9e94abad86b3d2bb69476489f701ac5e316f79fc2e8b3fa94e469e1", func := "pinchcock/pinchcocklaw23.SpecEye", spec := "specEye", apart := false }
def SpecEyeSaid : Prop := specEyeRow.holds Try.pinned (OpenSpec.ofChange specEyeSpec)

/-- ITS FALSE NEIGHBOUR: 'it returns false'. Refute it at one input. -/
def specEyeWrong : ChangeSpec := { name := "specEye", fn := fun _ => fun
  | [d] => { results := [.lit (.bool false)], args := [d] }
  | _ => none }
def SpecEyeWrongFalsely : Prop := specEyeRow.holds Try.pinned (OpenSpec.ofChange specEyeWrong)

/-- 'pinchcocklaw23.SpecGoes': WHATEVER THE INPUT: true; the input reads as it did. -/
def specGoesSpec : ChangeSpec := { name := "specGoes", fn := fun _ => fun
  | [d1, d2, d3] => { results := [.lit (.bool true)], args := [d1, d2, d3] }
  | _ => none }
def specGoesRow : OpenClaim := { program := "ytkddledajffdbaa", sum := "fcd156b2e9e94abad86b3d2bb69476489f701ac5e316f79fc2e8b3fa94e469e1", func := "pinchcock/pinchcocklaw23.SpecGoes", spec := "specGoes", apart := false }
def SpecGoesSaid : Prop := specGoesRow.holds Try.pinned (OpenSpec.ofChange specGoesSpec)

/-- ITS FALSE NEIGHBOUR: 'it returns false'. Refute it at one input. -/
def specGoesWrong : ChangeSpec := { name := "specGoes", fn := fun _ => fun
  | [d1, d2, d3] => { results := [.lit (.bool false)], args := [d1, d2, d3] }
  | _ => none }
def SpecGoesWrongFalsely : Prop := specGoesRow.holds Try.pinned (OpenSpec.ofChange specGoesWrong)

/-- 'pinchcocklaw23.SpecShifts': WHATEVER THE INPUT: true; the input reads as it did. -/
def specShiftsSpec : ChangeSpec := { name := "specShifts", fn := fun _ => fun
  | [d1, d2] => { results := [.lit (.bool true)], args := [d1, d2] }
  | _ => none }
def specShiftsRow : OpenClaim := { program := "ytkddledajffdbaa", sum := "fcd156b2e9e94abad86b3d2bb69476489f701ac5e316f79fc2e8b3fa94e469e1", func := "pinchcock/pinchcocklaw23.SpecShifts", spec := "specShifts", apart := false }
def SpecShiftsSaid : Prop := specShiftsRow.holds Try.pinned (OpenSpec.ofChange specShiftsSpec)

/-- ITS FALSE NEIGHBOUR: 'it returns false'. Refute it at one input. -/
def specShiftsWrong : ChangeSpec := { name := "specShifts", fn := fun _ => fun
  | [d1, d2] => { results := [.lit (.bool false)], args := [d1, d2] }
  | _ => none }
def SpecShiftsWrongFalsely : Prop := specShiftsRow.holds Try.pinned (OpenSpec.ofChange specShiftsWrong)

/-- 'pinchcocklaw48.PlantSeen': WHATEVER THE INPUT: true; the input reads as it did. -/
def plantSeenSpec : ChangeSpec := { name := "plantSeen", fn := fun _ => fun
  | [d1, d2, d3] => { results := [.lit (.bool true)], args := [d1, d2, d3] }
  | _ => none }
def plantSeenRow : OpenClaim := { program := "ytkddledajffdbaa", sum := "fcd156b2e9e94abad86b3d2bb69476489f701ac5e316f79fc2e8b3fa94e469e1", func := "pinchcock/pinchcocklaw48.PlantSeen", spec := "plantSeen", apart := false }
def PlantSeenSaid : Prop := plantSeenRow.holds Try.pinned (OpenSpec.ofChange plantSeenSpec)

/-- ITS FALSE NEIGHBOUR: 'it returns false'. Refute it at one input. -/
def plantSeenWrong : ChangeSpec := { name := "plantSeen", fn := fun _ => fun
  | [d1, d2, d3] => { results := [.lit (.bool false)], args := [d1, d2, d3] }
  | _ => none }
def PlantSeenWrongFalsely : Prop := plantSeenRow.holds Try.pinned (OpenSpec.ofChange plantSeenWrong)

/- THE SECOND FORM. 'bulk': how many values and letters a reading holds, each counted each time it is reached (what is shared counts as often as it is met; a slice's spare places count too). A statement '..UptoSaid' is the law's where the arguments, and the package variables that the reading takes, are together of bulk at most 1048576: NARROWER than '..Said'. Prove '..Said' where nothing that the law and all that it calls make is longer than what came in: it says more and counts as full. Else prove '..UptoSaid'. A law counts once. -/
mutual
def uptoBulk {H : Type} : DataW H → Nat
  | .lit (.string bytes) => bytes.length + 1
  | .lit _ => 1
  | .nil => 1
  | .ptr d => uptoBulk d + 1
  | .slice elems spare => uptoBulkAll elems + uptoBulkAll spare + 1
  | .agg parts => uptoBulkAll parts + 1
  | .iface _ d => uptoBulk d + 1
  | .map entries => uptoBulkEntries entries + 1
  | .held _ => 1
def uptoBulkAll {H : Type} : List (DataW H) → Nat
  | [] => 0
  | d :: r => uptoBulk d + uptoBulkAll r
def uptoBulkEntries {H : Type} : List (Lit × DataW H) → Nat
  | [] => 0
  | x :: r => uptoBulkEntry x + uptoBulkEntries r
def uptoBulkEntry {H : Type} : Lit × DataW H → Nat
  | (.string bytes, d) => bytes.length + uptoBulk d + 1
  | (_, d) => uptoBulk d + 1
 end
def uptoSmall : (H : Type) → List (DataW H) → Bool := fun _ ds => decide (uptoBulkAll ds ≤ 1048576)
def OpenSpec.upto (s : _root_.Go.ChangeSpec) : _root_.Go.OpenSpec := { _root_.Go.OpenSpec.ofChange s with cond := some uptoSmall }

/-- 'pinchcocklaw22.EyeSays', WHERE WHAT IT READS IS OF BULK AT MOST 1048576: true; the input reads as it did. -/
def eyeSaysUptoRow : OpenClaim := { program := "ytkddledajffdbaa", sum := "fcd156b2e9e94abad86b3d2bb69476489f701ac5e316f79fc2e8b3fa94e469e1", func := "pinchcock/pinchcocklaw22.EyeSays", spec := "eyeSays", apart := false, narrowed := true }
def EyeSaysUptoSaid : Prop := eyeSaysUptoRow.holds Try.pinned (OpenSpec.upto eyeSaysSpec)

/-- 'pinchcocklaw22.EyeDips', WHERE WHAT IT READS IS OF BULK AT MOST 1048576: true; the input reads as it did. -/
def eyeDipsUptoRow : OpenClaim := { program := "ytkddledajffdbaa", sum := "fcd156b2e9e94abad86b3d2bb69476489f701ac5e316f79fc2e8b3fa94e469e1", func := "pinchcock/pinchcocklaw22.EyeDips", spec := "eyeDips", apart := false, narrowed := true }
def EyeDipsUptoSaid : Prop := eyeDipsUptoRow.holds Try.pinned (OpenSpec.upto eyeDipsSpec)

/-- 'pinchcocklaw22.EyeSlow', WHERE WHAT IT READS IS OF BULK AT MOST 1048576: true; the input reads as it did. -/
def eyeSlowUptoRow : OpenClaim := { program := "ytkddledajffdbaa", sum := "fcd156b2e9e94abad86b3d2bb69476489f701ac5e316f79fc2e8b3fa94e469e1", func := "pinchcock/pinchcocklaw22.EyeSlow", spec := "eyeSlow", apart := false, narrowed := true }
def EyeSlowUptoSaid : Prop := eyeSlowUptoRow.holds Try.pinned (OpenSpec.upto eyeSlowSpec)

/-- 'pinchcocklaw22.EyeApart', WHERE WHAT IT READS IS OF BULK AT MOST 1048576: true; the input reads as it did. -/
def eyeApartUptoRow : OpenClaim := { program := "ytkddledajffdbaa", sum := "fcd156b2e9e94abad86b3d2bb69476489f701ac5e316f79fc2e8b3fa94e469e1", func := "pinchcock/pinchcocklaw22.EyeApart", spec := "eyeApart", apart := false, narrowed := true }
def EyeApartUptoSaid : Prop := eyeApartUptoRow.holds Try.pinned (OpenSpec.upto eyeApartSpec)

/-- 'pinchcocklaw23.SpecSays', WHERE WHAT IT READS IS OF BULK AT MOST 1048576: true; the input reads as it did. -/
def specSaysUptoRow : OpenClaim := { program := "ytkddledajffdbaa", sum := "fcd156b2e9e94abad86b3d2bb69476489f701ac5e316f79fc2e8b3fa94e469e1", func := "pinchcock/pinchcocklaw23.SpecSays", spec := "specSays", apart := false, narrowed := true }
def SpecSaysUptoSaid : Prop := specSaysUptoRow.holds Try.pinned (OpenSpec.upto specSaysSpec)

/-- 'pinchcocklaw23.SpecEye', WHERE WHAT IT READS IS OF BULK AT MOST 1048576: true; the input reads as it did. -/
def specEyeUptoRow : OpenClaim := { program := "ytkddledajffdbaa", sum := "fcd156b2e9e94abad86b3d2bb69476489f701ac5e316f79fc2e8b3fa94e469e1", func := "pinchcock/pinchcocklaw23.SpecEye", spec := "specEye", apart := false, narrowed := true }
def SpecEyeUptoSaid : Prop := specEyeUptoRow.holds Try.pinned (OpenSpec.upto specEyeSpec)

/-- 'pinchcocklaw23.SpecGoes', WHERE WHAT IT READS IS OF BULK AT MOST 1048576: true; the input reads as it did. -/
def specGoesUptoRow : OpenClaim := { program := "ytkddledajffdbaa", sum := "fcd156b2e9e94abad86b3d2bb69476489f701ac5e316f79fc2e8b3fa94e469e1", func := "pinchcock/pinchcocklaw23.SpecGoes", spec := "specGoes", apart := false, narrowed := true }
def SpecGoesUptoSaid : Prop := specGoesUptoRow.holds Try.pinned (OpenSpec.upto specGoesSpec)

/-- 'pinchcocklaw23.SpecShifts', WHERE WHAT IT READS IS OF BULK AT MOST 1048576: true; the input reads as it did. -/
def specShiftsUptoRow : OpenClaim := { program := "ytkddledajffdbaa", sum := "fcd156b2e9e94abad86b3d2bb69476489f701ac5e316f79fc2e8b3fa94e469e1", func := "pinchcock/pinchcocklaw23.SpecShifts", spec := "specShifts", apart := false, narrowed := true }
def SpecShiftsUptoSaid : Prop := specShiftsUptoRow.holds Try.pinned (OpenSpec.upto specShiftsSpec)

/-- 'pinchcocklaw48.PlantSeen', WHERE WHAT IT READS IS OF BULK AT MOST 1048576: true; the input reads as it did. -/
def plantSeenUptoRow : OpenClaim := { program := "ytkddledajffdbaa", sum := "fcd156b2e9e94abad86b3d2bb69476489f701ac5e316f79fc2e8b3fa94e469e1", func := "pinchcock/pinchcocklaw48.PlantSeen", spec := "plantSeen", apart := false, narrowed := true }
def PlantSeenUptoSaid : Prop := plantSeenUptoRow.holds Try.pinned (OpenSpec.upto plantSeenSpec)

end Rows
end Go.Proofs.Ytkddledajffdbaa
