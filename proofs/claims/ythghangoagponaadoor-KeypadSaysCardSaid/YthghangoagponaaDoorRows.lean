/-
  NARROWER THAN 'FOR EVERY INPUT', by the rows' own cells (each row's printed sentence says how): ModeSays: laid · ModeSafe: laid · ModeWalk: laid · DiarySays: laid · DiaryKeeps: laid · KeypadSays: laid · KeypadConfirms: laid · KeypadTurns: laid.
  DERIVED. THE GIVEN ROWS OF THIS SEAT. 8 by the template 'for every input the law returns true; each argument reads behind the call as it read before'; 0 by the template 'total and deterministic' (their statements: YthghangoagponaaDoorTotals.lean).
  GIVEN WITH THE SEED: the statements are not yours to turn. If you find one false, say at which input.
  Laid BY PROGRAM, IN A SANDBOX (cutbox-rows.mjs): the forced cells as the released guide's own fill.sh prints them over the translation 7ad621722426ccac… (all of the seat's roots in one cut). By AI agents, Wed Nov 11 2026. No macro, syntax, notation, axiom, sorry.
-/
import Derived.Test.YthghangoagponaaDoorChecked
import GoSem.Claim
import GoSem.ClaimJoined
import GoSem.ClaimMapViews
import Derived.JoinedTies
import Derived.KernelRfl
namespace Go.Proofs.YthghangoagponaaDoor
/- THE CELL 'sum', in the pinned program and in every row, IS THE sha256 OF THE DUMP (.gsa) THAT YthghangoagponaaDoorProg.lean LOADS. Nothing in Lean hashes anything: it is a label: what it is worth is what the hold of that sum in a sandbox is worth. -/
noncomputable def Tryd.pinned : Pinned := { name := "ythghangoagponaadoor", sum := "7ad621722426ccac6b62c43202f8f623cf980550ee42127fdd52f2cacca3adc8", checked := Tryd.checked }
namespace Rows
def none {H : Type} : Left H := { results := [], args := [] }

/- WHAT THE LISTED PACKAGE-LEVEL VARIABLES READ AS WHEN THE CALL BEGINS. Each datum BY PROGRAM (the guide's laid-datum.mjs) off the statement by which the dump's own 'gosem.cut.vars' lays the variable. In a bare row this is a premise. The card (YthghangoagponaaDoorCards.lean) ties it to the program's text. -/
def laid_pinchcock_mode_names {H : Type} : DataW H := .agg [.lit (.string [73, 68, 76, 69]), .lit (.string [80, 82, 73, 77, 73, 78, 71]), .lit (.string [82, 85, 78, 78, 73, 78, 71]), .lit (.string [80, 65, 85, 83, 69, 68]), .lit (.string [75, 86, 79]), .lit (.string [68, 79, 78, 69]), .lit (.string [70, 65, 85, 76, 84])]
def laid_math_bits_deBruijn32tab {H : Type} : DataW H := .agg [.lit (.int .u8 0), .lit (.int .u8 1), .lit (.int .u8 28), .lit (.int .u8 2), .lit (.int .u8 29), .lit (.int .u8 14), .lit (.int .u8 24), .lit (.int .u8 3), .lit (.int .u8 30), .lit (.int .u8 22), .lit (.int .u8 20), .lit (.int .u8 15), .lit (.int .u8 25), .lit (.int .u8 17), .lit (.int .u8 4), .lit (.int .u8 8), .lit (.int .u8 31), .lit (.int .u8 27), .lit (.int .u8 13), .lit (.int .u8 23), .lit (.int .u8 21), .lit (.int .u8 19), .lit (.int .u8 16), .lit (.int .u8 7), .lit (.int .u8 26), .lit (.int .u8 12), .lit (.int .u8 18), .lit (.int .u8 6), .lit (.int .u8 11), .lit (.int .u8 5), .lit (.int .u8 10), .lit (.int .u8 9)]
def laid_math_bits_deBruijn64tab {H : Type} : DataW H := .agg [.lit (.int .u8 0), .lit (.int .u8 1), .lit (.int .u8 56), .lit (.int .u8 2), .lit (.int .u8 57), .lit (.int .u8 49), .lit (.int .u8 28), .lit (.int .u8 3), .lit (.int .u8 61), .lit (.int .u8 58), .lit (.int .u8 42), .lit (.int .u8 50), .lit (.int .u8 38), .lit (.int .u8 29), .lit (.int .u8 17), .lit (.int .u8 4), .lit (.int .u8 62), .lit (.int .u8 47), .lit (.int .u8 59), .lit (.int .u8 36), .lit (.int .u8 45), .lit (.int .u8 43), .lit (.int .u8 51), .lit (.int .u8 22), .lit (.int .u8 53), .lit (.int .u8 39), .lit (.int .u8 33), .lit (.int .u8 30), .lit (.int .u8 24), .lit (.int .u8 18), .lit (.int .u8 12), .lit (.int .u8 5), .lit (.int .u8 63), .lit (.int .u8 55), .lit (.int .u8 48), .lit (.int .u8 27), .lit (.int .u8 60), .lit (.int .u8 41), .lit (.int .u8 37), .lit (.int .u8 16), .lit (.int .u8 46), .lit (.int .u8 35), .lit (.int .u8 44), .lit (.int .u8 21), .lit (.int .u8 52), .lit (.int .u8 32), .lit (.int .u8 23), .lit (.int .u8 11), .lit (.int .u8 54), .lit (.int .u8 26), .lit (.int .u8 40), .lit (.int .u8 15), .lit (.int .u8 34), .lit (.int .u8 20), .lit (.int .u8 31), .lit (.int .u8 10), .lit (.int .u8 25), .lit (.int .u8 14), .lit (.int .u8 19), .lit (.int .u8 9), .lit (.int .u8 13), .lit (.int .u8 8), .lit (.int .u8 7), .lit (.int .u8 6)]
def laid_internal_strconv_uint64pow10 {H : Type} : DataW H := .agg [.lit (.int .u64 1), .lit (.int .u64 10), .lit (.int .u64 100), .lit (.int .u64 1000), .lit (.int .u64 10000), .lit (.int .u64 100000), .lit (.int .u64 1000000), .lit (.int .u64 10000000), .lit (.int .u64 100000000), .lit (.int .u64 1000000000), .lit (.int .u64 10000000000), .lit (.int .u64 100000000000), .lit (.int .u64 1000000000000), .lit (.int .u64 10000000000000), .lit (.int .u64 100000000000000), .lit (.int .u64 1000000000000000), .lit (.int .u64 10000000000000000), .lit (.int .u64 100000000000000000), .lit (.int .u64 1000000000000000000), .lit (.int .u64 10000000000000000000)]
def laid_pinchcock_diary_words {H : Type} : DataW H := .agg [.lit (.string [109, 111, 100, 101]), .lit (.string [108, 97, 116, 99, 104]), .lit (.string [97, 99, 107]), .lit (.string [112, 114, 111, 103, 114, 97, 109, 109, 101]), .lit (.string [100, 114, 111, 112]), .lit (.string [98, 111, 111, 116]), .lit (.string [119, 114, 105, 116, 101])]
def laid_pinchcock_keypad_sets {H : Type} : DataW H := .agg [.lit (.int .i64 10), .lit (.int .i64 15), .lit (.int .i64 20), .lit (.int .i64 60)]

/-- 'pinchcocklaw37.ModeSays': WHATEVER THE INPUT: true; the input reads as it did. -/
def modeSaysSpec : ChangeSpec := { name := "modeSays", fn := fun _ => fun
  | [d1, d2, d3] => { results := [.lit (.bool true)], args := [d1, d2, d3] }
  | _ => none }
def modeSaysRow : OpenClaim := { program := "ythghangoagponaadoor", sum := "7ad621722426ccac6b62c43202f8f623cf980550ee42127fdd52f2cacca3adc8", func := "pinchcock/pinchcocklaw37.ModeSays", spec := "modeSays", named := ["pinchcock/mode.names"], apart := false, laid := [("pinchcock/mode.names", laid_pinchcock_mode_names)] }
def ModeSaysSaid : Prop := modeSaysRow.holds Tryd.pinned (OpenSpec.ofChange modeSaysSpec)

/-- ITS FALSE NEIGHBOUR: 'it returns false'. Refute it at one input. -/
def modeSaysWrong : ChangeSpec := { name := "modeSays", fn := fun _ => fun
  | [d1, d2, d3] => { results := [.lit (.bool false)], args := [d1, d2, d3] }
  | _ => none }
def ModeSaysWrongFalsely : Prop := modeSaysRow.holds Tryd.pinned (OpenSpec.ofChange modeSaysWrong)

/-- 'pinchcocklaw37.ModeSafe': WHATEVER THE INPUT: true; the input reads as it did. -/
def modeSafeSpec : ChangeSpec := { name := "modeSafe", fn := fun _ => fun
  | [d1, d2, d3] => { results := [.lit (.bool true)], args := [d1, d2, d3] }
  | _ => none }
def modeSafeRow : OpenClaim := { program := "ythghangoagponaadoor", sum := "7ad621722426ccac6b62c43202f8f623cf980550ee42127fdd52f2cacca3adc8", func := "pinchcock/pinchcocklaw37.ModeSafe", spec := "modeSafe", named := ["pinchcock/mode.names"], apart := false, laid := [("pinchcock/mode.names", laid_pinchcock_mode_names)] }
def ModeSafeSaid : Prop := modeSafeRow.holds Tryd.pinned (OpenSpec.ofChange modeSafeSpec)

/-- ITS FALSE NEIGHBOUR: 'it returns false'. Refute it at one input. -/
def modeSafeWrong : ChangeSpec := { name := "modeSafe", fn := fun _ => fun
  | [d1, d2, d3] => { results := [.lit (.bool false)], args := [d1, d2, d3] }
  | _ => none }
def ModeSafeWrongFalsely : Prop := modeSafeRow.holds Tryd.pinned (OpenSpec.ofChange modeSafeWrong)

/-- 'pinchcocklaw37.ModeWalk': WHATEVER THE INPUT: true; the input reads as it did. -/
def modeWalkSpec : ChangeSpec := { name := "modeWalk", fn := fun _ => fun
  | [d] => { results := [.lit (.bool true)], args := [d] }
  | _ => none }
def modeWalkRow : OpenClaim := { program := "ythghangoagponaadoor", sum := "7ad621722426ccac6b62c43202f8f623cf980550ee42127fdd52f2cacca3adc8", func := "pinchcock/pinchcocklaw37.ModeWalk", spec := "modeWalk", named := ["pinchcock/mode.names"], apart := false, laid := [("pinchcock/mode.names", laid_pinchcock_mode_names)] }
def ModeWalkSaid : Prop := modeWalkRow.holds Tryd.pinned (OpenSpec.ofChange modeWalkSpec)

/-- ITS FALSE NEIGHBOUR: 'it returns false'. Refute it at one input. -/
def modeWalkWrong : ChangeSpec := { name := "modeWalk", fn := fun _ => fun
  | [d] => { results := [.lit (.bool false)], args := [d] }
  | _ => none }
def ModeWalkWrongFalsely : Prop := modeWalkRow.holds Tryd.pinned (OpenSpec.ofChange modeWalkWrong)

/-- 'pinchcocklaw44.DiarySays': WHATEVER THE INPUT: true; the input reads as it did. -/
def diarySaysSpec : ChangeSpec := { name := "diarySays", fn := fun _ => fun
  | [d1, d2, d3] => { results := [.lit (.bool true)], args := [d1, d2, d3] }
  | _ => none }
def diarySaysRow : OpenClaim := { program := "ythghangoagponaadoor", sum := "7ad621722426ccac6b62c43202f8f623cf980550ee42127fdd52f2cacca3adc8", func := "pinchcock/pinchcocklaw44.DiarySays", spec := "diarySays", named := ["internal/strconv.uint64pow10", "math/bits.deBruijn32tab", "math/bits.deBruijn64tab", "pinchcock/diary.words"], apart := false, laid := [("math/bits.deBruijn32tab", laid_math_bits_deBruijn32tab), ("math/bits.deBruijn64tab", laid_math_bits_deBruijn64tab), ("internal/strconv.uint64pow10", laid_internal_strconv_uint64pow10), ("pinchcock/diary.words", laid_pinchcock_diary_words)] }
def DiarySaysSaid : Prop := diarySaysRow.holds Tryd.pinned (OpenSpec.ofChange diarySaysSpec)

/-- ITS FALSE NEIGHBOUR: 'it returns false'. Refute it at one input. -/
def diarySaysWrong : ChangeSpec := { name := "diarySays", fn := fun _ => fun
  | [d1, d2, d3] => { results := [.lit (.bool false)], args := [d1, d2, d3] }
  | _ => none }
def DiarySaysWrongFalsely : Prop := diarySaysRow.holds Tryd.pinned (OpenSpec.ofChange diarySaysWrong)

/-- 'pinchcocklaw44.DiaryKeeps': WHATEVER THE INPUT: true; the input reads as it did. -/
def diaryKeepsSpec : ChangeSpec := { name := "diaryKeeps", fn := fun _ => fun
  | [d1, d2] => { results := [.lit (.bool true)], args := [d1, d2] }
  | _ => none }
def diaryKeepsRow : OpenClaim := { program := "ythghangoagponaadoor", sum := "7ad621722426ccac6b62c43202f8f623cf980550ee42127fdd52f2cacca3adc8", func := "pinchcock/pinchcocklaw44.DiaryKeeps", spec := "diaryKeeps", named := ["internal/strconv.uint64pow10", "math/bits.deBruijn32tab", "math/bits.deBruijn64tab", "pinchcock/diary.words"], apart := false, laid := [("math/bits.deBruijn32tab", laid_math_bits_deBruijn32tab), ("math/bits.deBruijn64tab", laid_math_bits_deBruijn64tab), ("internal/strconv.uint64pow10", laid_internal_strconv_uint64pow10), ("pinchcock/diary.words", laid_pinchcock_diary_words)] }
def DiaryKeepsSaid : Prop := diaryKeepsRow.holds Tryd.pinned (OpenSpec.ofChange diaryKeepsSpec)

/-- ITS FALSE NEIGHBOUR: 'it returns false'. Refute it at one input. -/
def diaryKeepsWrong : ChangeSpec := { name := "diaryKeeps", fn := fun _ => fun
  | [d1, d2] => { results := [.lit (.bool false)], args := [d1, d2] }
  | _ => none }
def DiaryKeepsWrongFalsely : Prop := diaryKeepsRow.holds Tryd.pinned (OpenSpec.ofChange diaryKeepsWrong)

/-- 'pinchcocklaw42.KeypadSays': WHATEVER THE INPUT: true; the input reads as it did. -/
def keypadSaysSpec : ChangeSpec := { name := "keypadSays", fn := fun _ => fun
  | [d1, d2, d3] => { results := [.lit (.bool true)], args := [d1, d2, d3] }
  | _ => none }
def keypadSaysRow : OpenClaim := { program := "ythghangoagponaadoor", sum := "7ad621722426ccac6b62c43202f8f623cf980550ee42127fdd52f2cacca3adc8", func := "pinchcock/pinchcocklaw42.KeypadSays", spec := "keypadSays", named := ["pinchcock/keypad.sets"], apart := false, laid := [("pinchcock/keypad.sets", laid_pinchcock_keypad_sets)] }
def KeypadSaysSaid : Prop := keypadSaysRow.holds Tryd.pinned (OpenSpec.ofChange keypadSaysSpec)

/-- ITS FALSE NEIGHBOUR: 'it returns false'. Refute it at one input. -/
def keypadSaysWrong : ChangeSpec := { name := "keypadSays", fn := fun _ => fun
  | [d1, d2, d3] => { results := [.lit (.bool false)], args := [d1, d2, d3] }
  | _ => none }
def KeypadSaysWrongFalsely : Prop := keypadSaysRow.holds Tryd.pinned (OpenSpec.ofChange keypadSaysWrong)

/-- 'pinchcocklaw42.KeypadConfirms': WHATEVER THE INPUT: true; the input reads as it did. -/
def keypadConfirmsSpec : ChangeSpec := { name := "keypadConfirms", fn := fun _ => fun
  | [d1, d2] => { results := [.lit (.bool true)], args := [d1, d2] }
  | _ => none }
def keypadConfirmsRow : OpenClaim := { program := "ythghangoagponaadoor", sum := "7ad621722426ccac6b62c43202f8f623cf980550ee42127fdd52f2cacca3adc8", func := "pinchcock/pinchcocklaw42.KeypadConfirms", spec := "keypadConfirms", named := ["pinchcock/keypad.sets"], apart := false, laid := [("pinchcock/keypad.sets", laid_pinchcock_keypad_sets)] }
def KeypadConfirmsSaid : Prop := keypadConfirmsRow.holds Tryd.pinned (OpenSpec.ofChange keypadConfirmsSpec)

/-- ITS FALSE NEIGHBOUR: 'it returns false'. Refute it at one input. -/
def keypadConfirmsWrong : ChangeSpec := { name := "keypadConfirms", fn := fun _ => fun
  | [d1, d2] => { results := [.lit (.bool false)], args := [d1, d2] }
  | _ => none }
def KeypadConfirmsWrongFalsely : Prop := keypadConfirmsRow.holds Tryd.pinned (OpenSpec.ofChange keypadConfirmsWrong)

/-- 'pinchcocklaw42.KeypadTurns': WHATEVER THE INPUT: true; the input reads as it did. -/
def keypadTurnsSpec : ChangeSpec := { name := "keypadTurns", fn := fun _ => fun
  | [d1, d2, d3] => { results := [.lit (.bool true)], args := [d1, d2, d3] }
  | _ => none }
def keypadTurnsRow : OpenClaim := { program := "ythghangoagponaadoor", sum := "7ad621722426ccac6b62c43202f8f623cf980550ee42127fdd52f2cacca3adc8", func := "pinchcock/pinchcocklaw42.KeypadTurns", spec := "keypadTurns", named := ["pinchcock/keypad.sets"], apart := false, laid := [("pinchcock/keypad.sets", laid_pinchcock_keypad_sets)] }
def KeypadTurnsSaid : Prop := keypadTurnsRow.holds Tryd.pinned (OpenSpec.ofChange keypadTurnsSpec)

/-- ITS FALSE NEIGHBOUR: 'it returns false'. Refute it at one input. -/
def keypadTurnsWrong : ChangeSpec := { name := "keypadTurns", fn := fun _ => fun
  | [d1, d2, d3] => { results := [.lit (.bool false)], args := [d1, d2, d3] }
  | _ => none }
def KeypadTurnsWrongFalsely : Prop := keypadTurnsRow.holds Tryd.pinned (OpenSpec.ofChange keypadTurnsWrong)

/- THE SECOND FORM. 'bulk': how many values and letters a reading holds, each counted each time it is reached (what is shared counts as often as it is met; a slice's spare places count too). A statement '..UptoSaid' is the law's where the arguments, and the package variables that the reading takes, are together of bulk at most 1048576: NARROWER than '..Said'. Prove '..Said' where nothing that the law and all that it calls make is longer than what came in: it says more and counts as full. Else prove '..UptoSaid'. A law counts once. -/
mutual
def uptoBulk {H : Type} : DataW H → Nat
  | .lit (.string bytes) => bytes.length + 1
  | .lit _ => 1
  | .nil => 1
  | .ptr d => uptoBulk d + 1
  | .slice elems spare => uptoBulkAll elems + uptoBulkAll spare + 1
  | .agg parts => uptoBulkAll parts + 1
  | .iface _ d => uptoBulk d + 1
  | .map entries => uptoBulkEntries entries + 1
  | .held _ => 1
def uptoBulkAll {H : Type} : List (DataW H) → Nat
  | [] => 0
  | d :: r => uptoBulk d + uptoBulkAll r
def uptoBulkEntries {H : Type} : List (Lit × DataW H) → Nat
  | [] => 0
  | x :: r => uptoBulkEntry x + uptoBulkEntries r
def uptoBulkEntry {H : Type} : Lit × DataW H → Nat
  | (.string bytes, d) => bytes.length + uptoBulk d + 1
  | (_, d) => uptoBulk d + 1
 end
def uptoSmall : (H : Type) → List (DataW H) → Bool := fun _ ds => decide (uptoBulkAll ds ≤ 1048576)
def OpenSpec.upto (s : _root_.Go.ChangeSpec) : _root_.Go.OpenSpec := { _root_.Go.OpenSpec.ofChange s with cond := some uptoSmall }

/-- 'pinchcocklaw37.ModeSays', WHERE WHAT IT READS IS OF BULK AT MOST 1048576: true; the input reads as it did. -/
def modeSaysUptoRow : OpenClaim := { program := "ythghangoagponaadoor", sum := "7ad621722426ccac6b62c43202f8f623cf980550ee42127fdd52f2cacca3adc8", func := "pinchcock/pinchcocklaw37.ModeSays", spec := "modeSays", named := ["pinchcock/mode.names"], apart := false, laid := [("pinchcock/mode.names", laid_pinchcock_mode_names)], narrowed := true }
def ModeSaysUptoSaid : Prop := modeSaysUptoRow.holds Tryd.pinned (OpenSpec.upto modeSaysSpec)

/-- 'pinchcocklaw37.ModeSafe', WHERE WHAT IT READS IS OF BULK AT MOST 1048576: true; the input reads as it did. -/
def modeSafeUptoRow : OpenClaim := { program := "ythghangoagponaadoor", sum := "7ad621722426ccac6b62c43202f8f623cf980550ee42127fdd52f2cacca3adc8", func := "pinchcock/pinchcocklaw37.ModeSafe", spec := "modeSafe", named := ["pinchcock/mode.names"], apart := false, laid := [("pinchcock/mode.names", laid_pinchcock_mode_names)], narrowed := true }
def ModeSafeUptoSaid : Prop := modeSafeUptoRow.holds Tryd.pinned (OpenSpec.upto modeSafeSpec)

/-- 'pinchcocklaw37.ModeWalk', WHERE WHAT IT READS IS OF BULK AT MOST 1048576: true; the input reads as it did. -/
def modeWalkUptoRow : OpenClaim := { program := "ythghangoagponaadoor", sum := "7ad621722426ccac6b62c43202f8f623cf980550ee42127fdd52f2cacca3adc8", func := "pinchcock/pinchcocklaw37.ModeWalk", spec := "modeWalk", named := ["pinchcock/mode.names"], apart := false, laid := [("pinchcock/mode.names", laid_pinchcock_mode_names)], narrowed := true }
def ModeWalkUptoSaid : Prop := modeWalkUptoRow.holds Tryd.pinned (OpenSpec.upto modeWalkSpec)

/-- 'pinchcocklaw44.DiarySays', WHERE WHAT IT READS IS OF BULK AT MOST 1048576: true; the input reads as it did. -/
def diarySaysUptoRow : OpenClaim := { program := "ythghangoagponaadoor", sum := "7ad621722426ccac6b62c43202f8f623cf980550ee42127fdd52f2cacca3adc8", func := "pinchcock/pinchcocklaw44.DiarySays", spec := "diarySays", named := ["internal/strconv.uint64pow10", "math/bits.deBruijn32tab", "math/bits.deBruijn64tab", "pinchcock/diary.words"], apart := false, laid := [("math/bits.deBruijn32tab", laid_math_bits_deBruijn32tab), ("math/bits.deBruijn64tab", laid_math_bits_deBruijn64tab), ("internal/strconv.uint64pow10", laid_internal_strconv_uint64pow10), ("pinchcock/diary.words", laid_pinchcock_diary_words)], narrowed := true }
def DiarySaysUptoSaid : Prop := diarySaysUptoRow.holds Tryd.pinned (OpenSpec.upto diarySaysSpec)

/-- 'pinchcocklaw44.DiaryKeeps', WHERE WHAT IT READS IS OF BULK AT MOST 1048576: true; the input reads as it did. -/
def diaryKeepsUptoRow : OpenClaim := { program := "ythghangoagponaadoor", sum := "7ad621722426ccac6b62c43202f8f623cf980550ee42127fdd52f2cacca3adc8", func := "pinchcock/pinchcocklaw44.DiaryKeeps", spec := "diaryKeeps", named := ["internal/strconv.uint64pow10", "math/bits.deBruijn32tab", "math/bits.deBruijn64tab", "pinchcock/diary.words"], apart := false, laid := [("math/bits.deBruijn32tab", laid_math_bits_deBruijn32tab), ("math/bits.deBruijn64tab", laid_math_bits_deBruijn64tab), ("internal/strconv.uint64pow10", laid_internal_strconv_uint64pow10), ("pinchcock/diary.words", laid_pinchcock_diary_words)], narrowed := true }
def DiaryKeepsUptoSaid : Prop := diaryKeepsUptoRow.holds Tryd.pinned (OpenSpec.upto diaryKeepsSpec)

/-- 'pinchcocklaw42.KeypadSays', WHERE WHAT IT READS IS OF BULK AT MOST 1048576: true; the input reads as it did. -/
def keypadSaysUptoRow : OpenClaim := { program := "ythghangoagponaadoor", sum := "7ad621722426ccac6b62c43202f8f623cf980550ee42127fdd52f2cacca3adc8", func := "pinchcock/pinchcocklaw42.KeypadSays", spec := "keypadSays", named := ["pinchcock/keypad.sets"], apart := false, laid := [("pinchcock/keypad.sets", laid_pinchcock_keypad_sets)], narrowed := true }
def KeypadSaysUptoSaid : Prop := keypadSaysUptoRow.holds Tryd.pinned (OpenSpec.upto keypadSaysSpec)

/-- 'pinchcocklaw42.KeypadConfirms', WHERE WHAT IT READS IS OF BULK AT MOST 1048576: true; the input reads as it did. -/
def keypadConfirmsUptoRow : OpenClaim := { program := "ythghangoagponaadoor", sum := "7ad621722426ccac6b62c43202f8f623cf980550ee42127fdd52f2cacca3adc8", func := "pinchcock/pinchcocklaw42.KeypadConfirms", spec := "keypadConfirms", named := ["pinchcock/keypad.sets"], apart := false, laid := [("pinchcock/keypad.sets", laid_pinchcock_keypad_sets)], narrowed := true }
def KeypadConfirmsUptoSaid : Prop := keypadConfirmsUptoRow.holds Tryd.pinned (OpenSpec.upto keypadConfirmsSpec)

/-- 'pinchcocklaw42.KeypadTurns', WHERE WHAT IT READS IS OF BULK AT MOST 1048576: true; the input reads as it did. -/
def keypadTurnsUptoRow : OpenClaim := { program := "ythghangoagponaadoor", sum := "7ad621722426ccac6b62c43202f8f623cf980550ee42127fdd52f2cacca3adc8", func := "pinchcock/pinchcocklaw42.KeypadTurns", spec := "keypadTurns", named := ["pinchcock/keypad.sets"], apart := false, laid := [("pinchcock/keypad.sets", laid_pinchcock_keypad_sets)], narrowed := true }
def KeypadTurnsUptoSaid : Prop := keypadTurnsUptoRow.holds Tryd.pinned (OpenSpec.upto keypadTurnsSpec)

end Rows
end Go.Proofs.YthghangoagponaaDoor
