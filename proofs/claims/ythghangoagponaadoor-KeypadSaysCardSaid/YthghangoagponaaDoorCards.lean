/-
  DERIVED. GIVEN WITH THE SEED: THE CARDS: each row of YthghangoagponaaDoorRows.lean that lists a variable, with what it lists TIED to the program's text (the seventh form; the later family's looks); each row that meets fmt, with fmt's text TOLD by the authors' own Lean function (tested against real Go, not proved from fmt's source: count such statements apart). THE CARD IS WHAT COUNTS. Prove the row's statement (the work); the ties are given (YthghangoagponaaDoorTie.lean); close each card by the builder's one call (the guide's Derived/Test/ToyasCard.lean, 'card_holds'). Laid BY PROGRAM, IN A SANDBOX (cutbox-door.mjs). By AI agents, Wed Nov 11 2026. No macro, syntax, notation, axiom, sorry.
-/
import Derived.Test.YthghangoagponaaDoorRows
import GoSem.ClaimSeven
namespace Go.Proofs.YthghangoagponaaDoor
namespace Rows

/-- THE TIED CARD OF 'pinchcocklaw37.ModeSays'. -/
def modeSaysCard : Claim7 := { stood := { row := modeSaysRow, standIns := [], harness := (true, "5085d9825cf47a255882b420344129082fa7ec7c99cb964657dcf56a480ae867"), looks := false }, kinds := [], alts := [], laidByText := true, laidKinds := [.data], laidTests := true, laidLooks := .later }
def ModeSaysCardSaid : Prop := Claim7.holds Tryd.pinned (.plain (OpenSpec.ofChange modeSaysSpec)) modeSaysCard

/-- THE TIED CARD OF 'pinchcocklaw37.ModeSafe'. -/
def modeSafeCard : Claim7 := { stood := { row := modeSafeRow, standIns := [], harness := (true, "5085d9825cf47a255882b420344129082fa7ec7c99cb964657dcf56a480ae867"), looks := false }, kinds := [], alts := [], laidByText := true, laidKinds := [.data], laidTests := true, laidLooks := .later }
def ModeSafeCardSaid : Prop := Claim7.holds Tryd.pinned (.plain (OpenSpec.ofChange modeSafeSpec)) modeSafeCard

/-- THE TIED CARD OF 'pinchcocklaw37.ModeWalk'. -/
def modeWalkCard : Claim7 := { stood := { row := modeWalkRow, standIns := [], harness := (true, "5085d9825cf47a255882b420344129082fa7ec7c99cb964657dcf56a480ae867"), looks := false }, kinds := [], alts := [], laidByText := true, laidKinds := [.data], laidTests := true, laidLooks := .later }
def ModeWalkCardSaid : Prop := Claim7.holds Tryd.pinned (.plain (OpenSpec.ofChange modeWalkSpec)) modeWalkCard

/-- THE TIED CARD OF 'pinchcocklaw44.DiarySays'. -/
def diarySaysCard : Claim7 := { stood := { row := diarySaysRow, standIns := [], harness := (true, "5085d9825cf47a255882b420344129082fa7ec7c99cb964657dcf56a480ae867"), looks := false }, kinds := [], alts := [], laidByText := true, laidKinds := [.data, .data, .data, .data], laidTests := true, laidLooks := .later }
def DiarySaysCardSaid : Prop := Claim7.holds Tryd.pinned (.plain (OpenSpec.ofChange diarySaysSpec)) diarySaysCard

/-- THE TIED CARD OF 'pinchcocklaw44.DiaryKeeps'. -/
def diaryKeepsCard : Claim7 := { stood := { row := diaryKeepsRow, standIns := [], harness := (true, "5085d9825cf47a255882b420344129082fa7ec7c99cb964657dcf56a480ae867"), looks := false }, kinds := [], alts := [], laidByText := true, laidKinds := [.data, .data, .data, .data], laidTests := true, laidLooks := .later }
def DiaryKeepsCardSaid : Prop := Claim7.holds Tryd.pinned (.plain (OpenSpec.ofChange diaryKeepsSpec)) diaryKeepsCard

/-- THE TIED CARD OF 'pinchcocklaw42.KeypadSays'. -/
def keypadSaysCard : Claim7 := { stood := { row := keypadSaysRow, standIns := [], harness := (true, "5085d9825cf47a255882b420344129082fa7ec7c99cb964657dcf56a480ae867"), looks := false }, kinds := [], alts := [], laidByText := true, laidKinds := [.data], laidTests := true, laidLooks := .later }
def KeypadSaysCardSaid : Prop := Claim7.holds Tryd.pinned (.plain (OpenSpec.ofChange keypadSaysSpec)) keypadSaysCard

/-- THE TIED CARD OF 'pinchcocklaw42.KeypadConfirms'. -/
def keypadConfirmsCard : Claim7 := { stood := { row := keypadConfirmsRow, standIns := [], harness := (true, "5085d9825cf47a255882b420344129082fa7ec7c99cb964657dcf56a480ae867"), looks := false }, kinds := [], alts := [], laidByText := true, laidKinds := [.data], laidTests := true, laidLooks := .later }
def KeypadConfirmsCardSaid : Prop := Claim7.holds Tryd.pinned (.plain (OpenSpec.ofChange keypadConfirmsSpec)) keypadConfirmsCard

/-- THE TIED CARD OF 'pinchcocklaw42.KeypadTurns'. -/
def keypadTurnsCard : Claim7 := { stood := { row := keypadTurnsRow, standIns := [], harness := (true, "5085d9825cf47a255882b420344129082fa7ec7c99cb964657dcf56a480ae867"), looks := false }, kinds := [], alts := [], laidByText := true, laidKinds := [.data], laidTests := true, laidLooks := .later }
def KeypadTurnsCardSaid : Prop := Claim7.holds Tryd.pinned (.plain (OpenSpec.ofChange keypadTurnsSpec)) keypadTurnsCard

/-- THE SECOND FORM's CARD OF 'pinchcocklaw37.ModeSays'. -/
def modeSaysUptoCard : Claim7 := { stood := { row := modeSaysUptoRow, standIns := [], harness := (true, "5085d9825cf47a255882b420344129082fa7ec7c99cb964657dcf56a480ae867"), looks := false }, kinds := [], alts := [], laidByText := true, laidKinds := [.data], laidTests := true, laidLooks := .later }
def ModeSaysUptoCardSaid : Prop := Claim7.holds Tryd.pinned (.plain (OpenSpec.upto modeSaysSpec)) modeSaysUptoCard

/-- THE SECOND FORM's CARD OF 'pinchcocklaw37.ModeSafe'. -/
def modeSafeUptoCard : Claim7 := { stood := { row := modeSafeUptoRow, standIns := [], harness := (true, "5085d9825cf47a255882b420344129082fa7ec7c99cb964657dcf56a480ae867"), looks := false }, kinds := [], alts := [], laidByText := true, laidKinds := [.data], laidTests := true, laidLooks := .later }
def ModeSafeUptoCardSaid : Prop := Claim7.holds Tryd.pinned (.plain (OpenSpec.upto modeSafeSpec)) modeSafeUptoCard

/-- THE SECOND FORM's CARD OF 'pinchcocklaw37.ModeWalk'. -/
def modeWalkUptoCard : Claim7 := { stood := { row := modeWalkUptoRow, standIns := [], harness := (true, "5085d9825cf47a255882b420344129082fa7ec7c99cb964657dcf56a480ae867"), looks := false }, kinds := [], alts := [], laidByText := true, laidKinds := [.data], laidTests := true, laidLooks := .later }
def ModeWalkUptoCardSaid : Prop := Claim7.holds Tryd.pinned (.plain (OpenSpec.upto modeWalkSpec)) modeWalkUptoCard

/-- THE SECOND FORM's CARD OF 'pinchcocklaw44.DiarySays'. -/
def diarySaysUptoCard : Claim7 := { stood := { row := diarySaysUptoRow, standIns := [], harness := (true, "5085d9825cf47a255882b420344129082fa7ec7c99cb964657dcf56a480ae867"), looks := false }, kinds := [], alts := [], laidByText := true, laidKinds := [.data, .data, .data, .data], laidTests := true, laidLooks := .later }
def DiarySaysUptoCardSaid : Prop := Claim7.holds Tryd.pinned (.plain (OpenSpec.upto diarySaysSpec)) diarySaysUptoCard

/-- THE SECOND FORM's CARD OF 'pinchcocklaw44.DiaryKeeps'. -/
def diaryKeepsUptoCard : Claim7 := { stood := { row := diaryKeepsUptoRow, standIns := [], harness := (true, "5085d9825cf47a255882b420344129082fa7ec7c99cb964657dcf56a480ae867"), looks := false }, kinds := [], alts := [], laidByText := true, laidKinds := [.data, .data, .data, .data], laidTests := true, laidLooks := .later }
def DiaryKeepsUptoCardSaid : Prop := Claim7.holds Tryd.pinned (.plain (OpenSpec.upto diaryKeepsSpec)) diaryKeepsUptoCard

/-- THE SECOND FORM's CARD OF 'pinchcocklaw42.KeypadSays'. -/
def keypadSaysUptoCard : Claim7 := { stood := { row := keypadSaysUptoRow, standIns := [], harness := (true, "5085d9825cf47a255882b420344129082fa7ec7c99cb964657dcf56a480ae867"), looks := false }, kinds := [], alts := [], laidByText := true, laidKinds := [.data], laidTests := true, laidLooks := .later }
def KeypadSaysUptoCardSaid : Prop := Claim7.holds Tryd.pinned (.plain (OpenSpec.upto keypadSaysSpec)) keypadSaysUptoCard

/-- THE SECOND FORM's CARD OF 'pinchcocklaw42.KeypadConfirms'. -/
def keypadConfirmsUptoCard : Claim7 := { stood := { row := keypadConfirmsUptoRow, standIns := [], harness := (true, "5085d9825cf47a255882b420344129082fa7ec7c99cb964657dcf56a480ae867"), looks := false }, kinds := [], alts := [], laidByText := true, laidKinds := [.data], laidTests := true, laidLooks := .later }
def KeypadConfirmsUptoCardSaid : Prop := Claim7.holds Tryd.pinned (.plain (OpenSpec.upto keypadConfirmsSpec)) keypadConfirmsUptoCard

/-- THE SECOND FORM's CARD OF 'pinchcocklaw42.KeypadTurns'. -/
def keypadTurnsUptoCard : Claim7 := { stood := { row := keypadTurnsUptoRow, standIns := [], harness := (true, "5085d9825cf47a255882b420344129082fa7ec7c99cb964657dcf56a480ae867"), looks := false }, kinds := [], alts := [], laidByText := true, laidKinds := [.data], laidTests := true, laidLooks := .later }
def KeypadTurnsUptoCardSaid : Prop := Claim7.holds Tryd.pinned (.plain (OpenSpec.upto keypadTurnsSpec)) keypadTurnsUptoCard
end Rows
end Go.Proofs.YthghangoagponaaDoor
