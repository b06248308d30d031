/-
  DERIVED. GIVEN WITH THE SEED: THE CARDS: each row of YtbhgecmmmkmkjaaDoorRows.lean that lists a variable, with what it lists TIED to the program's text (the seventh form; the later family's looks); each row that meets fmt, with fmt's text TOLD by the authors' own Lean function (tested against real Go, not proved from fmt's source: count such statements apart). THE CARD IS WHAT COUNTS. Prove the row's statement (the work); the ties are given (YtbhgecmmmkmkjaaDoorTie.lean); close each card by the builder's one call (the guide's Derived/Test/ToyasCard.lean, 'card_holds'). Laid BY PROGRAM, IN A SANDBOX (cutbox-door.mjs). By AI agents, Wed Nov 11 2026. No macro, syntax, notation, axiom, sorry.
-/
import Derived.Test.YtbhgecmmmkmkjaaDoorRows
import GoSem.ClaimSeven
namespace Go.Proofs.YtbhgecmmmkmkjaaDoor
namespace Rows

/-- THE TIED CARD OF 'pinchcocklaw53.HoursSays'. -/
def hoursSaysCard : Claim7 := { stood := { row := hoursSaysRow, standIns := [], harness := (true, "1927067f87a04dfb47c64c885966bd7667310da95ee2be31c1b51cd798fe9828"), looks := true }, kinds := [], alts := [], laidByText := true, laidKinds := [.data, .data, .data, .sentinel, .sentinel], laidTests := true, laidLooks := .later }
def HoursSaysCardSaid : Prop := Claim7.holds Tryd.pinned (.plain (OpenSpec.ofChange hoursSaysSpec)) hoursSaysCard

/-- THE TIED CARD OF 'pinchcocklaw53.HoursBack'. -/
def hoursBackCard : Claim7 := { stood := { row := hoursBackRow, standIns := [], harness := (true, "1927067f87a04dfb47c64c885966bd7667310da95ee2be31c1b51cd798fe9828"), looks := true }, kinds := [], alts := [], laidByText := true, laidKinds := [.data, .data, .data, .sentinel, .sentinel], laidTests := true, laidLooks := .later }
def HoursBackCardSaid : Prop := Claim7.holds Tryd.pinned (.plain (OpenSpec.ofChange hoursBackSpec)) hoursBackCard

/-- THE TIED CARD OF 'pinchcocklaw44.DiarySays'. -/
def diarySaysCard : Claim7 := { stood := { row := diarySaysRow, standIns := [], harness := (true, "1927067f87a04dfb47c64c885966bd7667310da95ee2be31c1b51cd798fe9828"), looks := true }, kinds := [], alts := [], laidByText := true, laidKinds := [.data, .data, .data, .data], laidTests := true, laidLooks := .later }
def DiarySaysCardSaid : Prop := Claim7.holds Tryd.pinned (.plain (OpenSpec.ofChange diarySaysSpec)) diarySaysCard

/-- THE TIED CARD OF 'pinchcocklaw44.DiaryKeeps'. -/
def diaryKeepsCard : Claim7 := { stood := { row := diaryKeepsRow, standIns := [], harness := (true, "1927067f87a04dfb47c64c885966bd7667310da95ee2be31c1b51cd798fe9828"), looks := true }, kinds := [], alts := [], laidByText := true, laidKinds := [.data, .data, .data, .data], laidTests := true, laidLooks := .later }
def DiaryKeepsCardSaid : Prop := Claim7.holds Tryd.pinned (.plain (OpenSpec.ofChange diaryKeepsSpec)) diaryKeepsCard

/-- THE SECOND FORM's CARD OF 'pinchcocklaw53.HoursSays'. -/
def hoursSaysUptoCard : Claim7 := { stood := { row := hoursSaysUptoRow, standIns := [], harness := (true, "1927067f87a04dfb47c64c885966bd7667310da95ee2be31c1b51cd798fe9828"), looks := true }, kinds := [], alts := [], laidByText := true, laidKinds := [.data, .data, .data, .sentinel, .sentinel], laidTests := true, laidLooks := .later }
def HoursSaysUptoCardSaid : Prop := Claim7.holds Tryd.pinned (.plain (OpenSpec.upto hoursSaysSpec)) hoursSaysUptoCard

/-- THE SECOND FORM's CARD OF 'pinchcocklaw53.HoursBack'. -/
def hoursBackUptoCard : Claim7 := { stood := { row := hoursBackUptoRow, standIns := [], harness := (true, "1927067f87a04dfb47c64c885966bd7667310da95ee2be31c1b51cd798fe9828"), looks := true }, kinds := [], alts := [], laidByText := true, laidKinds := [.data, .data, .data, .sentinel, .sentinel], laidTests := true, laidLooks := .later }
def HoursBackUptoCardSaid : Prop := Claim7.holds Tryd.pinned (.plain (OpenSpec.upto hoursBackSpec)) hoursBackUptoCard

/-- THE SECOND FORM's CARD OF 'pinchcocklaw44.DiarySays'. -/
def diarySaysUptoCard : Claim7 := { stood := { row := diarySaysUptoRow, standIns := [], harness := (true, "1927067f87a04dfb47c64c885966bd7667310da95ee2be31c1b51cd798fe9828"), looks := true }, kinds := [], alts := [], laidByText := true, laidKinds := [.data, .data, .data, .data], laidTests := true, laidLooks := .later }
def DiarySaysUptoCardSaid : Prop := Claim7.holds Tryd.pinned (.plain (OpenSpec.upto diarySaysSpec)) diarySaysUptoCard

/-- THE SECOND FORM's CARD OF 'pinchcocklaw44.DiaryKeeps'. -/
def diaryKeepsUptoCard : Claim7 := { stood := { row := diaryKeepsUptoRow, standIns := [], harness := (true, "1927067f87a04dfb47c64c885966bd7667310da95ee2be31c1b51cd798fe9828"), looks := true }, kinds := [], alts := [], laidByText := true, laidKinds := [.data, .data, .data, .data], laidTests := true, laidLooks := .later }
def DiaryKeepsUptoCardSaid : Prop := Claim7.holds Tryd.pinned (.plain (OpenSpec.upto diaryKeepsSpec)) diaryKeepsUptoCard
end Rows
end Go.Proofs.YtbhgecmmmkmkjaaDoor
