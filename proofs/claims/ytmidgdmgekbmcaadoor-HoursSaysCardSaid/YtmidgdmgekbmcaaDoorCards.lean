/-
  DERIVED. GIVEN WITH THE SEED: THE CARDS: each row of YtmidgdmgekbmcaaDoorRows.lean that lists a variable, with what it lists TIED to the program's text (the seventh form; the later family's looks); each row that meets fmt, with fmt's text TOLD by the authors' own Lean function (tested against real Go, not proved from fmt's source: count such statements apart). THE CARD IS WHAT COUNTS. Prove the row's statement (the work); the ties are given (YtmidgdmgekbmcaaDoorTie.lean); close each card by the builder's one call (the guide's Derived/Test/ToyasCard.lean, 'card_holds'). Laid BY PROGRAM, IN A SANDBOX (cutbox-door.mjs). By AI agents, Wed Nov 11 2026. No macro, syntax, notation, axiom, sorry.
-/
import Derived.Test.YtmidgdmgekbmcaaDoorRows
import GoSem.ClaimSeven
namespace Go.Proofs.YtmidgdmgekbmcaaDoor
namespace Rows

/-- THE TIED CARD OF 'pinchcocklaw53.HoursSays'. -/
def hoursSaysCard : Claim7 := { stood := { row := hoursSaysRow, standIns := [], harness := (true, "98e82e99eb17cacda00193455bd448f337b5df22ec9628e2db31cf45661c62be"), looks := true }, kinds := [], alts := [], laidByText := true, laidKinds := [.data, .data, .data, .sentinel, .sentinel], laidTests := true, laidLooks := .later }
def HoursSaysCardSaid : Prop := Claim7.holds Tryd.pinned (.plain (OpenSpec.ofChange hoursSaysSpec)) hoursSaysCard

/-- THE TIED CARD OF 'pinchcocklaw53.HoursBack'. -/
def hoursBackCard : Claim7 := { stood := { row := hoursBackRow, standIns := [], harness := (true, "98e82e99eb17cacda00193455bd448f337b5df22ec9628e2db31cf45661c62be"), looks := true }, kinds := [], alts := [], laidByText := true, laidKinds := [.data, .data, .data, .sentinel, .sentinel], laidTests := true, laidLooks := .later }
def HoursBackCardSaid : Prop := Claim7.holds Tryd.pinned (.plain (OpenSpec.ofChange hoursBackSpec)) hoursBackCard

/-- THE SECOND FORM's CARD OF 'pinchcocklaw53.HoursSays'. -/
def hoursSaysUptoCard : Claim7 := { stood := { row := hoursSaysUptoRow, standIns := [], harness := (true, "98e82e99eb17cacda00193455bd448f337b5df22ec9628e2db31cf45661c62be"), looks := true }, kinds := [], alts := [], laidByText := true, laidKinds := [.data, .data, .data, .sentinel, .sentinel], laidTests := true, laidLooks := .later }
def HoursSaysUptoCardSaid : Prop := Claim7.holds Tryd.pinned (.plain (OpenSpec.upto hoursSaysSpec)) hoursSaysUptoCard

/-- THE SECOND FORM's CARD OF 'pinchcocklaw53.HoursBack'. -/
def hoursBackUptoCard : Claim7 := { stood := { row := hoursBackUptoRow, standIns := [], harness := (true, "98e82e99eb17cacda00193455bd448f337b5df22ec9628e2db31cf45661c62be"), looks := true }, kinds := [], alts := [], laidByText := true, laidKinds := [.data, .data, .data, .sentinel, .sentinel], laidTests := true, laidLooks := .later }
def HoursBackUptoCardSaid : Prop := Claim7.holds Tryd.pinned (.plain (OpenSpec.upto hoursBackSpec)) hoursBackUptoCard
end Rows
end Go.Proofs.YtmidgdmgekbmcaaDoor
