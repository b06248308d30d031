/-
  DERIVED. GIVEN WITH THE SEED: THE CARDS: each row of YtjdahghnfgblgaaDoorRows.lean that lists a variable, with what it lists TIED to the program's text (the seventh form; the later family's looks); each row that meets fmt, with fmt's text TOLD by the authors' own Lean function (tested against real Go, not proved from fmt's source: count such statements apart). THE CARD IS WHAT COUNTS. Prove the row's statement (the work); the ties are given (YtjdahghnfgblgaaDoorTie.lean); close each card by the builder's one call (the guide's Derived/Test/ToyasCard.lean, 'card_holds'). Laid BY PROGRAM, IN A SANDBOX (cutbox-door.mjs). By AI agents, Wed Nov 11 2026. No macro, syntax, notation, axiom, sorry.
-/
import Derived.Test.YtjdahghnfgblgaaDoorRows
import GoSem.ClaimSeven
namespace Go.Proofs.YtjdahghnfgblgaaDoor
namespace Rows

/-- THE TIED CARD OF 'pinchcocklaw43.ScreenBack'. -/
def screenBackCard : Claim7 := { stood := { row := screenBackRow, standIns := [], harness := (true, "bd2213a6a959362a1aeed90630960b72ce347950cf7b709c8eb6b7099100cf1e"), looks := false }, kinds := [], alts := [], laidByText := true, laidKinds := [.data, .data, .data, .data, .data], laidTests := true, laidLooks := .later }
def ScreenBackCardSaid : Prop := Claim7.holds Tryd.pinned (.plain (OpenSpec.ofChange screenBackSpec)) screenBackCard

/-- THE TIED CARD OF 'pinchcocklaw43.ScreenVolumes'. -/
def screenVolumesCard : Claim7 := { stood := { row := screenVolumesRow, standIns := [], harness := (true, "bd2213a6a959362a1aeed90630960b72ce347950cf7b709c8eb6b7099100cf1e"), looks := false }, kinds := [], alts := [], laidByText := true, laidKinds := [.data, .data, .data, .data, .data], laidTests := true, laidLooks := .later }
def ScreenVolumesCardSaid : Prop := Claim7.holds Tryd.pinned (.plain (OpenSpec.ofChange screenVolumesSpec)) screenVolumesCard

/-- THE SECOND FORM's CARD OF 'pinchcocklaw43.ScreenBack'. -/
def screenBackUptoCard : Claim7 := { stood := { row := screenBackUptoRow, standIns := [], harness := (true, "bd2213a6a959362a1aeed90630960b72ce347950cf7b709c8eb6b7099100cf1e"), looks := false }, kinds := [], alts := [], laidByText := true, laidKinds := [.data, .data, .data, .data, .data], laidTests := true, laidLooks := .later }
def ScreenBackUptoCardSaid : Prop := Claim7.holds Tryd.pinned (.plain (OpenSpec.upto screenBackSpec)) screenBackUptoCard

/-- THE SECOND FORM's CARD OF 'pinchcocklaw43.ScreenVolumes'. -/
def screenVolumesUptoCard : Claim7 := { stood := { row := screenVolumesUptoRow, standIns := [], harness := (true, "bd2213a6a959362a1aeed90630960b72ce347950cf7b709c8eb6b7099100cf1e"), looks := false }, kinds := [], alts := [], laidByText := true, laidKinds := [.data, .data, .data, .data, .data], laidTests := true, laidLooks := .later }
def ScreenVolumesUptoCardSaid : Prop := Claim7.holds Tryd.pinned (.plain (OpenSpec.upto screenVolumesSpec)) screenVolumesUptoCard
end Rows
end Go.Proofs.YtjdahghnfgblgaaDoor
