/-
  DERIVED. GIVEN WITH THE SEED: THE CARDS: each row of YtojoobonienhnaaGreatDoorRows.lean that lists a variable, with what it lists TIED to the program's text (the seventh form; the later family's looks); each row that meets fmt, with fmt's text TOLD by the authors' own Lean function (tested against real Go, not proved from fmt's source: count such statements apart). THE CARD IS WHAT COUNTS. Prove the row's statement (the work); the ties are given (YtojoobonienhnaaGreatDoorTie.lean); close each card by the builder's one call (the guide's Derived/Test/ToyasCard.lean, 'card_holds'). Laid BY PROGRAM, IN A SANDBOX (cutbox-door.mjs). By AI agents, Wed Nov 11 2026. No macro, syntax, notation, axiom, sorry.
-/
import Derived.Test.YtojoobonienhnaaGreatDoorRows
import GoSem.ClaimSeven
namespace Go.Proofs.YtojoobonienhnaaGreatDoor
namespace Rows

/-- THE TIED CARD OF 'mummerlaw12.MachineBegins'. -/
def machineBeginsCard : Claim7 := { stood := { row := machineBeginsRow, standIns := [], harness := (true, "5cbbd589b00704533d2a2cabec6c6acf0dc199b8b5d7e9fd7a5c8c054a7fc604"), looks := true }, kinds := [], alts := [], laidByText := true, laidKinds := [.data, .data], laidTests := true, laidLooks := .later }
def MachineBeginsCardSaid : Prop := Claim7.holds Tryz.pinned (.plain (OpenSpec.ofChange machineBeginsSpec)) machineBeginsCard

/-- THE TIED CARD OF 'mummerlaw12.MachineParts'. -/
def machinePartsCard : Claim7 := { stood := { row := machinePartsRow, standIns := [], harness := (true, "5cbbd589b00704533d2a2cabec6c6acf0dc199b8b5d7e9fd7a5c8c054a7fc604"), looks := true }, kinds := [], alts := [], laidByText := true, laidKinds := [.data, .data], laidTests := true, laidLooks := .later }
def MachinePartsCardSaid : Prop := Claim7.holds Tryz.pinned (.plain (OpenSpec.ofChange machinePartsSpec)) machinePartsCard

/-- THE TIED CARD OF 'mummerlaw12.MachineHalts'. -/
def machineHaltsCard : Claim7 := { stood := { row := machineHaltsRow, standIns := [], harness := (true, "5cbbd589b00704533d2a2cabec6c6acf0dc199b8b5d7e9fd7a5c8c054a7fc604"), looks := true }, kinds := [], alts := [], laidByText := true, laidKinds := [.data, .data], laidTests := true, laidLooks := .later }
def MachineHaltsCardSaid : Prop := Claim7.holds Tryz.pinned (.plain (OpenSpec.ofChange machineHaltsSpec)) machineHaltsCard

/-- THE TIED CARD OF 'mummerlaw12.MachinePrecise'. -/
def machinePreciseCard : Claim7 := { stood := { row := machinePreciseRow, standIns := [], harness := (true, "5cbbd589b00704533d2a2cabec6c6acf0dc199b8b5d7e9fd7a5c8c054a7fc604"), looks := true }, kinds := [], alts := [], laidByText := true, laidKinds := [.data, .data], laidTests := true, laidLooks := .later }
def MachinePreciseCardSaid : Prop := Claim7.holds Tryz.pinned (.plain (OpenSpec.ofChange machinePreciseSpec)) machinePreciseCard

/-- THE TIED CARD OF 'mummerlaw12.MachineNone'. -/
def machineNoneCard : Claim7 := { stood := { row := machineNoneRow, standIns := [], harness := (true, "5cbbd589b00704533d2a2cabec6c6acf0dc199b8b5d7e9fd7a5c8c054a7fc604"), looks := true }, kinds := [], alts := [], laidByText := true, laidKinds := [.data, .data], laidTests := true, laidLooks := .later }
def MachineNoneCardSaid : Prop := Claim7.holds Tryz.pinned (.plain (OpenSpec.ofChange machineNoneSpec)) machineNoneCard

/-- THE TIED CARD OF 'mummerlaw12.MachineDelays'. -/
def machineDelaysCard : Claim7 := { stood := { row := machineDelaysRow, standIns := [], harness := (true, "5cbbd589b00704533d2a2cabec6c6acf0dc199b8b5d7e9fd7a5c8c054a7fc604"), looks := true }, kinds := [], alts := [], laidByText := true, laidKinds := [.data, .data], laidTests := true, laidLooks := .later }
def MachineDelaysCardSaid : Prop := Claim7.holds Tryz.pinned (.plain (OpenSpec.ofChange machineDelaysSpec)) machineDelaysCard

/-- THE SECOND FORM's CARD OF 'mummerlaw12.MachineBegins'. -/
def machineBeginsUptoCard : Claim7 := { stood := { row := machineBeginsUptoRow, standIns := [], harness := (true, "5cbbd589b00704533d2a2cabec6c6acf0dc199b8b5d7e9fd7a5c8c054a7fc604"), looks := true }, kinds := [], alts := [], laidByText := true, laidKinds := [.data, .data], laidTests := true, laidLooks := .later }
def MachineBeginsUptoCardSaid : Prop := Claim7.holds Tryz.pinned (.plain (OpenSpec.upto machineBeginsSpec)) machineBeginsUptoCard

/-- THE SECOND FORM's CARD OF 'mummerlaw12.MachineParts'. -/
def machinePartsUptoCard : Claim7 := { stood := { row := machinePartsUptoRow, standIns := [], harness := (true, "5cbbd589b00704533d2a2cabec6c6acf0dc199b8b5d7e9fd7a5c8c054a7fc604"), looks := true }, kinds := [], alts := [], laidByText := true, laidKinds := [.data, .data], laidTests := true, laidLooks := .later }
def MachinePartsUptoCardSaid : Prop := Claim7.holds Tryz.pinned (.plain (OpenSpec.upto machinePartsSpec)) machinePartsUptoCard

/-- THE SECOND FORM's CARD OF 'mummerlaw12.MachineHalts'. -/
def machineHaltsUptoCard : Claim7 := { stood := { row := machineHaltsUptoRow, standIns := [], harness := (true, "5cbbd589b00704533d2a2cabec6c6acf0dc199b8b5d7e9fd7a5c8c054a7fc604"), looks := true }, kinds := [], alts := [], laidByText := true, laidKinds := [.data, .data], laidTests := true, laidLooks := .later }
def MachineHaltsUptoCardSaid : Prop := Claim7.holds Tryz.pinned (.plain (OpenSpec.upto machineHaltsSpec)) machineHaltsUptoCard

/-- THE SECOND FORM's CARD OF 'mummerlaw12.MachinePrecise'. -/
def machinePreciseUptoCard : Claim7 := { stood := { row := machinePreciseUptoRow, standIns := [], harness := (true, "5cbbd589b00704533d2a2cabec6c6acf0dc199b8b5d7e9fd7a5c8c054a7fc604"), looks := true }, kinds := [], alts := [], laidByText := true, laidKinds := [.data, .data], laidTests := true, laidLooks := .later }
def MachinePreciseUptoCardSaid : Prop := Claim7.holds Tryz.pinned (.plain (OpenSpec.upto machinePreciseSpec)) machinePreciseUptoCard

/-- THE SECOND FORM's CARD OF 'mummerlaw12.MachineNone'. -/
def machineNoneUptoCard : Claim7 := { stood := { row := machineNoneUptoRow, standIns := [], harness := (true, "5cbbd589b00704533d2a2cabec6c6acf0dc199b8b5d7e9fd7a5c8c054a7fc604"), looks := true }, kinds := [], alts := [], laidByText := true, laidKinds := [.data, .data], laidTests := true, laidLooks := .later }
def MachineNoneUptoCardSaid : Prop := Claim7.holds Tryz.pinned (.plain (OpenSpec.upto machineNoneSpec)) machineNoneUptoCard

/-- THE SECOND FORM's CARD OF 'mummerlaw12.MachineDelays'. -/
def machineDelaysUptoCard : Claim7 := { stood := { row := machineDelaysUptoRow, standIns := [], harness := (true, "5cbbd589b00704533d2a2cabec6c6acf0dc199b8b5d7e9fd7a5c8c054a7fc604"), looks := true }, kinds := [], alts := [], laidByText := true, laidKinds := [.data, .data], laidTests := true, laidLooks := .later }
def MachineDelaysUptoCardSaid : Prop := Claim7.holds Tryz.pinned (.plain (OpenSpec.upto machineDelaysSpec)) machineDelaysUptoCard
end Rows
end Go.Proofs.YtojoobonienhnaaGreatDoor
