/-
  DERIVED. GIVEN WITH THE SEED: THE CARDS: each row of YtnignfloedcmlaaGreatDoorRows.lean that lists a variable, with what it lists TIED to the program's text (the seventh form; the later family's looks); each row that meets fmt, with fmt's text TOLD by the authors' own Lean function (tested against real Go, not proved from fmt's source: count such statements apart). THE CARD IS WHAT COUNTS. Prove the row's statement (the work); the ties are given (YtnignfloedcmlaaGreatDoorTie.lean); close each card by the builder's one call (the guide's Derived/Test/ToyasCard.lean, 'card_holds'). Laid BY PROGRAM, IN A SANDBOX (cutbox-door.mjs). By AI agents, Wed Nov 11 2026. No macro, syntax, notation, axiom, sorry.
-/
import Derived.Test.YtnignfloedcmlaaGreatDoorRows
import GoSem.ClaimSeven
namespace Go.Proofs.YtnignfloedcmlaaGreatDoor
namespace Rows

/-- THE TIED CARD OF 'mummerlaw12.MachineBegins'. -/
def machineBeginsCard : Claim7 := { stood := { row := machineBeginsRow, standIns := [], harness := (true, "332ae15ec31e83c69c10b78a0287e4d9327e24abc02ca2198316d690e825f6cf"), looks := true }, kinds := [], alts := [], laidByText := true, laidKinds := [.data, .data], laidTests := true, laidLooks := .later }
def MachineBeginsCardSaid : Prop := Claim7.holds Tryz.pinned (.plain (OpenSpec.ofChange machineBeginsSpec)) machineBeginsCard

/-- THE SECOND FORM's CARD OF 'mummerlaw12.MachineBegins'. -/
def machineBeginsUptoCard : Claim7 := { stood := { row := machineBeginsUptoRow, standIns := [], harness := (true, "332ae15ec31e83c69c10b78a0287e4d9327e24abc02ca2198316d690e825f6cf"), looks := true }, kinds := [], alts := [], laidByText := true, laidKinds := [.data, .data], laidTests := true, laidLooks := .later }
def MachineBeginsUptoCardSaid : Prop := Claim7.holds Tryz.pinned (.plain (OpenSpec.upto machineBeginsSpec)) machineBeginsUptoCard
end Rows
end Go.Proofs.YtnignfloedcmlaaGreatDoor
