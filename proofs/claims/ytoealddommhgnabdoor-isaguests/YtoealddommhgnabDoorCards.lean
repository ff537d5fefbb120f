/-
  DERIVED. GIVEN WITH THE SEED: THE CARDS: each row of YtoealddommhgnabDoorRows.lean that lists a variable, with what it lists TIED to the program's text (the seventh form; the later family's looks); each row that meets fmt, with fmt's text TOLD by the authors' own Lean function (tested against real Go, not proved from fmt's source: count such statements apart). THE CARD IS WHAT COUNTS. Prove the row's statement (the work); the ties are given (YtoealddommhgnabDoorTie.lean); close each card by the builder's one call (the guide's Derived/Test/ToyasCard.lean, 'card_holds'). Laid BY PROGRAM, IN A SANDBOX (cutbox-door.mjs). By AI agents, Wed Nov 11 2026. No macro, syntax, notation, axiom, sorry.
-/
import Derived.Test.YtoealddommhgnabDoorRows
import GoSem.ClaimSeven
namespace Go.Proofs.YtoealddommhgnabDoor
namespace Rows

/-- THE TIED CARD OF 'mummerlaw02.IsaTorn'. -/
def isaTornCard : Claim7 := { stood := { row := isaTornRow, standIns := [], harness := (true, "b5535cc89f79ead74fbfa3d1c9c6e7fd6ff38318b1f7a69967c6e4a9dc5bfff0"), looks := false }, kinds := [], alts := [], laidByText := true, laidKinds := [.data, .data], laidTests := true, laidLooks := .later }
def IsaTornCardSaid : Prop := Claim7.holds Tryd.pinned (.plain (OpenSpec.ofChange isaTornSpec)) isaTornCard

/-- THE TIED CARD OF 'mummerlaw02.IsaGuests'. -/
def isaGuestsCard : Claim7 := { stood := { row := isaGuestsRow, standIns := [], harness := (true, "b5535cc89f79ead74fbfa3d1c9c6e7fd6ff38318b1f7a69967c6e4a9dc5bfff0"), looks := false }, kinds := [], alts := [], laidByText := true, laidKinds := [.data, .data], laidTests := true, laidLooks := .later }
def IsaGuestsCardSaid : Prop := Claim7.holds Tryd.pinned (.plain (OpenSpec.ofChange isaGuestsSpec)) isaGuestsCard

/-- THE SECOND FORM's CARD OF 'mummerlaw02.IsaTorn'. -/
def isaTornUptoCard : Claim7 := { stood := { row := isaTornUptoRow, standIns := [], harness := (true, "b5535cc89f79ead74fbfa3d1c9c6e7fd6ff38318b1f7a69967c6e4a9dc5bfff0"), looks := false }, kinds := [], alts := [], laidByText := true, laidKinds := [.data, .data], laidTests := true, laidLooks := .later }
def IsaTornUptoCardSaid : Prop := Claim7.holds Tryd.pinned (.plain (OpenSpec.upto isaTornSpec)) isaTornUptoCard

/-- THE SECOND FORM's CARD OF 'mummerlaw02.IsaGuests'. -/
def isaGuestsUptoCard : Claim7 := { stood := { row := isaGuestsUptoRow, standIns := [], harness := (true, "b5535cc89f79ead74fbfa3d1c9c6e7fd6ff38318b1f7a69967c6e4a9dc5bfff0"), looks := false }, kinds := [], alts := [], laidByText := true, laidKinds := [.data, .data], laidTests := true, laidLooks := .later }
def IsaGuestsUptoCardSaid : Prop := Claim7.holds Tryd.pinned (.plain (OpenSpec.upto isaGuestsSpec)) isaGuestsUptoCard
end Rows
end Go.Proofs.YtoealddommhgnabDoor
