/-
  DERIVED. GIVEN WITH THE SEED: THE CARDS: each row of YtjmcbohjkdbkbabDoorRows.lean that lists a variable, with what it lists TIED to the program's text (the seventh form; the later family's looks); each row that meets fmt, with fmt's text TOLD by the authors' own Lean function (tested against real Go, not proved from fmt's source: count such statements apart). THE CARD IS WHAT COUNTS. Prove the row's statement (the work); the ties are given (YtjmcbohjkdbkbabDoorTie.lean); close each card by the builder's one call (the guide's Derived/Test/ToyasCard.lean, 'card_holds'). Laid BY PROGRAM, IN A SANDBOX (cutbox-door.mjs). By AI agents, Wed Nov 11 2026. No macro, syntax, notation, axiom, sorry.
-/
import Derived.Test.YtjmcbohjkdbkbabDoorRows
import GoSem.ClaimSeven
namespace Go.Proofs.YtjmcbohjkdbkbabDoor
namespace Rows

/-- THE TIED CARD OF 'mummerlaw08.CoreTwice'. -/
def coreTwiceCard : Claim7 := { stood := { row := coreTwiceRow, standIns := [], harness := (true, "8199d2ce18c1b7067dafbfa0849df3f44d833cbb785cc99704d14c2d1d173bf7"), looks := true }, kinds := [], alts := [], laidByText := true, laidKinds := [.data, .data], laidTests := true, laidLooks := .later }
def CoreTwiceCardSaid : Prop := Claim7.holds Tryd.pinned (.plain (OpenSpec.ofChange coreTwiceSpec)) coreTwiceCard

/-- THE SECOND FORM's CARD OF 'mummerlaw08.CoreTwice'. -/
def coreTwiceUptoCard : Claim7 := { stood := { row := coreTwiceUptoRow, standIns := [], harness := (true, "8199d2ce18c1b7067dafbfa0849df3f44d833cbb785cc99704d14c2d1d173bf7"), looks := true }, kinds := [], alts := [], laidByText := true, laidKinds := [.data, .data], laidTests := true, laidLooks := .later }
def CoreTwiceUptoCardSaid : Prop := Claim7.holds Tryd.pinned (.plain (OpenSpec.upto coreTwiceSpec)) coreTwiceUptoCard
end Rows
end Go.Proofs.YtjmcbohjkdbkbabDoor
