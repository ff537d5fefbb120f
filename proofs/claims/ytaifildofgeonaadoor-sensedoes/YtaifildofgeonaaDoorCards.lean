/-
  DERIVED. GIVEN WITH THE SEED: THE CARDS: each row of YtaifildofgeonaaDoorRows.lean that lists a variable, with what it lists TIED to the program's text (the seventh form; the later family's looks); each row that meets fmt, with fmt's text TOLD by the authors' own Lean function (tested against real Go, not proved from fmt's source: count such statements apart). THE CARD IS WHAT COUNTS. Prove the row's statement (the work); the ties are given (YtaifildofgeonaaDoorTie.lean); close each card by the builder's one call (the guide's Derived/Test/ToyasCard.lean, 'card_holds'). Laid BY PROGRAM, IN A SANDBOX (cutbox-door.mjs). By AI agents, Wed Nov 11 2026. No macro, syntax, notation, axiom, sorry.
-/
import Derived.Test.YtaifildofgeonaaDoorRows
import GoSem.ClaimSeven
namespace Go.Proofs.YtaifildofgeonaaDoor
namespace Rows

/-- THE TIED CARD OF 'mummerlaw09.SenseDoes'. -/
def senseDoesCard : Claim7 := { stood := { row := senseDoesRow, standIns := [], harness := (true, "baf850566fa753a49ad024ada06cee3c87df76e7abba7d25f322c6d5ca4e5fcd"), looks := false }, kinds := [], alts := [], laidByText := true, laidKinds := [.data, .data], laidTests := true, laidLooks := .later }
def SenseDoesCardSaid : Prop := Claim7.holds Tryd.pinned (.plain (OpenSpec.ofChange senseDoesSpec)) senseDoesCard

/-- THE TIED CARD OF 'mummerlaw09.SenseKept'. -/
def senseKeptCard : Claim7 := { stood := { row := senseKeptRow, standIns := [], harness := (true, "baf850566fa753a49ad024ada06cee3c87df76e7abba7d25f322c6d5ca4e5fcd"), looks := false }, kinds := [], alts := [], laidByText := true, laidKinds := [.data, .data], laidTests := true, laidLooks := .later }
def SenseKeptCardSaid : Prop := Claim7.holds Tryd.pinned (.plain (OpenSpec.ofChange senseKeptSpec)) senseKeptCard

/-- THE TIED CARD OF 'mummerlaw09.SenseSilent'. -/
def senseSilentCard : Claim7 := { stood := { row := senseSilentRow, standIns := [], harness := (true, "baf850566fa753a49ad024ada06cee3c87df76e7abba7d25f322c6d5ca4e5fcd"), looks := false }, kinds := [], alts := [], laidByText := true, laidKinds := [.data, .data], laidTests := true, laidLooks := .later }
def SenseSilentCardSaid : Prop := Claim7.holds Tryd.pinned (.plain (OpenSpec.ofChange senseSilentSpec)) senseSilentCard

/-- THE TIED CARD OF 'mummerlaw09.SenseUnlike'. -/
def senseUnlikeCard : Claim7 := { stood := { row := senseUnlikeRow, standIns := [], harness := (true, "baf850566fa753a49ad024ada06cee3c87df76e7abba7d25f322c6d5ca4e5fcd"), looks := false }, kinds := [], alts := [], laidByText := true, laidKinds := [.data, .data], laidTests := true, laidLooks := .later }
def SenseUnlikeCardSaid : Prop := Claim7.holds Tryd.pinned (.plain (OpenSpec.ofChange senseUnlikeSpec)) senseUnlikeCard

/-- THE TIED CARD OF 'mummerlaw09.SenseWrites'. -/
def senseWritesCard : Claim7 := { stood := { row := senseWritesRow, standIns := [], harness := (true, "baf850566fa753a49ad024ada06cee3c87df76e7abba7d25f322c6d5ca4e5fcd"), looks := false }, kinds := [], alts := [], laidByText := true, laidKinds := [.data, .data], laidTests := true, laidLooks := .later }
def SenseWritesCardSaid : Prop := Claim7.holds Tryd.pinned (.plain (OpenSpec.ofChange senseWritesSpec)) senseWritesCard

/-- THE TIED CARD OF 'mummerlaw09.SenseThere'. -/
def senseThereCard : Claim7 := { stood := { row := senseThereRow, standIns := [], harness := (true, "baf850566fa753a49ad024ada06cee3c87df76e7abba7d25f322c6d5ca4e5fcd"), looks := false }, kinds := [], alts := [], laidByText := true, laidKinds := [.data, .data], laidTests := true, laidLooks := .later }
def SenseThereCardSaid : Prop := Claim7.holds Tryd.pinned (.plain (OpenSpec.ofChange senseThereSpec)) senseThereCard

/-- THE SECOND FORM's CARD OF 'mummerlaw09.SenseDoes'. -/
def senseDoesUptoCard : Claim7 := { stood := { row := senseDoesUptoRow, standIns := [], harness := (true, "baf850566fa753a49ad024ada06cee3c87df76e7abba7d25f322c6d5ca4e5fcd"), looks := false }, kinds := [], alts := [], laidByText := true, laidKinds := [.data, .data], laidTests := true, laidLooks := .later }
def SenseDoesUptoCardSaid : Prop := Claim7.holds Tryd.pinned (.plain (OpenSpec.upto senseDoesSpec)) senseDoesUptoCard

/-- THE SECOND FORM's CARD OF 'mummerlaw09.SenseKept'. -/
def senseKeptUptoCard : Claim7 := { stood := { row := senseKeptUptoRow, standIns := [], harness := (true, "baf850566fa753a49ad024ada06cee3c87df76e7abba7d25f322c6d5ca4e5fcd"), looks := false }, kinds := [], alts := [], laidByText := true, laidKinds := [.data, .data], laidTests := true, laidLooks := .later }
def SenseKeptUptoCardSaid : Prop := Claim7.holds Tryd.pinned (.plain (OpenSpec.upto senseKeptSpec)) senseKeptUptoCard

/-- THE SECOND FORM's CARD OF 'mummerlaw09.SenseSilent'. -/
def senseSilentUptoCard : Claim7 := { stood := { row := senseSilentUptoRow, standIns := [], harness := (true, "baf850566fa753a49ad024ada06cee3c87df76e7abba7d25f322c6d5ca4e5fcd"), looks := false }, kinds := [], alts := [], laidByText := true, laidKinds := [.data, .data], laidTests := true, laidLooks := .later }
def SenseSilentUptoCardSaid : Prop := Claim7.holds Tryd.pinned (.plain (OpenSpec.upto senseSilentSpec)) senseSilentUptoCard

/-- THE SECOND FORM's CARD OF 'mummerlaw09.SenseUnlike'. -/
def senseUnlikeUptoCard : Claim7 := { stood := { row := senseUnlikeUptoRow, standIns := [], harness := (true, "baf850566fa753a49ad024ada06cee3c87df76e7abba7d25f322c6d5ca4e5fcd"), looks := false }, kinds := [], alts := [], laidByText := true, laidKinds := [.data, .data], laidTests := true, laidLooks := .later }
def SenseUnlikeUptoCardSaid : Prop := Claim7.holds Tryd.pinned (.plain (OpenSpec.upto senseUnlikeSpec)) senseUnlikeUptoCard

/-- THE SECOND FORM's CARD OF 'mummerlaw09.SenseWrites'. -/
def senseWritesUptoCard : Claim7 := { stood := { row := senseWritesUptoRow, standIns := [], harness := (true, "baf850566fa753a49ad024ada06cee3c87df76e7abba7d25f322c6d5ca4e5fcd"), looks := false }, kinds := [], alts := [], laidByText := true, laidKinds := [.data, .data], laidTests := true, laidLooks := .later }
def SenseWritesUptoCardSaid : Prop := Claim7.holds Tryd.pinned (.plain (OpenSpec.upto senseWritesSpec)) senseWritesUptoCard

/-- THE SECOND FORM's CARD OF 'mummerlaw09.SenseThere'. -/
def senseThereUptoCard : Claim7 := { stood := { row := senseThereUptoRow, standIns := [], harness := (true, "baf850566fa753a49ad024ada06cee3c87df76e7abba7d25f322c6d5ca4e5fcd"), looks := false }, kinds := [], alts := [], laidByText := true, laidKinds := [.data, .data], laidTests := true, laidLooks := .later }
def SenseThereUptoCardSaid : Prop := Claim7.holds Tryd.pinned (.plain (OpenSpec.upto senseThereSpec)) senseThereUptoCard
end Rows
end Go.Proofs.YtaifildofgeonaaDoor
