/-
  DERIVED. GIVEN WITH THE SEED: THE CARDS: each row of YtaknjceneplonaaDoorRows.lean that lists a variable, with what it lists TIED to the program's text (the seventh form; the later family's looks); each row that meets fmt, with fmt's text TOLD by the authors' own Lean function (tested against real Go, not proved from fmt's source: count such statements apart). THE CARD IS WHAT COUNTS. Prove the row's statement (the work); the ties are given (YtaknjceneplonaaDoorTie.lean); close each card by the builder's one call (the guide's Derived/Test/ToyasCard.lean, 'card_holds'). Laid BY PROGRAM, IN A SANDBOX (cutbox-door.mjs). By AI agents, Wed Nov 11 2026. No macro, syntax, notation, axiom, sorry.
-/
import Derived.Test.YtaknjceneplonaaDoorRows
import GoSem.ClaimSeven
namespace Go.Proofs.YtaknjceneplonaaDoor
namespace Rows

/-- THE TIED CARD OF 'mummerlaw10.TrapBacks'. -/
def trapBacksCard : Claim7 := { stood := { row := trapBacksRow, standIns := [], harness := (true, "56ceb7756856c49f676438e5435230632be4030e46b5e5443083d634176f949c"), looks := false }, kinds := [], alts := [], laidByText := true, laidKinds := [.data, .data], laidTests := true, laidLooks := .later }
def TrapBacksCardSaid : Prop := Claim7.holds Tryd.pinned (.plain (OpenSpec.ofChange trapBacksSpec)) trapBacksCard

/-- THE TIED CARD OF 'mummerlaw10.TrapReturns'. -/
def trapReturnsCard : Claim7 := { stood := { row := trapReturnsRow, standIns := [], harness := (true, "56ceb7756856c49f676438e5435230632be4030e46b5e5443083d634176f949c"), looks := false }, kinds := [], alts := [], laidByText := true, laidKinds := [.data, .data], laidTests := true, laidLooks := .later }
def TrapReturnsCardSaid : Prop := Claim7.holds Tryd.pinned (.plain (OpenSpec.ofChange trapReturnsSpec)) trapReturnsCard

/-- THE TIED CARD OF 'mummerlaw10.TrapAsked'. -/
def trapAskedCard : Claim7 := { stood := { row := trapAskedRow, standIns := [], harness := (true, "56ceb7756856c49f676438e5435230632be4030e46b5e5443083d634176f949c"), looks := false }, kinds := [], alts := [], laidByText := true, laidKinds := [.data, .data], laidTests := true, laidLooks := .later }
def TrapAskedCardSaid : Prop := Claim7.holds Tryd.pinned (.plain (OpenSpec.ofChange trapAskedSpec)) trapAskedCard

/-- THE SECOND FORM's CARD OF 'mummerlaw10.TrapBacks'. -/
def trapBacksUptoCard : Claim7 := { stood := { row := trapBacksUptoRow, standIns := [], harness := (true, "56ceb7756856c49f676438e5435230632be4030e46b5e5443083d634176f949c"), looks := false }, kinds := [], alts := [], laidByText := true, laidKinds := [.data, .data], laidTests := true, laidLooks := .later }
def TrapBacksUptoCardSaid : Prop := Claim7.holds Tryd.pinned (.plain (OpenSpec.upto trapBacksSpec)) trapBacksUptoCard

/-- THE SECOND FORM's CARD OF 'mummerlaw10.TrapReturns'. -/
def trapReturnsUptoCard : Claim7 := { stood := { row := trapReturnsUptoRow, standIns := [], harness := (true, "56ceb7756856c49f676438e5435230632be4030e46b5e5443083d634176f949c"), looks := false }, kinds := [], alts := [], laidByText := true, laidKinds := [.data, .data], laidTests := true, laidLooks := .later }
def TrapReturnsUptoCardSaid : Prop := Claim7.holds Tryd.pinned (.plain (OpenSpec.upto trapReturnsSpec)) trapReturnsUptoCard

/-- THE SECOND FORM's CARD OF 'mummerlaw10.TrapAsked'. -/
def trapAskedUptoCard : Claim7 := { stood := { row := trapAskedUptoRow, standIns := [], harness := (true, "56ceb7756856c49f676438e5435230632be4030e46b5e5443083d634176f949c"), looks := false }, kinds := [], alts := [], laidByText := true, laidKinds := [.data, .data], laidTests := true, laidLooks := .later }
def TrapAskedUptoCardSaid : Prop := Claim7.holds Tryd.pinned (.plain (OpenSpec.upto trapAskedSpec)) trapAskedUptoCard
end Rows
end Go.Proofs.YtaknjceneplonaaDoor
