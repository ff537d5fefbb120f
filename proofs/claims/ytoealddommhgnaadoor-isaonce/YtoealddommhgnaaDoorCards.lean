/-
  DERIVED. GIVEN WITH THE SEED: THE CARDS: each row of YtoealddommhgnaaDoorRows.lean that lists a variable, with what it lists TIED to the program's text (the seventh form; the later family's looks); each row that meets fmt, with fmt's text TOLD by the authors' own Lean function (tested against real Go, not proved from fmt's source: count such statements apart). THE CARD IS WHAT COUNTS. Prove the row's statement (the work); the ties are given (YtoealddommhgnaaDoorTie.lean); close each card by the builder's one call (the guide's Derived/Test/ToyasCard.lean, 'card_holds'). Laid BY PROGRAM, IN A SANDBOX (cutbox-door.mjs). By AI agents, Wed Nov 11 2026. No macro, syntax, notation, axiom, sorry.
-/
import Derived.Test.YtoealddommhgnaaDoorRows
import GoSem.ClaimSeven
namespace Go.Proofs.YtoealddommhgnaaDoor
namespace Rows

/-- THE TIED CARD OF 'mummerlaw02.IsaSizes'. -/
def isaSizesCard : Claim7 := { stood := { row := isaSizesRow, standIns := [], harness := (true, "4a4c378768b5a2fc616b7a386bed56ba70b6b05b59bcd584326e4ab8cf124c1f"), looks := false }, kinds := [], alts := [], laidByText := true, laidKinds := [.data, .data], laidTests := true, laidLooks := .later }
def IsaSizesCardSaid : Prop := Claim7.holds Tryd.pinned (.plain (OpenSpec.ofChange isaSizesSpec)) isaSizesCard

/-- THE TIED CARD OF 'mummerlaw02.IsaMays'. -/
def isaMaysCard : Claim7 := { stood := { row := isaMaysRow, standIns := [], harness := (true, "4a4c378768b5a2fc616b7a386bed56ba70b6b05b59bcd584326e4ab8cf124c1f"), looks := false }, kinds := [], alts := [], laidByText := true, laidKinds := [.data, .data], laidTests := true, laidLooks := .later }
def IsaMaysCardSaid : Prop := Claim7.holds Tryd.pinned (.plain (OpenSpec.ofChange isaMaysSpec)) isaMaysCard

/-- THE TIED CARD OF 'mummerlaw02.IsaEncodes'. -/
def isaEncodesCard : Claim7 := { stood := { row := isaEncodesRow, standIns := [], harness := (true, "4a4c378768b5a2fc616b7a386bed56ba70b6b05b59bcd584326e4ab8cf124c1f"), looks := false }, kinds := [], alts := [], laidByText := true, laidKinds := [.data, .data], laidTests := true, laidLooks := .later }
def IsaEncodesCardSaid : Prop := Claim7.holds Tryd.pinned (.plain (OpenSpec.ofChange isaEncodesSpec)) isaEncodesCard

/-- THE TIED CARD OF 'mummerlaw02.IsaDecodes'. -/
def isaDecodesCard : Claim7 := { stood := { row := isaDecodesRow, standIns := [], harness := (true, "4a4c378768b5a2fc616b7a386bed56ba70b6b05b59bcd584326e4ab8cf124c1f"), looks := false }, kinds := [], alts := [], laidByText := true, laidKinds := [.data, .data], laidTests := true, laidLooks := .later }
def IsaDecodesCardSaid : Prop := Claim7.holds Tryd.pinned (.plain (OpenSpec.ofChange isaDecodesSpec)) isaDecodesCard

/-- THE TIED CARD OF 'mummerlaw02.IsaBack'. -/
def isaBackCard : Claim7 := { stood := { row := isaBackRow, standIns := [], harness := (true, "4a4c378768b5a2fc616b7a386bed56ba70b6b05b59bcd584326e4ab8cf124c1f"), looks := false }, kinds := [], alts := [], laidByText := true, laidKinds := [.data, .data], laidTests := true, laidLooks := .later }
def IsaBackCardSaid : Prop := Claim7.holds Tryd.pinned (.plain (OpenSpec.ofChange isaBackSpec)) isaBackCard

/-- THE TIED CARD OF 'mummerlaw02.IsaOnce'. -/
def isaOnceCard : Claim7 := { stood := { row := isaOnceRow, standIns := [], harness := (true, "4a4c378768b5a2fc616b7a386bed56ba70b6b05b59bcd584326e4ab8cf124c1f"), looks := false }, kinds := [], alts := [], laidByText := true, laidKinds := [.data, .data], laidTests := true, laidLooks := .later }
def IsaOnceCardSaid : Prop := Claim7.holds Tryd.pinned (.plain (OpenSpec.ofChange isaOnceSpec)) isaOnceCard

/-- THE SECOND FORM's CARD OF 'mummerlaw02.IsaSizes'. -/
def isaSizesUptoCard : Claim7 := { stood := { row := isaSizesUptoRow, standIns := [], harness := (true, "4a4c378768b5a2fc616b7a386bed56ba70b6b05b59bcd584326e4ab8cf124c1f"), looks := false }, kinds := [], alts := [], laidByText := true, laidKinds := [.data, .data], laidTests := true, laidLooks := .later }
def IsaSizesUptoCardSaid : Prop := Claim7.holds Tryd.pinned (.plain (OpenSpec.upto isaSizesSpec)) isaSizesUptoCard

/-- THE SECOND FORM's CARD OF 'mummerlaw02.IsaMays'. -/
def isaMaysUptoCard : Claim7 := { stood := { row := isaMaysUptoRow, standIns := [], harness := (true, "4a4c378768b5a2fc616b7a386bed56ba70b6b05b59bcd584326e4ab8cf124c1f"), looks := false }, kinds := [], alts := [], laidByText := true, laidKinds := [.data, .data], laidTests := true, laidLooks := .later }
def IsaMaysUptoCardSaid : Prop := Claim7.holds Tryd.pinned (.plain (OpenSpec.upto isaMaysSpec)) isaMaysUptoCard

/-- THE SECOND FORM's CARD OF 'mummerlaw02.IsaEncodes'. -/
def isaEncodesUptoCard : Claim7 := { stood := { row := isaEncodesUptoRow, standIns := [], harness := (true, "4a4c378768b5a2fc616b7a386bed56ba70b6b05b59bcd584326e4ab8cf124c1f"), looks := false }, kinds := [], alts := [], laidByText := true, laidKinds := [.data, .data], laidTests := true, laidLooks := .later }
def IsaEncodesUptoCardSaid : Prop := Claim7.holds Tryd.pinned (.plain (OpenSpec.upto isaEncodesSpec)) isaEncodesUptoCard

/-- THE SECOND FORM's CARD OF 'mummerlaw02.IsaDecodes'. -/
def isaDecodesUptoCard : Claim7 := { stood := { row := isaDecodesUptoRow, standIns := [], harness := (true, "4a4c378768b5a2fc616b7a386bed56ba70b6b05b59bcd584326e4ab8cf124c1f"), looks := false }, kinds := [], alts := [], laidByText := true, laidKinds := [.data, .data], laidTests := true, laidLooks := .later }
def IsaDecodesUptoCardSaid : Prop := Claim7.holds Tryd.pinned (.plain (OpenSpec.upto isaDecodesSpec)) isaDecodesUptoCard

/-- THE SECOND FORM's CARD OF 'mummerlaw02.IsaBack'. -/
def isaBackUptoCard : Claim7 := { stood := { row := isaBackUptoRow, standIns := [], harness := (true, "4a4c378768b5a2fc616b7a386bed56ba70b6b05b59bcd584326e4ab8cf124c1f"), looks := false }, kinds := [], alts := [], laidByText := true, laidKinds := [.data, .data], laidTests := true, laidLooks := .later }
def IsaBackUptoCardSaid : Prop := Claim7.holds Tryd.pinned (.plain (OpenSpec.upto isaBackSpec)) isaBackUptoCard

/-- THE SECOND FORM's CARD OF 'mummerlaw02.IsaOnce'. -/
def isaOnceUptoCard : Claim7 := { stood := { row := isaOnceUptoRow, standIns := [], harness := (true, "4a4c378768b5a2fc616b7a386bed56ba70b6b05b59bcd584326e4ab8cf124c1f"), looks := false }, kinds := [], alts := [], laidByText := true, laidKinds := [.data, .data], laidTests := true, laidLooks := .later }
def IsaOnceUptoCardSaid : Prop := Claim7.holds Tryd.pinned (.plain (OpenSpec.upto isaOnceSpec)) isaOnceUptoCard
end Rows
end Go.Proofs.YtoealddommhgnaaDoor
