/-
  DERIVED. GIVEN WITH THE SEED: THE CARDS: each row of YtfpknklibiigfaaDoorRows.lean that lists a variable, with what it lists TIED to the program's text (the seventh form; the later family's looks); each row that meets fmt, with fmt's text TOLD by the authors' own Lean function (tested against real Go, not proved from fmt's source: count such statements apart). THE CARD IS WHAT COUNTS. Prove the row's statement (the work); the ties are given (YtfpknklibiigfaaDoorTie.lean); close each card by the builder's one call (the guide's Derived/Test/ToyasCard.lean, 'card_holds'). Laid BY PROGRAM, IN A SANDBOX (cutbox-door.mjs). By AI agents, Wed Nov 11 2026. No macro, syntax, notation, axiom, sorry.
-/
import Derived.Test.YtfpknklibiigfaaDoorRows
import GoSem.ClaimSeven
namespace Go.Proofs.YtfpknklibiigfaaDoor
namespace Rows

/-- THE TIED CARD OF 'mummerlaw19.StubMakes'. -/
def stubMakesCard : Claim7 := { stood := { row := stubMakesRow, standIns := [], harness := (true, "676b17985a43b2066e486873b87786ea447950c48d3136ce4c60c0da833c37cb"), looks := true }, kinds := [], alts := [], laidByText := true, laidKinds := [.data, .data], laidTests := true, laidLooks := .later }
def StubMakesCardSaid : Prop := Claim7.holds Tryd.pinned (.plain (OpenSpec.ofChange stubMakesSpec)) stubMakesCard

/-- THE TIED CARD OF 'mummerlaw19.StubJumps'. -/
def stubJumpsCard : Claim7 := { stood := { row := stubJumpsRow, standIns := [], harness := (true, "676b17985a43b2066e486873b87786ea447950c48d3136ce4c60c0da833c37cb"), looks := true }, kinds := [], alts := [], laidByText := true, laidKinds := [.data, .data], laidTests := true, laidLooks := .later }
def StubJumpsCardSaid : Prop := Claim7.holds Tryd.pinned (.plain (OpenSpec.ofChange stubJumpsSpec)) stubJumpsCard

/-- THE TIED CARD OF 'mummerlaw19.StubReads'. -/
def stubReadsCard : Claim7 := { stood := { row := stubReadsRow, standIns := [], harness := (true, "676b17985a43b2066e486873b87786ea447950c48d3136ce4c60c0da833c37cb"), looks := true }, kinds := [], alts := [], laidByText := true, laidKinds := [.data, .data], laidTests := true, laidLooks := .later }
def StubReadsCardSaid : Prop := Claim7.holds Tryd.pinned (.plain (OpenSpec.ofChange stubReadsSpec)) stubReadsCard

/-- THE TIED CARD OF 'mummerlaw19.StubBack'. -/
def stubBackCard : Claim7 := { stood := { row := stubBackRow, standIns := [], harness := (true, "676b17985a43b2066e486873b87786ea447950c48d3136ce4c60c0da833c37cb"), looks := true }, kinds := [], alts := [], laidByText := true, laidKinds := [.data, .data], laidTests := true, laidLooks := .later }
def StubBackCardSaid : Prop := Claim7.holds Tryd.pinned (.plain (OpenSpec.ofChange stubBackSpec)) stubBackCard

/-- THE TIED CARD OF 'mummerlaw19.StubLeads'. -/
def stubLeadsCard : Claim7 := { stood := { row := stubLeadsRow, standIns := [], harness := (true, "676b17985a43b2066e486873b87786ea447950c48d3136ce4c60c0da833c37cb"), looks := true }, kinds := [], alts := [], laidByText := true, laidKinds := [.data, .data], laidTests := true, laidLooks := .later }
def StubLeadsCardSaid : Prop := Claim7.holds Tryd.pinned (.plain (OpenSpec.ofChange stubLeadsSpec)) stubLeadsCard

/-- THE SECOND FORM's CARD OF 'mummerlaw19.StubMakes'. -/
def stubMakesUptoCard : Claim7 := { stood := { row := stubMakesUptoRow, standIns := [], harness := (true, "676b17985a43b2066e486873b87786ea447950c48d3136ce4c60c0da833c37cb"), looks := true }, kinds := [], alts := [], laidByText := true, laidKinds := [.data, .data], laidTests := true, laidLooks := .later }
def StubMakesUptoCardSaid : Prop := Claim7.holds Tryd.pinned (.plain (OpenSpec.upto stubMakesSpec)) stubMakesUptoCard

/-- THE SECOND FORM's CARD OF 'mummerlaw19.StubJumps'. -/
def stubJumpsUptoCard : Claim7 := { stood := { row := stubJumpsUptoRow, standIns := [], harness := (true, "676b17985a43b2066e486873b87786ea447950c48d3136ce4c60c0da833c37cb"), looks := true }, kinds := [], alts := [], laidByText := true, laidKinds := [.data, .data], laidTests := true, laidLooks := .later }
def StubJumpsUptoCardSaid : Prop := Claim7.holds Tryd.pinned (.plain (OpenSpec.upto stubJumpsSpec)) stubJumpsUptoCard

/-- THE SECOND FORM's CARD OF 'mummerlaw19.StubReads'. -/
def stubReadsUptoCard : Claim7 := { stood := { row := stubReadsUptoRow, standIns := [], harness := (true, "676b17985a43b2066e486873b87786ea447950c48d3136ce4c60c0da833c37cb"), looks := true }, kinds := [], alts := [], laidByText := true, laidKinds := [.data, .data], laidTests := true, laidLooks := .later }
def StubReadsUptoCardSaid : Prop := Claim7.holds Tryd.pinned (.plain (OpenSpec.upto stubReadsSpec)) stubReadsUptoCard

/-- THE SECOND FORM's CARD OF 'mummerlaw19.StubBack'. -/
def stubBackUptoCard : Claim7 := { stood := { row := stubBackUptoRow, standIns := [], harness := (true, "676b17985a43b2066e486873b87786ea447950c48d3136ce4c60c0da833c37cb"), looks := true }, kinds := [], alts := [], laidByText := true, laidKinds := [.data, .data], laidTests := true, laidLooks := .later }
def StubBackUptoCardSaid : Prop := Claim7.holds Tryd.pinned (.plain (OpenSpec.upto stubBackSpec)) stubBackUptoCard

/-- THE SECOND FORM's CARD OF 'mummerlaw19.StubLeads'. -/
def stubLeadsUptoCard : Claim7 := { stood := { row := stubLeadsUptoRow, standIns := [], harness := (true, "676b17985a43b2066e486873b87786ea447950c48d3136ce4c60c0da833c37cb"), looks := true }, kinds := [], alts := [], laidByText := true, laidKinds := [.data, .data], laidTests := true, laidLooks := .later }
def StubLeadsUptoCardSaid : Prop := Claim7.holds Tryd.pinned (.plain (OpenSpec.upto stubLeadsSpec)) stubLeadsUptoCard
end Rows
end Go.Proofs.YtfpknklibiigfaaDoor
