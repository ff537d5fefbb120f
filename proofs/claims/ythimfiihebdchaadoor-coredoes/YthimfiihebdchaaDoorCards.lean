/-
  DERIVED. GIVEN WITH THE SEED: THE CARDS: each row of YthimfiihebdchaaDoorRows.lean that lists a variable, with what it lists TIED to the program's text (the seventh form; the later family's looks); each row that meets fmt, with fmt's text TOLD by the authors' own Lean function (tested against real Go, not proved from fmt's source: count such statements apart). THE CARD IS WHAT COUNTS. Prove the row's statement (the work); the ties are given (YthimfiihebdchaaDoorTie.lean); close each card by the builder's one call (the guide's Derived/Test/ToyasCard.lean, 'card_holds'). Laid BY PROGRAM, IN A SANDBOX (cutbox-door.mjs). By AI agents, Wed Nov 11 2026. No macro, syntax, notation, axiom, sorry.
-/
import Derived.Test.YthimfiihebdchaaDoorRows
import GoSem.ClaimSeven
namespace Go.Proofs.YthimfiihebdchaaDoor
namespace Rows

/-- THE TIED CARD OF 'mummerlaw08.CoreDoes'. -/
def coreDoesCard : Claim7 := { stood := { row := coreDoesRow, standIns := [], harness := (true, "2bcc0824d619e8c67320b99d0bf971240e676c02cfe121847ce425082ccf7521"), looks := true }, kinds := [], alts := [], laidByText := true, laidKinds := [.data, .data], laidTests := true, laidLooks := .later }
def CoreDoesCardSaid : Prop := Claim7.holds Tryd.pinned (.plain (OpenSpec.ofChange coreDoesSpec)) coreDoesCard

/-- THE TIED CARD OF 'mummerlaw08.CoreFails'. -/
def coreFailsCard : Claim7 := { stood := { row := coreFailsRow, standIns := [], harness := (true, "2bcc0824d619e8c67320b99d0bf971240e676c02cfe121847ce425082ccf7521"), looks := true }, kinds := [], alts := [], laidByText := true, laidKinds := [.data, .data], laidTests := true, laidLooks := .later }
def CoreFailsCardSaid : Prop := Claim7.holds Tryd.pinned (.plain (OpenSpec.ofChange coreFailsSpec)) coreFailsCard

/-- THE TIED CARD OF 'mummerlaw08.CoreWrites'. -/
def coreWritesCard : Claim7 := { stood := { row := coreWritesRow, standIns := [], harness := (true, "2bcc0824d619e8c67320b99d0bf971240e676c02cfe121847ce425082ccf7521"), looks := true }, kinds := [], alts := [], laidByText := true, laidKinds := [.data, .data], laidTests := true, laidLooks := .later }
def CoreWritesCardSaid : Prop := Claim7.holds Tryd.pinned (.plain (OpenSpec.ofChange coreWritesSpec)) coreWritesCard

/-- THE TIED CARD OF 'mummerlaw08.CoreReads'. -/
def coreReadsCard : Claim7 := { stood := { row := coreReadsRow, standIns := [], harness := (true, "2bcc0824d619e8c67320b99d0bf971240e676c02cfe121847ce425082ccf7521"), looks := true }, kinds := [], alts := [], laidByText := true, laidKinds := [.data, .data], laidTests := true, laidLooks := .later }
def CoreReadsCardSaid : Prop := Claim7.holds Tryd.pinned (.plain (OpenSpec.ofChange coreReadsSpec)) coreReadsCard

/-- THE TIED CARD OF 'mummerlaw08.CoreNext'. -/
def coreNextCard : Claim7 := { stood := { row := coreNextRow, standIns := [], harness := (true, "2bcc0824d619e8c67320b99d0bf971240e676c02cfe121847ce425082ccf7521"), looks := true }, kinds := [], alts := [], laidByText := true, laidKinds := [.data, .data], laidTests := true, laidLooks := .later }
def CoreNextCardSaid : Prop := Claim7.holds Tryd.pinned (.plain (OpenSpec.ofChange coreNextSpec)) coreNextCard

/-- THE SECOND FORM's CARD OF 'mummerlaw08.CoreDoes'. -/
def coreDoesUptoCard : Claim7 := { stood := { row := coreDoesUptoRow, standIns := [], harness := (true, "2bcc0824d619e8c67320b99d0bf971240e676c02cfe121847ce425082ccf7521"), looks := true }, kinds := [], alts := [], laidByText := true, laidKinds := [.data, .data], laidTests := true, laidLooks := .later }
def CoreDoesUptoCardSaid : Prop := Claim7.holds Tryd.pinned (.plain (OpenSpec.upto coreDoesSpec)) coreDoesUptoCard

/-- THE SECOND FORM's CARD OF 'mummerlaw08.CoreFails'. -/
def coreFailsUptoCard : Claim7 := { stood := { row := coreFailsUptoRow, standIns := [], harness := (true, "2bcc0824d619e8c67320b99d0bf971240e676c02cfe121847ce425082ccf7521"), looks := true }, kinds := [], alts := [], laidByText := true, laidKinds := [.data, .data], laidTests := true, laidLooks := .later }
def CoreFailsUptoCardSaid : Prop := Claim7.holds Tryd.pinned (.plain (OpenSpec.upto coreFailsSpec)) coreFailsUptoCard

/-- THE SECOND FORM's CARD OF 'mummerlaw08.CoreWrites'. -/
def coreWritesUptoCard : Claim7 := { stood := { row := coreWritesUptoRow, standIns := [], harness := (true, "2bcc0824d619e8c67320b99d0bf971240e676c02cfe121847ce425082ccf7521"), looks := true }, kinds := [], alts := [], laidByText := true, laidKinds := [.data, .data], laidTests := true, laidLooks := .later }
def CoreWritesUptoCardSaid : Prop := Claim7.holds Tryd.pinned (.plain (OpenSpec.upto coreWritesSpec)) coreWritesUptoCard

/-- THE SECOND FORM's CARD OF 'mummerlaw08.CoreReads'. -/
def coreReadsUptoCard : Claim7 := { stood := { row := coreReadsUptoRow, standIns := [], harness := (true, "2bcc0824d619e8c67320b99d0bf971240e676c02cfe121847ce425082ccf7521"), looks := true }, kinds := [], alts := [], laidByText := true, laidKinds := [.data, .data], laidTests := true, laidLooks := .later }
def CoreReadsUptoCardSaid : Prop := Claim7.holds Tryd.pinned (.plain (OpenSpec.upto coreReadsSpec)) coreReadsUptoCard

/-- THE SECOND FORM's CARD OF 'mummerlaw08.CoreNext'. -/
def coreNextUptoCard : Claim7 := { stood := { row := coreNextUptoRow, standIns := [], harness := (true, "2bcc0824d619e8c67320b99d0bf971240e676c02cfe121847ce425082ccf7521"), looks := true }, kinds := [], alts := [], laidByText := true, laidKinds := [.data, .data], laidTests := true, laidLooks := .later }
def CoreNextUptoCardSaid : Prop := Claim7.holds Tryd.pinned (.plain (OpenSpec.upto coreNextSpec)) coreNextUptoCard
end Rows
end Go.Proofs.YthimfiihebdchaaDoor
