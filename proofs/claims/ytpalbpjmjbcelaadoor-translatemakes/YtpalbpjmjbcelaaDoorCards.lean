/-
  DERIVED. GIVEN WITH THE SEED: THE CARDS: each row of YtpalbpjmjbcelaaDoorRows.lean that lists a variable, with what it lists TIED to the program's text (the seventh form; the later family's looks); each row that meets fmt, with fmt's text TOLD by the authors' own Lean function (tested against real Go, not proved from fmt's source: count such statements apart). THE CARD IS WHAT COUNTS. Prove the row's statement (the work); the ties are given (YtpalbpjmjbcelaaDoorTie.lean); close each card by the builder's one call (the guide's Derived/Test/ToyasCard.lean, 'card_holds'). Laid BY PROGRAM, IN A SANDBOX (cutbox-door.mjs). By AI agents, Wed Nov 11 2026. No macro, syntax, notation, axiom, sorry.
-/
import Derived.Test.YtpalbpjmjbcelaaDoorRows
import GoSem.ClaimSeven
namespace Go.Proofs.YtpalbpjmjbcelaaDoor
namespace Rows

/-- THE TIED CARD OF 'mummerlaw20.TranslateMays'. -/
def translateMaysCard : Claim7 := { stood := { row := translateMaysRow, standIns := [], harness := (true, "69482087f36a3cba66cc0542b4e91fc553cdd2ce9722dae708e01783fddc43ec"), looks := true }, kinds := [], alts := [], laidByText := true, laidKinds := [.data, .data], laidTests := true, laidLooks := .later }
def TranslateMaysCardSaid : Prop := Claim7.holds Tryd.pinned (.plain (OpenSpec.ofChange translateMaysSpec)) translateMaysCard

/-- THE TIED CARD OF 'mummerlaw20.TranslateMakes'. -/
def translateMakesCard : Claim7 := { stood := { row := translateMakesRow, standIns := [], harness := (true, "69482087f36a3cba66cc0542b4e91fc553cdd2ce9722dae708e01783fddc43ec"), looks := true }, kinds := [], alts := [], laidByText := true, laidKinds := [.data, .data], laidTests := true, laidLooks := .later }
def TranslateMakesCardSaid : Prop := Claim7.holds Tryd.pinned (.plain (OpenSpec.ofChange translateMakesSpec)) translateMakesCard

/-- THE TIED CARD OF 'mummerlaw20.TranslateRows'. -/
def translateRowsCard : Claim7 := { stood := { row := translateRowsRow, standIns := [], harness := (true, "69482087f36a3cba66cc0542b4e91fc553cdd2ce9722dae708e01783fddc43ec"), looks := true }, kinds := [], alts := [], laidByText := true, laidKinds := [.data, .data], laidTests := true, laidLooks := .later }
def TranslateRowsCardSaid : Prop := Claim7.holds Tryd.pinned (.plain (OpenSpec.ofChange translateRowsSpec)) translateRowsCard

/-- THE TIED CARD OF 'mummerlaw20.TranslateCounts'. -/
def translateCountsCard : Claim7 := { stood := { row := translateCountsRow, standIns := [], harness := (true, "69482087f36a3cba66cc0542b4e91fc553cdd2ce9722dae708e01783fddc43ec"), looks := true }, kinds := [], alts := [], laidByText := true, laidKinds := [.data, .data], laidTests := true, laidLooks := .later }
def TranslateCountsCardSaid : Prop := Claim7.holds Tryd.pinned (.plain (OpenSpec.ofChange translateCountsSpec)) translateCountsCard

/-- THE TIED CARD OF 'mummerlaw20.TranslateSafe'. -/
def translateSafeCard : Claim7 := { stood := { row := translateSafeRow, standIns := [], harness := (true, "69482087f36a3cba66cc0542b4e91fc553cdd2ce9722dae708e01783fddc43ec"), looks := true }, kinds := [], alts := [], laidByText := true, laidKinds := [.data, .data], laidTests := true, laidLooks := .later }
def TranslateSafeCardSaid : Prop := Claim7.holds Tryd.pinned (.plain (OpenSpec.ofChange translateSafeSpec)) translateSafeCard

/-- THE SECOND FORM's CARD OF 'mummerlaw20.TranslateMays'. -/
def translateMaysUptoCard : Claim7 := { stood := { row := translateMaysUptoRow, standIns := [], harness := (true, "69482087f36a3cba66cc0542b4e91fc553cdd2ce9722dae708e01783fddc43ec"), looks := true }, kinds := [], alts := [], laidByText := true, laidKinds := [.data, .data], laidTests := true, laidLooks := .later }
def TranslateMaysUptoCardSaid : Prop := Claim7.holds Tryd.pinned (.plain (OpenSpec.upto translateMaysSpec)) translateMaysUptoCard

/-- THE SECOND FORM's CARD OF 'mummerlaw20.TranslateMakes'. -/
def translateMakesUptoCard : Claim7 := { stood := { row := translateMakesUptoRow, standIns := [], harness := (true, "69482087f36a3cba66cc0542b4e91fc553cdd2ce9722dae708e01783fddc43ec"), looks := true }, kinds := [], alts := [], laidByText := true, laidKinds := [.data, .data], laidTests := true, laidLooks := .later }
def TranslateMakesUptoCardSaid : Prop := Claim7.holds Tryd.pinned (.plain (OpenSpec.upto translateMakesSpec)) translateMakesUptoCard

/-- THE SECOND FORM's CARD OF 'mummerlaw20.TranslateRows'. -/
def translateRowsUptoCard : Claim7 := { stood := { row := translateRowsUptoRow, standIns := [], harness := (true, "69482087f36a3cba66cc0542b4e91fc553cdd2ce9722dae708e01783fddc43ec"), looks := true }, kinds := [], alts := [], laidByText := true, laidKinds := [.data, .data], laidTests := true, laidLooks := .later }
def TranslateRowsUptoCardSaid : Prop := Claim7.holds Tryd.pinned (.plain (OpenSpec.upto translateRowsSpec)) translateRowsUptoCard

/-- THE SECOND FORM's CARD OF 'mummerlaw20.TranslateCounts'. -/
def translateCountsUptoCard : Claim7 := { stood := { row := translateCountsUptoRow, standIns := [], harness := (true, "69482087f36a3cba66cc0542b4e91fc553cdd2ce9722dae708e01783fddc43ec"), looks := true }, kinds := [], alts := [], laidByText := true, laidKinds := [.data, .data], laidTests := true, laidLooks := .later }
def TranslateCountsUptoCardSaid : Prop := Claim7.holds Tryd.pinned (.plain (OpenSpec.upto translateCountsSpec)) translateCountsUptoCard

/-- THE SECOND FORM's CARD OF 'mummerlaw20.TranslateSafe'. -/
def translateSafeUptoCard : Claim7 := { stood := { row := translateSafeUptoRow, standIns := [], harness := (true, "69482087f36a3cba66cc0542b4e91fc553cdd2ce9722dae708e01783fddc43ec"), looks := true }, kinds := [], alts := [], laidByText := true, laidKinds := [.data, .data], laidTests := true, laidLooks := .later }
def TranslateSafeUptoCardSaid : Prop := Claim7.holds Tryd.pinned (.plain (OpenSpec.upto translateSafeSpec)) translateSafeUptoCard
end Rows
end Go.Proofs.YtpalbpjmjbcelaaDoor
