/-
  DERIVED. GIVEN WITH THE SEED: THE CARDS: each row of YtppcfhaiogjfgaaDoorRows.lean that lists a variable, with what it lists TIED to the program's text (the seventh form; the later family's looks); each row that meets fmt, with fmt's text TOLD by the authors' own Lean function (tested against real Go, not proved from fmt's source: count such statements apart). THE CARD IS WHAT COUNTS. Prove the row's statement (the work); the ties are given (YtppcfhaiogjfgaaDoorTie.lean); close each card by the builder's one call (the guide's Derived/Test/ToyasCard.lean, 'card_holds'). Laid BY PROGRAM, IN A SANDBOX (cutbox-door.mjs). By AI agents, Wed Nov 11 2026. No macro, syntax, notation, axiom, sorry.
-/
import Derived.Test.YtppcfhaiogjfgaaDoorRows
import GoSem.ClaimSeven
namespace Go.Proofs.YtppcfhaiogjfgaaDoor
namespace Rows

/-- THE TIED CARD OF 'mummerlaw03.KindSets'. -/
def kindSetsCard : Claim7 := { stood := { row := kindSetsRow, standIns := [], harness := (true, "dcc5c0a8c2621bee4e9d18ea5a38d5e75f9257e1f8a7fff92252ec11809eac3a"), looks := false }, kinds := [], alts := [], laidByText := true, laidKinds := [.data, .data], laidTests := true, laidLooks := .later }
def KindSetsCardSaid : Prop := Claim7.holds Tryd.pinned (.plain (OpenSpec.ofChange kindSetsSpec)) kindSetsCard

/-- THE TIED CARD OF 'mummerlaw03.KindNone'. -/
def kindNoneCard : Claim7 := { stood := { row := kindNoneRow, standIns := [], harness := (true, "dcc5c0a8c2621bee4e9d18ea5a38d5e75f9257e1f8a7fff92252ec11809eac3a"), looks := false }, kinds := [], alts := [], laidByText := true, laidKinds := [.data, .data], laidTests := true, laidLooks := .later }
def KindNoneCardSaid : Prop := Claim7.holds Tryd.pinned (.plain (OpenSpec.ofChange kindNoneSpec)) kindNoneCard

/-- THE TIED CARD OF 'mummerlaw03.KindAgain'. -/
def kindAgainCard : Claim7 := { stood := { row := kindAgainRow, standIns := [], harness := (true, "dcc5c0a8c2621bee4e9d18ea5a38d5e75f9257e1f8a7fff92252ec11809eac3a"), looks := false }, kinds := [], alts := [], laidByText := true, laidKinds := [.data, .data], laidTests := true, laidLooks := .later }
def KindAgainCardSaid : Prop := Claim7.holds Tryd.pinned (.plain (OpenSpec.ofChange kindAgainSpec)) kindAgainCard

/-- THE SECOND FORM's CARD OF 'mummerlaw03.KindSets'. -/
def kindSetsUptoCard : Claim7 := { stood := { row := kindSetsUptoRow, standIns := [], harness := (true, "dcc5c0a8c2621bee4e9d18ea5a38d5e75f9257e1f8a7fff92252ec11809eac3a"), looks := false }, kinds := [], alts := [], laidByText := true, laidKinds := [.data, .data], laidTests := true, laidLooks := .later }
def KindSetsUptoCardSaid : Prop := Claim7.holds Tryd.pinned (.plain (OpenSpec.upto kindSetsSpec)) kindSetsUptoCard

/-- THE SECOND FORM's CARD OF 'mummerlaw03.KindNone'. -/
def kindNoneUptoCard : Claim7 := { stood := { row := kindNoneUptoRow, standIns := [], harness := (true, "dcc5c0a8c2621bee4e9d18ea5a38d5e75f9257e1f8a7fff92252ec11809eac3a"), looks := false }, kinds := [], alts := [], laidByText := true, laidKinds := [.data, .data], laidTests := true, laidLooks := .later }
def KindNoneUptoCardSaid : Prop := Claim7.holds Tryd.pinned (.plain (OpenSpec.upto kindNoneSpec)) kindNoneUptoCard

/-- THE SECOND FORM's CARD OF 'mummerlaw03.KindAgain'. -/
def kindAgainUptoCard : Claim7 := { stood := { row := kindAgainUptoRow, standIns := [], harness := (true, "dcc5c0a8c2621bee4e9d18ea5a38d5e75f9257e1f8a7fff92252ec11809eac3a"), looks := false }, kinds := [], alts := [], laidByText := true, laidKinds := [.data, .data], laidTests := true, laidLooks := .later }
def KindAgainUptoCardSaid : Prop := Claim7.holds Tryd.pinned (.plain (OpenSpec.upto kindAgainSpec)) kindAgainUptoCard
end Rows
end Go.Proofs.YtppcfhaiogjfgaaDoor
