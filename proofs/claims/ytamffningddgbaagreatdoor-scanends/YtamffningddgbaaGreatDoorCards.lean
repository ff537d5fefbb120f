/-
  DERIVED. GIVEN WITH THE SEED: THE CARDS: each row of YtamffningddgbaaGreatDoorRows.lean that lists a variable, with what it lists TIED to the program's text (the seventh form; the later family's looks); each row that meets fmt, with fmt's text TOLD by the authors' own Lean function (tested against real Go, not proved from fmt's source: count such statements apart). THE CARD IS WHAT COUNTS. Prove the row's statement (the work); the ties are given (YtamffningddgbaaGreatDoorTie.lean); close each card by the builder's one call (the guide's Derived/Test/ToyasCard.lean, 'card_holds'). Laid BY PROGRAM, IN A SANDBOX (cutbox-door.mjs). By AI agents, Wed Nov 11 2026. No macro, syntax, notation, axiom, sorry.
-/
import Derived.Test.YtamffningddgbaaGreatDoorRows
import GoSem.ClaimSeven
namespace Go.Proofs.YtamffningddgbaaGreatDoor
namespace Rows

/-- THE TIED CARD OF 'mummerlaw18.ScanTells'. -/
def scanTellsCard : Claim7 := { stood := { row := scanTellsRow, standIns := [], harness := (true, "7fa92bc0b72429e4af1d2cd01e9a8d1e088acfc86bc952062cfda82cc5830e59"), looks := false }, kinds := [], alts := [], laidByText := true, laidKinds := [.data, .data], laidTests := true, laidLooks := .later }
def ScanTellsCardSaid : Prop := Claim7.holds Tryz.pinned (.plain (OpenSpec.ofChange scanTellsSpec)) scanTellsCard

/-- THE TIED CARD OF 'mummerlaw18.ScanEnds'. -/
def scanEndsCard : Claim7 := { stood := { row := scanEndsRow, standIns := [], harness := (true, "7fa92bc0b72429e4af1d2cd01e9a8d1e088acfc86bc952062cfda82cc5830e59"), looks := false }, kinds := [], alts := [], laidByText := true, laidKinds := [.data, .data], laidTests := true, laidLooks := .later }
def ScanEndsCardSaid : Prop := Claim7.holds Tryz.pinned (.plain (OpenSpec.ofChange scanEndsSpec)) scanEndsCard

/-- THE TIED CARD OF 'mummerlaw18.ScanLess'. -/
def scanLessCard : Claim7 := { stood := { row := scanLessRow, standIns := [], harness := (true, "7fa92bc0b72429e4af1d2cd01e9a8d1e088acfc86bc952062cfda82cc5830e59"), looks := false }, kinds := [], alts := [], laidByText := true, laidKinds := [.data, .data], laidTests := true, laidLooks := .later }
def ScanLessCardSaid : Prop := Claim7.holds Tryz.pinned (.plain (OpenSpec.ofChange scanLessSpec)) scanLessCard

/-- THE TIED CARD OF 'mummerlaw18.ScanHangs'. -/
def scanHangsCard : Claim7 := { stood := { row := scanHangsRow, standIns := [], harness := (true, "7fa92bc0b72429e4af1d2cd01e9a8d1e088acfc86bc952062cfda82cc5830e59"), looks := false }, kinds := [], alts := [], laidByText := true, laidKinds := [.data, .data], laidTests := true, laidLooks := .later }
def ScanHangsCardSaid : Prop := Claim7.holds Tryz.pinned (.plain (OpenSpec.ofChange scanHangsSpec)) scanHangsCard

/-- THE SECOND FORM's CARD OF 'mummerlaw18.ScanTells'. -/
def scanTellsUptoCard : Claim7 := { stood := { row := scanTellsUptoRow, standIns := [], harness := (true, "7fa92bc0b72429e4af1d2cd01e9a8d1e088acfc86bc952062cfda82cc5830e59"), looks := false }, kinds := [], alts := [], laidByText := true, laidKinds := [.data, .data], laidTests := true, laidLooks := .later }
def ScanTellsUptoCardSaid : Prop := Claim7.holds Tryz.pinned (.plain (OpenSpec.upto scanTellsSpec)) scanTellsUptoCard

/-- THE SECOND FORM's CARD OF 'mummerlaw18.ScanEnds'. -/
def scanEndsUptoCard : Claim7 := { stood := { row := scanEndsUptoRow, standIns := [], harness := (true, "7fa92bc0b72429e4af1d2cd01e9a8d1e088acfc86bc952062cfda82cc5830e59"), looks := false }, kinds := [], alts := [], laidByText := true, laidKinds := [.data, .data], laidTests := true, laidLooks := .later }
def ScanEndsUptoCardSaid : Prop := Claim7.holds Tryz.pinned (.plain (OpenSpec.upto scanEndsSpec)) scanEndsUptoCard

/-- THE SECOND FORM's CARD OF 'mummerlaw18.ScanLess'. -/
def scanLessUptoCard : Claim7 := { stood := { row := scanLessUptoRow, standIns := [], harness := (true, "7fa92bc0b72429e4af1d2cd01e9a8d1e088acfc86bc952062cfda82cc5830e59"), looks := false }, kinds := [], alts := [], laidByText := true, laidKinds := [.data, .data], laidTests := true, laidLooks := .later }
def ScanLessUptoCardSaid : Prop := Claim7.holds Tryz.pinned (.plain (OpenSpec.upto scanLessSpec)) scanLessUptoCard

/-- THE SECOND FORM's CARD OF 'mummerlaw18.ScanHangs'. -/
def scanHangsUptoCard : Claim7 := { stood := { row := scanHangsUptoRow, standIns := [], harness := (true, "7fa92bc0b72429e4af1d2cd01e9a8d1e088acfc86bc952062cfda82cc5830e59"), looks := false }, kinds := [], alts := [], laidByText := true, laidKinds := [.data, .data], laidTests := true, laidLooks := .later }
def ScanHangsUptoCardSaid : Prop := Claim7.holds Tryz.pinned (.plain (OpenSpec.upto scanHangsSpec)) scanHangsUptoCard
end Rows
end Go.Proofs.YtamffningddgbaaGreatDoor
