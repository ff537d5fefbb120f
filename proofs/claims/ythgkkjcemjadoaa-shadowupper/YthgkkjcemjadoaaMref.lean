/- The document's memory: a row of bytes. -/
import Derived.Test.YthgkkjcemjadoaaMcopy
namespace Go.Proofs.Ythgkkjcemjadoaa
open Go.RowKit
set_option linter.unusedVariables false

/-- The document's memory with the bytes B, in the row Rb. -/
structure Refd (w : World) (x : Option Addr) (Rb : Nat) (B : List Int) : Prop where
  row : RowB w Rb B
  adr : B ≠ [] → x = some ⟨Rb, 0, none⟩
  max : (B.length : Int) ≤ 32768
theorem Refd.kep {w w' : World} {x : Option Addr} {Rb : Nat} {B : List Int} (h : Refd w x Rb B) (k : Kep w w') : Refd w' x Rb B := ⟨h.row.kep k, h.adr, h.max⟩
theorem Refd.put {w w' : World} {x : Option Addr} {Rb : Nat} {B : List Int} {l : List Nat} (h : Refd w x Rb B) (k : Put l w w') (hl : Rb ∉ l) : Refd w' x Rb B := ⟨h.row.put k hl, h.adr, h.max⟩
abbrev refV (x : Option Addr) (n : Nat) : Value := .agg #[.slice x n n]

end Go.Proofs.Ythgkkjcemjadoaa
