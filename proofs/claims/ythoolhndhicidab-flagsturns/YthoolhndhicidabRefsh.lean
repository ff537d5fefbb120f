/- What the document's shifts come to, bit by bit. -/
import Derived.Test.YthoolhndhicidabBits
import Derived.Test.YthoolhndhicidabSteps
namespace Go.Proofs.Ythoolhndhicidab
open Go.RowKit

theorem bit31 (a : Int) (w : World) (h0 : 0 ≤ a) (h1 : a < 4294967296) :
    Calls Try.prog 33 #[.int .u32 a, .int .i64 31] w fun e w' => e = .returned (.bool (bt a 31)) ∧ w' = w :=
  bit_any a 31 w h0 h1 (by omega)

theorem bit0 (a : Int) (w : World) (h0 : 0 ≤ a) (h1 : a < 4294967296) :
    Calls Try.prog 33 #[.int .u32 a, .int .i64 0] w fun e w' => e = .returned (.bool (bt a 0)) ∧ w' = w :=
  bit_any a 0 w h0 h1 (by omega)

end Go.Proofs.Ythoolhndhicidab
