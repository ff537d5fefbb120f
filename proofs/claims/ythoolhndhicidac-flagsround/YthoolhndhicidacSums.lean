/- What the sums, the differences and the bits come to, in the code and in the document's own words. -/
import Derived.Test.YthoolhndhicidacJoin
namespace Go.Proofs.Ythoolhndhicidac
open Go.RowKit

theorem ret_two {k l : IntKind} {a b c d : Int} (h : a = c) (i : b = d) : Ending.returned (.tuple #[.int k a, .int l b]) = .returned (.tuple #[.int k c, .int l d]) := by rw [h, i]

end Go.Proofs.Ythoolhndhicidac
