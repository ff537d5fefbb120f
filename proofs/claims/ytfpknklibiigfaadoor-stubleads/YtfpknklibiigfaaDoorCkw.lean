/- A drawing region whose calls make memory. -/
import Derived.Test.YtfpknklibiigfaaDoorCst
import Derived.Test.YtfpknklibiigfaaDoorSkw
import Derived.Test.YtfpknklibiigfaaDoorRefof
import Derived.Deep.QuietTactic
import Derived.BigQuiet
namespace Go.Proofs.YtfpknklibiigfaaDoor
open Go.RowKit
set_option linter.unusedVariables false

theorem sz_range (op : Int) : 0 ≤ sz (rowOf op false) ∧ sz (rowOf op false) ≤ 6 := by
  have hr := rowOf_lt op false
  generalize rowOf op false = r at *
  have q : ∀ r, r < 10 → 0 ≤ sz r ∧ sz r ≤ 6 := by decide
  exact q r hr
end Go.Proofs.YtfpknklibiigfaaDoor
