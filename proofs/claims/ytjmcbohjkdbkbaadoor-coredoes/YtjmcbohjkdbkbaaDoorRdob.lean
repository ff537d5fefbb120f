/- The document's Do. By mkrdo.py. -/
import Derived.Test.YtjmcbohjkdbkbaaDoorRmoved
import Derived.Test.YtjmcbohjkdbkbaaDoorRmade
import Derived.Test.YtjmcbohjkdbkbaaDoorRwant
import Derived.Test.YtjmcbohjkdbkbaaDoorCkind
import Derived.Deep.CutRange
namespace Go.Proofs.YtjmcbohjkdbkbaaDoor
open Go.RowKit
set_option linter.unusedVariables false
set_option linter.unusedSimpArgs false

theorem form_size (r : Nat) (w : World) : (Instr.field 59 (.agg (rformA r)) 0).run Tryd.prog w = .ok (.int .i64 (sz r)) w := by kernel_rfl
theorem sz_range (op : Int) : 0 ≤ sz (rowOf op false) ∧ sz (rowOf op false) ≤ 6 := by
  have hr := rowOf_lt op false
  generalize rowOf op false = r at *
  have q : ∀ r, r < 10 → 0 ≤ sz r ∧ sz r ≤ 6 := by decide
  exact q r hr
end Go.Proofs.YtjmcbohjkdbkbaaDoor
