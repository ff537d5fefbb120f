/- What the two functions Holds answer: the document's condition, and nothing in memory turns. -/
import Derived.Test.YtfpknklibiigfaaDoorChecked
import Derived.Test.YtfpknklibiigfaaDoorMath
import Derived.Test.YtfpknklibiigfaaDoorLaid
import Derived.WalkKit
namespace Go.Proofs.YtfpknklibiigfaaDoor
open Go.RowKit


set_option maxHeartbeats 400000 in
theorem holds_any (c ps : Int) (w : World) (h0 : 0 ≤ ps) (h1 : ps < 4294967296) :
    Calls Tryd.prog 63 #[.int .i64 c, .int .u32 ps] w fun e w' => e = .returned (.bool (holdsB c ps)) ∧ w' = w := by
  have e1 := and16 ps h0 h1
  have e2 := and32 ps h0 h1
  have e3 := and64 ps h0 h1
  have e4 := and128 ps h0 h1
  go_enter Tryd.func63, Tryd.ntmps63
  go_wp2
  all_goals clear e1 e2 e3 e4
  all_goals go_ret
  all_goals exact ⟨ret_bool (by simp_all [holdsB]), rfl⟩

end Go.Proofs.YtfpknklibiigfaaDoor
