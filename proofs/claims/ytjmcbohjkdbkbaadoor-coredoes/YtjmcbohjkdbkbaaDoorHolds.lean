/- What the two functions Holds answer: the document's condition, and nothing in memory turns. -/
import Derived.Test.YtjmcbohjkdbkbaaDoorChecked
import Derived.Test.YtjmcbohjkdbkbaaDoorMath
import Derived.Test.YtjmcbohjkdbkbaaDoorLaid
import Derived.WalkKit
namespace Go.Proofs.YtjmcbohjkdbkbaaDoor
open Go.RowKit


set_option maxHeartbeats 400000 in
theorem holds_any (c ps : Int) (w : World) (h0 : 0 ≤ ps) (h1 : ps < 4294967296) :
    Calls Tryd.prog 94 #[.int .i64 c, .int .u32 ps] w fun e w' => e = .returned (.bool (holdsB c ps)) ∧ w' = w := by
  have e1 := and16 ps h0 h1
  have e2 := and32 ps h0 h1
  have e3 := and64 ps h0 h1
  have e4 := and128 ps h0 h1
  go_enter Tryd.func94, Tryd.ntmps94
  go_wp2
  all_goals clear e1 e2 e3 e4
  all_goals go_ret
  all_goals exact ⟨ret_bool (by simp_all [holdsB]), rfl⟩

set_option maxHeartbeats 400000 in
theorem refHolds_any (c ps : Int) (w : World) (h0 : 0 ≤ ps) (h1 : ps < 4294967296) :
    Calls Tryd.prog 35 #[.int .i64 c, .int .u32 ps] w fun e w' => e = .returned (.bool (holdsB c ps)) ∧ w' = w := by
  have e1 : (ps / 16 % 2 == 1) = bitB ps 16 := rfl
  have e2 : (ps / 32 % 2 == 1) = bitB ps 32 := rfl
  have e3 : (ps / 64 % 2 == 1) = bitB ps 64 := rfl
  have e4 : (ps / 128 % 2 == 1) = bitB ps 128 := rfl
  go_enter Tryd.func35, Tryd.ntmps35
  go_wp2
  all_goals clear e1 e2 e3 e4
  all_goals go_ret
  all_goals exact ⟨ret_bool (by simp_all [holdsB]), rfl⟩
end Go.Proofs.YtjmcbohjkdbkbaaDoor
