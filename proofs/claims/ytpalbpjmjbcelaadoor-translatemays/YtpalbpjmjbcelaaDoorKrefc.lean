/- What the document's own table of kinds answers, for some of the operations. -/
import Derived.Test.YtpalbpjmjbcelaaDoorKrefh
namespace Go.Proofs.YtpalbpjmjbcelaaDoor
open Go.RowKit
set_option linter.unusedVariables false

set_option maxHeartbeats 8000000 in
theorem row_c (op : Int) (w : World) (h : op = 48 ∨ op = 50 ∨ op = 52 ∨ op = 54 ∨ op = 55 ∨ op = 56 ∨ op = 57 ∨ op = 58 ∨ op = 49) :
    Calls Tryd.prog 41 #[.int .u8 op] w fun e w' => e = .returned (.agg (rfA (rfRow op) false)) ∧ Kep w w' := by
  rcases h with rfl | rfl | rfl | rfl | rfl | rfl | rfl | rfl | rfl
  all_goals
    go_enter Tryd.func41, Tryd.ntmps41
    go_wp2
    go_returns
    exact ⟨by kernel_rfl, by repeat (first | exact Kep.refl _ | apply Kep.drew | apply Kep.alloc)⟩

end Go.Proofs.YtpalbpjmjbcelaaDoor
