/- Which interrupt is taken, by the document. -/
import Derived.Test.YtpieeefeicdfgabXbits
namespace Go.Proofs.Ytpieeefeicdfgab
open Go.RowKit
set_option linter.unusedVariables false
set_option linter.unusedSimpArgs false

set_option maxHeartbeats 2000000 in
theorem rwants_any (ps n : Int) (w : World) (h0 : 0 ≤ ps ∧ ps < 4294967296) (h1 : 0 ≤ n ∧ n < 4294967296) :
    Calls Try.prog 71 #[.int .u32 ps, .int .u32 n] w fun e w' => e = .returned (.int .i64 (wantsI ps n)) ∧ w' = w := by
  obtain ⟨r, hr⟩ : ∃ r, Hid (r = wantsI ps n) := ⟨_, rfl⟩
  rw [← hr.out]
  obtain ⟨h2, h3⟩ := h0
  obtain ⟨h4, h5⟩ := h1
  go_enter Try.func71, Try.ntmps71
  go_wp2_with fail
  all_goals go_ret
  all_goals refine ⟨ret_int ?_, rfl⟩
  all_goals rw [hr.out]; unfold wantsI
  all_goals simp_all
end Go.Proofs.Ytpieeefeicdfgab
