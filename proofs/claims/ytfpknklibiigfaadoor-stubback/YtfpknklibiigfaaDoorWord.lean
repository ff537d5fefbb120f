/- The range of a byte and of a number of 32 bits with a sign. -/
import Derived.Test.YtfpknklibiigfaaDoorLaid
namespace Go.Proofs.YtfpknklibiigfaaDoor

theorem word8 {a : Int} (h : (Lit.int .u8 a).wf = true) : 0 ≤ a ∧ a < 256 := by
  simp [Lit.wf, IntKind.min, IntKind.max, IntKind.signed, IntKind.bits] at h; omega
theorem word32 {a : Int} (h : (Lit.int .i32 a).wf = true) : -2147483648 ≤ a ∧ a ≤ 2147483647 := by
  simp [Lit.wf, IntKind.min, IntKind.max, IntKind.signed, IntKind.bits] at h; omega
end Go.Proofs.YtfpknklibiigfaaDoor
