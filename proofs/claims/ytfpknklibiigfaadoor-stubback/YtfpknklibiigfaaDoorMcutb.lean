/- A slice of bytes cut at its front. -/
import Derived.Test.YtfpknklibiigfaaDoorLaid
import Derived.Laws.Slices
namespace Go.Proofs.YtfpknklibiigfaaDoor
open Go.RowKit
set_option linter.unusedVariables false
set_option linter.unusedSimpArgs false
theorem cut_bytes (x : Option Addr) (l c n : Nat) (hn : n ≤ l) (hc : l ≤ c) (w : World) : (Instr.slice 22 (.slice x l c) (some (.int .i64 n)) none none).run Tryd.prog w = .ok (.slice (if c = n then x else x.map (·.add n)) (l - n) (c - n)) w := by
  have hs : (sizeOf (Tryd.prog.elem 22)).run Tryd.prog w = .ok 1 w := by kernel_rfl
  rw [run_slice_l (P := Tryd.prog) w 22 x l c (by kernel_rfl) .i64 n (by omega) (by omega), hs]
  simp [sliced, Result.andThen]
end Go.Proofs.YtfpknklibiigfaaDoor
