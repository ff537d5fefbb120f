/- Two instructions are compared field by field. -/
import Derived.Test.YtpalbpjmjbcelaaDoorMay
import Derived.DeepKeys
namespace Go.Proofs.YtpalbpjmjbcelaaDoor
open Go.RowKit

theorem ins_key (op a b imm : Int) (h0 : (Lit.int .u8 op).wf = true) (h1 : (Lit.int .u8 a).wf = true) (h2 : (Lit.int .u8 b).wf = true) (h3 : (Lit.int .i32 imm).wf = true) :
    Tryd.prog.keyLits 2 43 (Value.agg (insA op a b imm)).cells.toList = some [.int .u8 op, .int .u8 a, .int .u8 b, .int .i32 imm] := by
  have cI : Tryd.prog.cellsOf 43 = 4 := by kernel_rfl
  have c5 : Tryd.prog.cellsOf 5 = 1 := by kernel_rfl
  have c21 : Tryd.prog.cellsOf 21 = 1 := by kernel_rfl
  simp [Program.keyLits, Tryd.underlying43, Tryd.underlying5, Tryd.underlying21, Value.cells, cI, c5, c21, h0, h1, h2, h3]
theorem ins_same (op a b imm : Int) (h0 : (Lit.int .u8 op).wf = true) (h1 : (Lit.int .u8 a).wf = true) (h2 : (Lit.int .u8 b).wf = true) (h3 : (Lit.int .i32 imm).wf = true) (w : World) :
    Sem.run Tryd.prog (Op.equalIn 10000 43 (.agg (insA op a b imm)) (.agg (insA op a b imm))) w = .ok true w := by
  obtain ⟨r, hr, hiff⟩ := run_equalIn_deep (P := Tryd.prog) 9998 2 43 (by kernel_rfl) w 2 2 (.agg (insA op a b imm)) (.agg (insA op a b imm)) _ _ (by kernel_rfl) (by kernel_rfl) (ins_key op a b imm h0 h1 h2 h3) (ins_key op a b imm h0 h1 h2 h3)
  rw [hr, hiff.2 rfl]
end Go.Proofs.YtpalbpjmjbcelaaDoor
