/- What is common to the forms of the document's Decode. -/
import Derived.Test.YtmmgknchbebbjaaDoorDecode
namespace Go.Proofs.YtmmgknchbebbjaaDoor
open Go.RowKit
set_option linter.unusedVariables false

abbrev insM (m : Bool) (op a b imm : Int) : Array Value := if m then insA op a b imm else zeroI
theorem ret_yes {op a b imm aE bE iE S : Int} (h1 : a = aE) (h2 : b = bE) (h3 : imm = iE) : Ending.returned (.tuple #[.agg #[.int .u8 op, .int .u8 a, .int .u8 b, .int .i32 imm], .int .i64 S, .int .i64 0]) = .returned (.tuple #[.agg (insM true op aE bE iE), .int .i64 (if true then S else 0), .int .i64 (if true then 0 else 21)]) := by subst h1; subst h2; subst h3; rfl
end Go.Proofs.YtmmgknchbebbjaaDoor
