/- The document's state behind a memory instruction. By mkmoved.py. -/
import Derived.Test.YtjmcbohjkdbkbaaDoorRsml
import Derived.Test.YtjmcbohjkdbkbaaDoorCdo0
import Derived.Test.YtjmcbohjkdbkbaaDoorRmovp
import Derived.Test.YtjmcbohjkdbkbaaDoorRmovq
import Derived.Test.YtjmcbohjkdbkbaaDoorRmovr
namespace Go.Proofs.YtjmcbohjkdbkbaaDoor
open Go.RowKit
set_option linter.unusedVariables false
set_option linter.unusedSimpArgs false

theorem moved_any (s : Sta) (op : Int) (a b : Nat) (imm v : Int) (w : World) (ok : s.Ok) (m : 48 ≤ op ∧ op ≤ 58) (ha : (a : Int) < 8) (hv : 0 ≤ v ∧ v < 4294967296) :
    Calls Tryd.prog 34 #[.agg s.v, .agg (insA op a b imm), .int .u32 v] w fun e w' => e = .returned (.agg (movS s op a v).v) ∧ Kep w w' := by
  rcases mem_ops m with rfl | rfl | rfl | rfl | rfl | rfl | rfl | rfl | rfl | rfl | rfl
  · exact moved_48 s a b imm v w ok ha hv
  · exact moved_49 s a b imm v w ok ha hv
  · exact moved_50 s a b imm v w ok ha hv
  · exact moved_51 s a b imm v w ok ha hv
  · exact moved_52 s a b imm v w ok ha hv
  · exact moved_53 s a b imm v w ok ha hv
  · exact moved_54 s a b imm v w ok ha hv
  · exact moved_55 s a b imm v w ok ha hv
  · exact moved_56 s a b imm v w ok ha hv
  · exact moved_57 s a b imm v w ok ha hv
  · exact moved_58 s a b imm v w ok ha hv
end Go.Proofs.YtjmcbohjkdbkbaaDoor
