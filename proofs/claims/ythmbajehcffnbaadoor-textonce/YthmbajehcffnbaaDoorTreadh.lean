/- Read: what its walks share. -/
import Derived.Test.YthmbajehcffnbaaDoorTparts
import Derived.Test.YthmbajehcffnbaaDoorTkw
import Derived.Deep.RegionWith
import Derived.Deep.CutRange
namespace Go.Proofs.YthmbajehcffnbaaDoor
open Go.RowKit
set_option linter.unusedVariables false

def insV : Except Int Ins4 → Array Value
  | .ok (op, a, b, v) => insA op a b v
  | .error _ => insA 0 0 0 0
def errV : Except Int Ins4 → Int
  | .ok _ => 0
  | .error e => e
abbrev zI : Array Value := #[.int .u8 0, .int .u8 0, .int .u8 0, .int .i32 0]
theorem sizeIns : (Tryd.prog.info? 23).map (·.size) = some 4 := by kernel_rfl
theorem ins_one (a b c d : Int) : (#[Value.int .u8 a, .int .u8 b, .int .u8 c, .int .i32 d]).all (·.oneCell') = true := by simp [Value.oneCell']
theorem results2 {P : Program} {fn : Func} {p u : Tmp} {ty : TypeId} (h : fn.results = #[.cell p ty, .tmp u]) (tmps : Array Value) (w : World) (g : Nat) (t : TypeId) (cs : Array Value) (fr : Nat × Nat) (d : TypeDesc)
    (hp : tmps.getD p undef = .pointer (some ⟨g, 0, none⟩)) (hg : w.heap[g]? = some (.cells cs t fr))
    (hu : P.underlying ty = some d) (hd : (match d with | .struct _ | .array _ _ => true | _ => false) = true) (hi : (P.info? ty).map (·.size) = some cs.size) :
    (results fn tmps).run P w = .ok (.tuple #[.agg cs, tmps.getD u undef]) w := by
  have hp' : tmps[p]?.getD undef = .pointer (some ⟨g, 0, none⟩) := by simpa using hp
  simp [results, h, hp', asAddr, run_loadVar_row w g t ty cs fr d hg hu hd hi]
/-- Where the answer's block lies as it was laid, and the words. -/
structure RdS (w w' : World) (g : Nat) (ps : List (List UInt8)) : Prop where
  rs : w'.heap[w.heap.size]? = some (.cells zI 23 (0, 0))
  pt : PartsAt w' g ps
  kp : Kep w w'
theorem RdS.kep {w w1 w2 : World} {g : Nat} {ps : List (List UInt8)} (h : RdS w w1 g ps) (k : Kep w1 w2) : RdS w w2 g ps := ⟨k.block h.rs, h.pt.kep k, kep_trans h.kp k⟩
theorem blk_lt {w : World} {b : Nat} {x : Obj} (h : w.heap[b]? = some x) : b < w.heap.size := by
  rcases Nat.lt_or_ge b w.heap.size with q | q
  · exact q
  · rw [Array.getElem?_eq_none q] at h; cases h
theorem heap_draw (w : World) (b : Nat) : w.drew.heap[b]? = w.heap[b]? := rfl
theorem cell_set_other {w : World} {b c i j : Nat} {v : Value} (h : b ≠ c) : (w.setCell ⟨c, j, none⟩ v).cell? ⟨b, i, none⟩ = w.cell? ⟨b, i, none⟩ := by
  simp only [World.cell?, heap_setCell_other w ⟨c, j, none⟩ b v h]
end Go.Proofs.YthmbajehcffnbaaDoor
