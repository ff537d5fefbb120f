/- The code's table, row by row, as the call lays it. -/
import Derived.Test.YtpalbpjmjbcelaaDoorKpl
namespace Go.Proofs.YtpalbpjmjbcelaaDoor
open Go.RowKit
set_option linter.unusedVariables false

/-- A row of the code's table. -/
structure Rw where
  ops : List Int
  cls : Int
  rd : Array UInt8
  wr : Array UInt8
  m : Array UInt8
def tabl : List Rw := [
  ⟨[0], 1, #[], #[], #[]⟩,
  ⟨[16], 1, #[98], #[97], #[]⟩,
  ⟨[17, 18, 19, 20, 21, 22, 23, 24, 27, 28, 29], 1, #[97, 98], #[97], #[116]⟩,
  ⟨[25, 30], 1, #[97, 98], #[97], #[116, 102]⟩,
  ⟨[26, 31], 1, #[97, 98], #[], #[116]⟩,
  ⟨[32], 1, #[], #[97], #[]⟩,
  ⟨[33], 1, #[97], #[97], #[116]⟩,
  ⟨[48, 50, 52, 54, 55], 2, #[98], #[97], #[102]⟩,
  ⟨[49, 51, 53], 2, #[97, 98], #[], #[102]⟩,
  ⟨[56], 2, #[97, 115], #[115], #[102]⟩,
  ⟨[57], 2, #[115], #[97, 115], #[102]⟩,
  ⟨[58], 2, #[97, 98], #[97], #[102]⟩,
  ⟨[64, 65, 66, 67, 68, 69, 70, 71], 3, #[], #[], #[]⟩,
  ⟨[72], 3, #[], #[108], #[]⟩,
  ⟨[73], 3, #[97], #[], #[]⟩,
  ⟨[74], 3, #[97], #[108], #[]⟩,
  ⟨[80], 3, #[], #[], #[102]⟩,
  ⟨[1], 4, #[], #[], #[102]⟩,
  ⟨[2], 4, #[], #[], #[116, 115]⟩,
  ⟨[3], 4, #[], #[], #[115]⟩,
  ⟨[96], 4, #[], #[97], #[115]⟩,
  ⟨[97], 4, #[97], #[], #[116, 115]⟩,
  ⟨[98], 4, #[], #[97], #[115]⟩,
  ⟨[99], 4, #[97], #[], #[102]⟩,
  ⟨[100], 4, #[], #[97], #[102]⟩,
  ⟨[101], 4, #[97], #[], #[102]⟩,
  ⟨[112, 113], 5, #[], #[], #[]⟩]
def opsO (r : Rw) : Obj := .cells (r.ops.map (Value.int .u8)).toArray 5
def rowL (B : Nat) (x : Rw × Nat) : List Value := [.slice (some ⟨B + x.2, 0, none⟩) x.1.ops.length x.1.ops.length, .int .i64 x.1.cls, .string ⟨x.1.rd⟩, .string ⟨x.1.wr⟩, .string ⟨x.1.m⟩]
def rowsO (B : Nat) : Obj := .cells (tabl.zipIdx.flatMap (rowL B)).toArray 104
def lay (w : World) : World := allocs w (tabl.map opsO ++ [rowsO w.heap.size])


theorem flat5 {α : Type} (f : α → List Value) (hf : ∀ a, (f a).length = 5) : ∀ (l : List α) (k j : Nat), j < 5 → (l.flatMap f)[k * 5 + j]? = l[k]?.bind fun a => (f a)[j]?
  | [], k, j, _ => by simp
  | a :: l, 0, j, h => by
    simp only [List.flatMap_cons, Nat.zero_mul, Nat.zero_add, List.getElem?_cons_zero, Option.bind_some]
    exact List.getElem?_append_left (by rw [hf]; exact h)
  | a :: l, k + 1, j, h => by
    simp only [List.flatMap_cons, List.getElem?_cons_succ]
    rw [List.getElem?_append_right (by rw [hf]; omega), hf]
    have e : (k + 1) * 5 + j - 5 = k * 5 + j := by omega
    rw [e]
    exact flat5 f hf l k j h

theorem lay_kep (w : World) : Kep w (lay w) := allocs_kep _ _
theorem lay_size (w : World) : (lay w).heap.size = w.heap.size + 28 := allocs_size _ _
theorem lay_ops (w : World) (k : Nat) (r : Rw) (h : tabl[k]? = some r) : (lay w).heap[w.heap.size + k]? = some (opsO r) := by
  refine allocs_at _ w k _ ?_
  rw [List.getElem?_append_left (by rw [List.length_map]; exact (List.getElem?_eq_some_iff.1 h).1)]
  simp [h]
theorem lay_rows (w : World) : (lay w).heap[w.heap.size + 27]? = some (rowsO w.heap.size) := allocs_at _ w 27 _ rfl
theorem row_cell (w : World) (k j : Nat) (r : Rw) (h : tabl[k]? = some r) (hj : j < 5) : (lay w).cell? ⟨w.heap.size + 27, k * 5 + j, none⟩ = (rowL w.heap.size (r, k))[j]? := by
  rw [cell_of_block (lay_rows w)]
  simp only [List.getElem?_toArray]
  rw [flat5 _ (fun _ => rfl) _ k j hj]
  simp [h]
theorem op_cell (w : World) (k j : Nat) (r : Rw) (h : tabl[k]? = some r) (op : Int) (hj : r.ops[j]? = some op) : (lay w).cell? ⟨w.heap.size + k, j, none⟩ = some (.int .u8 op) := by
  rw [cell_of_block (lay_ops w k r h)]
  simp [hj]

set_option maxHeartbeats 8000000 in
set_option maxRecDepth 100000 in
theorem rows_any (w : World) : Calls Tryd.prog 51 #[] w fun e w' => e = .returned (.slice (some ⟨w.heap.size + 27, 0, none⟩) 27 27) ∧ w' = lay w := by
  go_enter Tryd.func51, Tryd.ntmps51
  go_wp2_with fail
  go_ret
  exact ⟨rfl, rfl⟩
end Go.Proofs.YtpalbpjmjbcelaaDoor
