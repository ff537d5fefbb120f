/- A memory: its frames lie in one row of bytes; what is laid turns that row alone. -/
import Derived.Test.YtpalbpjmjbcelaaDoorPutl
import Derived.Laws.CopyOwn
namespace Go.Proofs.YtpalbpjmjbcelaaDoor
open Go.RowKit
set_option linter.unusedVariables false


/-- Bytes as they lie in memory. -/
def byt (B : List Int) : List Value := B.map (Value.int .u8)
theorem byt_len (B : List Int) : (byt B).length = B.length := by simp [byt]
theorem byt_at (B : List Int) (k : Nat) : (byt B)[k]? = B[k]?.map (Value.int .u8) := by simp [byt]
theorem byt_set (B : List Int) (k : Nat) (b : Int) : (byt B).set k (.int .u8 b) = byt (B.set k b) := by simp [byt, List.map_set]
/-- Block R is the row of the bytes B; nothing is asked where there is no byte. -/
def RowB (w : World) (R : Nat) (B : List Int) : Prop := B ≠ [] → w.heap[R]? = some (.cells (byt B).toArray 5 (0, 0))
theorem RowB.nil (w : World) (R : Nat) : RowB w R [] := fun h => absurd rfl h
theorem RowB.put {l : List Nat} {w w' : World} {R : Nat} {B : List Int} (h : RowB w R B) (k : Put l w w') (hl : R ∉ l) : RowB w' R B := fun hn => k.keeps (h hn) hl
theorem RowB.kep {w w' : World} {R : Nat} {B : List Int} (h : RowB w R B) (k : Kep w w') : RowB w' R B := fun hn => k.block (h hn)
theorem RowB.cell {w : World} {R : Nat} {B : List Int} (h : RowB w R B) {k : Nat} (hk : k < B.length) : w.cell? ⟨R, k, none⟩ = some (.int .u8 (B.getD k 0)) := by
  rw [cell_of_block (h (by intro e; subst e; simp at hk))]
  simp [byt, hk]
theorem RowB.lt {w : World} {R : Nat} {B : List Int} (h : RowB w R B) (hB : B ≠ []) : R < w.heap.size := block_lt (h hB)
theorem RowB.set {w : World} {R : Nat} {B : List Int} (h : RowB w R B) (k : Nat) (b : Int) : RowB (w.setCell ⟨R, k, none⟩ (.int .u8 b)) R (B.set k b) := by
  intro hn
  have hB : B ≠ [] := by intro e; subst e; simp at hn
  rw [heap_setCell_row (h hB), ← byt_set]
  simp

/-- Where a memory has its byte a, in its row. -/
def pos (ix : List Nat) (a : Nat) : Nat := 64 * ix.getD (a / 64) 0 + a % 64

end Go.Proofs.YtpalbpjmjbcelaaDoor
