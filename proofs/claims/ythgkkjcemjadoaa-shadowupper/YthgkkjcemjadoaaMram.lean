/- A memory: its frames lie in one row of bytes; what is laid turns that row alone. -/
import Derived.Test.YthgkkjcemjadoaaPutl
import Derived.Laws.CopyOwn
namespace Go.Proofs.Ythgkkjcemjadoaa
open Go.RowKit
set_option linter.unusedVariables false


/-- Bytes as they lie in memory. -/
def byt (B : List Int) : List Value := B.map (Value.int .u8)
theorem byt_len (B : List Int) : (byt B).length = B.length := by simp [byt]
theorem byt_at (B : List Int) (k : Nat) : (byt B)[k]? = B[k]?.map (Value.int .u8) := by simp [byt]
theorem byt_set (B : List Int) (k : Nat) (b : Int) : (byt B).set k (.int .u8 b) = byt (B.set k b) := by simp [byt, List.map_set]
/-- Block R is the row of the bytes B; nothing is asked where there is no byte. -/
def RowB (w : World) (R : Nat) (B : List Int) : Prop := B ≠ [] → w.heap[R]? = some (.cells (byt B).toArray 5 (0, 0))
theorem RowB.nil (w : World) (R : Nat) : RowB w R [] := fun h => absurd rfl h
theorem RowB.put {l : List Nat} {w w' : World} {R : Nat} {B : List Int} (h : RowB w R B) (k : Put l w w') (hl : R ∉ l) : RowB w' R B := fun hn => k.keeps (h hn) hl
theorem RowB.kep {w w' : World} {R : Nat} {B : List Int} (h : RowB w R B) (k : Kep w w') : RowB w' R B := fun hn => k.block (h hn)
theorem RowB.cell {w : World} {R : Nat} {B : List Int} (h : RowB w R B) {k : Nat} (hk : k < B.length) : w.cell? ⟨R, k, none⟩ = some (.int .u8 (B.getD k 0)) := by
  rw [cell_of_block (h (by intro e; subst e; simp at hk))]
  simp [byt, hk]
theorem RowB.lt {w : World} {R : Nat} {B : List Int} (h : RowB w R B) (hB : B ≠ []) : R < w.heap.size := block_lt (h hB)
theorem RowB.set {w : World} {R : Nat} {B : List Int} (h : RowB w R B) (k : Nat) (b : Int) : RowB (w.setCell ⟨R, k, none⟩ (.int .u8 b)) R (B.set k b) := by
  intro hn
  have hB : B ≠ [] := by intro e; subst e; simp at hn
  rw [heap_setCell_row (h hB), ← byt_set]
  simp

/-- The frames, as they lie in memory: frame k is the ix[k]-th of the row R. -/
def frs (R : Nat) (ix : List Nat) : List Value := ix.map fun i => .slice (some ⟨R, 64 * i, none⟩) 64 64
theorem frs_len (R : Nat) (ix : List Nat) : (frs R ix).length = ix.length := by simp [frs]
theorem frs_at {R : Nat} {ix : List Nat} {k : Nat} (hk : k < ix.length) : (frs R ix)[k]? = some (.slice (some ⟨R, 64 * ix.getD k 0, none⟩) 64 64) := by simp [frs, hk]
/-- v is a memory whose frames are those of ix of the row R; or none, or one that no call made, and then it has no frame. -/
def Ram (w : World) (v : Value) (R : Nat) (ix : List Nat) : Prop :=
  (ix = [] ∧ v = .pointer none) ∨ (ix = [] ∧ ∃ p : Nat, v = .pointer (some ⟨p, 0, none⟩) ∧ w.heap[p]? = some (.cells #[.slice none 0 0] 99 (0, 0)) ∧ p ≠ R) ∨
  ∃ p F : Nat, v = .pointer (some ⟨p, 0, none⟩) ∧ w.heap[p]? = some (.cells #[.slice (some ⟨F, 0, none⟩) ix.length ix.length] 99 (0, 0)) ∧ w.heap[F]? = some (.cells (frs R ix).toArray 52 (0, 0)) ∧ p ≠ R ∧ F ≠ R ∧ ix ≠ []
theorem Ram.put {w w' : World} {v : Value} {R : Nat} {ix : List Nat} (h : Ram w v R ix) (k : Put [R] w w') : Ram w' v R ix := by
  rcases h with h | ⟨h, p, e, hp, n⟩ | ⟨p, F, e, hp, hF, n1, n2, hn⟩
  · exact .inl h
  · exact .inr (.inl ⟨h, p, e, k.keeps hp (by simpa using n), n⟩)
  · exact .inr (.inr ⟨p, F, e, k.keeps hp (by simpa using n1), k.keeps hF (by simpa using n2), n1, n2, hn⟩)
theorem Ram.kep {w w' : World} {v : Value} {R : Nat} {ix : List Nat} (h : Ram w v R ix) (k : Kep w w') : Ram w' v R ix := h.put (Put.of_kep k)
/-- The memory's own two blocks are not among those of l. -/
def Off (w : World) (v : Value) (l : List Nat) : Prop := ∀ p : Nat, v = .pointer (some ⟨p, 0, none⟩) → p ∉ l ∧ ∀ F n c, w.cell? ⟨p, 0, none⟩ = some (.slice (some ⟨F, 0, none⟩) n c) → F ∉ l
theorem Ram.off {w w' : World} {v : Value} {R : Nat} {ix l : List Nat} (h : Ram w v R ix) (k : Put l w w') (ho : Off w v l) : Ram w' v R ix := by
  rcases h with h | ⟨h, p, e, hp, n⟩ | ⟨p, F, e, hp, hF, n1, n2, hn⟩
  · exact .inl h
  · exact .inr (.inl ⟨h, p, e, k.keeps hp (ho p e).1, n⟩)
  · exact .inr (.inr ⟨p, F, e, k.keeps hp (ho p e).1, k.keeps hF ((ho p e).2 F _ _ (by rw [cell_of_block hp]; rfl)), n1, n2, hn⟩)

/-- Where a memory has its byte a, in its row. -/
def pos (ix : List Nat) (a : Nat) : Nat := 64 * ix.getD (a / 64) 0 + a % 64

theorem count_any (w : World) (v : Value) (R : Nat) (ix : List Nat) (h : Ram w v R ix) :
    Calls Try.prog 60 #[v] w fun e w' => e = .returned (.int .i64 ix.length) ∧ w' = w := by
  rcases h with ⟨rfl, rfl⟩ | ⟨rfl, p, rfl, hp, n⟩ | ⟨p, F, rfl, hp, hF, n1, n2, hn⟩
  · go_enter Try.func60, Try.ntmps60
    go_wp2
    go_ret
    exact ⟨rfl, rfl⟩
  · have c := cell_of_block (i := 0) hp
    simp at c
    clear hp n
    go_enter Try.func60, Try.ntmps60
    go_wp2
    go_ret
    exact ⟨rfl, rfl⟩
  · have c := cell_of_block (i := 0) hp
    simp at c
    clear hp hF n1 n2 hn
    go_enter Try.func60, Try.ntmps60
    go_wp2
    go_ret
    exact ⟨rfl, rfl⟩

theorem msize_any (w : World) (v : Value) (R : Nat) (ix : List Nat) (h : Ram w v R ix) (hix : (ix.length : Int) ≤ 512) :
    Calls Try.prog 49 #[v] w fun e w' => e = .returned (.int .u32 (64 * ix.length)) ∧ w' = w := by
  have hc : Hid (∀ w, Ram w v R ix → Calls Try.prog 60 #[v] w fun e w' => e = .returned (.int .i64 ix.length) ∧ w' = w) := fun w h => count_any w v R ix h
  have h' : Hid (Ram w v R ix) := h
  clear h
  go_enter Try.func49, Try.ntmps49
  go_wp2_with (go_at_call 60; refine (hc.out _ h'.out).mono ?_; rintro e w1 ⟨rfl, rfl⟩)
  go_ret
  exact ⟨ret_int (by omega), rfl⟩
end Go.Proofs.Ythgkkjcemjadoaa
