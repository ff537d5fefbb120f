/- A memory's copy. -/
import Derived.Test.YthgkkjcemjadoaaMfill
namespace Go.Proofs.Ythgkkjcemjadoaa
open Go.RowKit
set_option linter.unusedVariables false

/-- All the bytes of a memory, frame by frame. -/
def view (B : List Int) (ix : List Nat) : List Int := ix.flatMap (frameL B)
theorem view_len {B : List Int} : ∀ {ix : List Nat}, Fits B ix → (view B ix).length = 64 * ix.length
  | [], _ => rfl
  | i :: ix, h => by
    have h1 := frameL_len (h i (by simp))
    have h2 := view_len (B := B) (ix := ix) (fun j hj => h j (by simp [hj]))
    simp only [view, List.flatMap_cons, List.length_append, List.length_cons] at h2 ⊢
    omega
theorem Byts.view {B : List Int} (h : Byts B) (ix : List Nat) : Byts (view B ix) := by
  intro b hb
  obtain ⟨i, _, hb⟩ := List.mem_flatMap.1 hb
  exact h.frameL i b hb
theorem view_range (n : Nat) (B : List Int) (h : 64 * n ≤ B.length) : view B (List.range n) = B.take (64 * n) := by
  induction n with
  | zero => simp [view]
  | succ n ih =>
    have := ih (by omega)
    simp only [view] at this ⊢
    rw [List.range_succ, List.flatMap_append, this, show 64 * (n + 1) = 64 * n + 64 by omega, List.take_add]
    simp [frameL]
theorem view_all {n : Nat} {B : List Int} (h : B.length = 64 * n) : view B (List.range n) = B := by rw [view_range n B (by omega)]; exact List.take_of_length_le (by omega)
/-- A copy of which the first k frames are done. -/
def part (B : List Int) (ix : List Nat) (k : Nat) : List Int := view B (ix.take k) ++ List.replicate (64 * (ix.length - k)) 0
theorem part_zero (B : List Int) (ix : List Nat) : part B ix 0 = List.replicate (64 * ix.length) 0 := by simp [part, view]
theorem part_all (B : List Int) (ix : List Nat) : part B ix ix.length = view B ix := by simp [part]
theorem fits_take {B : List Int} {ix : List Nat} (h : Fits B ix) (k : Nat) : Fits B (ix.take k) := fun i hi => h i (List.take_subset _ _ hi)
theorem part_len {B : List Int} {ix : List Nat} (h : Fits B ix) {k : Nat} (hk : k ≤ ix.length) : (part B ix k).length = 64 * ix.length := by
  have := view_len (fits_take h k)
  simp [part, this]; omega
theorem part_step {B : List Int} {ix : List Nat} (h : Fits B ix) {k : Nat} (hk : k < ix.length) : splice (part B ix k) (64 * k) (frameL B (ix.getD k 0)) = part B ix (k + 1) := by
  have h1 := view_len (fits_take h k)
  have h2 : (List.take k ix).length = k := by simp; omega
  rw [h2] at h1
  have h3 := frameL_len (h (ix.getD k 0) (by simp [List.getD, hk]))
  have e : ix.take (k + 1) = ix.take k ++ [ix.getD k 0] := by rw [List.take_add_one]; simp [List.getD, hk]
  unfold part
  rw [e]
  simp only [view, List.flatMap_append, List.flatMap_cons, List.flatMap_nil, List.append_nil] at h1 ⊢
  generalize List.flatMap (frameL B) (List.take k ix) = V at h1
  generalize frameL B (ix.getD k 0) = X at h3
  unfold splice
  rw [List.take_append_of_le_length (by omega), List.take_of_length_le (by omega), h3]
  rw [List.drop_append, List.drop_eq_nil_of_le (by omega), h1]
  simp only [List.nil_append, List.drop_replicate, List.append_assoc]
  rw [show 64 * (ix.length - k) - (64 * k + 64 - 64 * k) = 64 * (ix.length - (k + 1)) by omega]

structure Cop (w1 wr : World) (g : Nat) (B : List Int) (ix : List Nat) (k : Nat) : Prop where
  put : Put [g] w1 wr
  row : wr.heap[g]? = some (.cells (byt (part B ix k)).toArray 5 (0, 0))

end Go.Proofs.Ythgkkjcemjadoaa
