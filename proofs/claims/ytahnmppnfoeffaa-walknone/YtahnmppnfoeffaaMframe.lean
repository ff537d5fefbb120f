/- The bytes of a frame, in a row of their own. -/
import Derived.Test.YtahnmppnfoeffaaMcut
namespace Go.Proofs.Ytahnmppnfoeffaa
open Go.RowKit
set_option linter.unusedVariables false

/-- The bytes of the row's i-th frame. -/
def frameL (B : List Int) (i : Nat) : List Int := (B.drop (64 * i)).take 64
theorem frameL_len {B : List Int} {i : Nat} (h : 64 * i + 64 ≤ B.length) : (frameL B i).length = 64 := by simp [frameL]; omega
theorem frameL_at {B : List Int} {i j : Nat} (hj : j < 64) : (frameL B i)[j]? = B[64 * i + j]? := by simp [frameL, hj]
theorem Byts.frameL {B : List Int} (h : Byts B) (i : Nat) : Byts (frameL B i) := fun b hb => h b (List.drop_subset _ _ (List.take_subset _ _ hb))
theorem byt_one (B : List Int) : ∀ v ∈ byt B, v.oneCell' = true := by
  intro v hv
  obtain ⟨b, _, rfl⟩ := List.mem_map.1 hv
  rfl
theorem cells_row {w : World} {R : Nat} {B : List Int} (h : RowB w R B) (q n : Nat) (hq : q + n ≤ B.length) : ∀ j v, (byt ((B.drop q).take n))[j]? = some v → w.cell? ((⟨R, q, none⟩ : Addr).add j) = some v := by
  intro j v hj
  rw [Addr.add_lit]
  rw [byt_at] at hj
  have hlt : j < n := by
    rcases Nat.lt_or_ge j n with h | h
    · exact h
    · rw [List.getElem?_eq_none (by simp; omega)] at hj; cases hj
  have hl : q + j < B.length := by omega
  rw [List.getElem?_take_of_lt hlt, List.getElem?_drop] at hj
  rw [h.cell hl, ← hj]
  simp [hl]

theorem mk64 : ∀ w, Sem.run Try.prog (Instr.makeSlice 26 (.int .i64 64) (.int .i64 64)) w = .ok (.slice (some ⟨w.heap.size, 0, none⟩) 64 64) (w.alloc (.cells (byt (List.replicate 64 0)).toArray 5)) := fun w => make_row 64 (by decide) w

end Go.Proofs.Ytahnmppnfoeffaa
