/- The bytes of a frame, in a row of their own. -/
import Derived.Test.YthgkkjcemjadoaaMcut
namespace Go.Proofs.Ythgkkjcemjadoaa
open Go.RowKit
set_option linter.unusedVariables false

/-- The bytes of the row's i-th frame. -/
def frameL (B : List Int) (i : Nat) : List Int := (B.drop (64 * i)).take 64
theorem frameL_len {B : List Int} {i : Nat} (h : 64 * i + 64 ≤ B.length) : (frameL B i).length = 64 := by simp [frameL]; omega
theorem frameL_at {B : List Int} {i j : Nat} (hj : j < 64) : (frameL B i)[j]? = B[64 * i + j]? := by simp [frameL, hj]
theorem Byts.frameL {B : List Int} (h : Byts B) (i : Nat) : Byts (frameL B i) := fun b hb => h b (List.drop_subset _ _ (List.take_subset _ _ hb))
theorem byt_one (B : List Int) : ∀ v ∈ byt B, v.oneCell' = true := by
  intro v hv
  obtain ⟨b, _, rfl⟩ := List.mem_map.1 hv
  rfl
theorem cells_row {w : World} {R : Nat} {B : List Int} (h : RowB w R B) (q n : Nat) (hq : q + n ≤ B.length) : ∀ j v, (byt ((B.drop q).take n))[j]? = some v → w.cell? ((⟨R, q, none⟩ : Addr).add j) = some v := by
  intro j v hj
  rw [Addr.add_lit]
  rw [byt_at] at hj
  have hlt : j < n := by
    rcases Nat.lt_or_ge j n with h | h
    · exact h
    · rw [List.getElem?_eq_none (by simp; omega)] at hj; cases hj
  have hl : q + j < B.length := by omega
  rw [List.getElem?_take_of_lt hlt, List.getElem?_drop] at hj
  rw [h.cell hl, ← hj]
  simp [hl]

theorem mk64 : ∀ w, Sem.run Try.prog (Instr.makeSlice 52 (.int .i64 64) (.int .i64 64)) w = .ok (.slice (some ⟨w.heap.size, 0, none⟩) 64 64) (w.alloc (.cells (byt (List.replicate 64 0)).toArray 5)) := fun w => make_row 64 (by decide) w

set_option maxRecDepth 100000 in
theorem frame_yes (w : World) (v : Value) (R : Nat) (ix : List Nat) (B : List Int) (h : Ram w v R ix) (hB : RowB w R B) (hf : Fits B ix) (n : Nat) (hn : n < ix.length) :
    Calls Try.prog 19 #[v, .int .i64 n] w fun e w' => e = .returned (.slice (some ⟨w.heap.size, 0, none⟩) 64 64) ∧ Kep w w' ∧ w'.heap[w.heap.size]? = some (.cells (byt (frameL B (ix.getD n 0))).toArray 5 (0, 0)) := by
  have hc : Hid (Calls Try.prog 42 #[v, .int .i64 n] w fun e w' => e = .returned (.bool (decide ((0 : Int) ≤ n) && decide ((n : Int) < ix.length))) ∧ w' = w) := hasFrame_any w v R ix h n
  rw [show (decide ((0 : Int) ≤ n) && decide ((n : Int) < ix.length)) = true by simp; omega] at hc
  rcases h with ⟨rfl, rfl⟩ | ⟨rfl, p, rfl, hp, n0⟩ | ⟨p, F, rfl, hp, hF, n1, n2, n0⟩
  · simp at hn
  · simp at hn
  · have c := cell_of_block (i := 0) hp
    simp at c
    have lp := block_lt hp
    have lF := block_lt hF
    have k1 : ∀ o, (w.alloc o).cell? ⟨p, 0, none⟩ = some (.slice (some ⟨F, 0, none⟩) ix.length ix.length) := fun o => (cell_old lp).trans c
    have c1 : w.cell? ⟨F, n, none⟩ = some (.slice (some ⟨R, 64 * ix.getD n 0, none⟩) 64 64) := by
      rw [cell_of_block hF]
      simp only [List.getElem?_toArray]
      exact frs_at hn
    have k2 : ∀ o, (w.alloc o).cell? ⟨F, n, none⟩ = some (.slice (some ⟨R, 64 * ix.getD n 0, none⟩) 64 64) := fun o => (cell_old lF).trans c1
    have hi := hf (ix.getD n 0) (by simp [List.getD, hn])
    have hn' : (n : Int) < ix.length := by omega
    generalize ix.getD n 0 = i at hi k2 c1
    have hm := mk64
    have hsrc : Hid (∀ o, ∀ j v, (byt (frameL B i))[j]? = some v → (w.alloc o).cell? ((⟨R, 64 * i, none⟩ : Addr).add j) = some v) := fun o => cells_row (hB.kep ((Kep.refl _).alloc o)) (64 * i) 64 hi
    have hlen := frameL_len hi
    have hZ : Hid ((byt (List.replicate 64 0)).toArray.size = 64) := by simp [Hid, byt]
    generalize ix.length = m at c hc hn' k1
    generalize byt (List.replicate 64 0) = Z at hm hZ
    clear hp hF n1 n2 n0 hB hf c c1 lp lF hn
    go_enter Try.func19, Try.ntmps19
    go_wp2_with (first | (go_at_call 42; refine hc.out.mono ?_; rintro e w1 ⟨rfl, rfl⟩) | (refine wpList_copy_own rfl (.tmp 11) (.tmp 18) 52 52 rfl 5 Try.underlying52 (by kernel_rfl) _ 0 64 64 ⟨R, 64 * i, none⟩ 64 64 rfl rfl Z.toArray 5 (heap_alloc_new _ _) (byt (frameL B i)) ?_ (hsrc.out _) ?_ (byt_one _) ?_))
    · rw [byt_len, hlen]; rfl
    · rw [byt_len, hlen, hZ.out]; decide
    · go_ret
      have e1 : (byt (frameL B i) ++ List.drop (byt (frameL B i)).length Z) = byt (frameL B i) := by
        rw [byt_len, hlen, List.drop_eq_nil_of_le (by have := hZ.out; simp at this; omega), List.append_nil]
      rw [e1]
      exact ⟨rfl, ((Kep.refl _).alloc _).setRow _ _ (Nat.le_refl _), setRow_heap _ _ _ _ _ _ (heap_alloc_new _ _)⟩

theorem frame_no (w : World) (v : Value) (R : Nat) (ix : List Nat) (h : Ram w v R ix) (n : Int) (hn : n < 0 ∨ (ix.length : Int) ≤ n) :
    Calls Try.prog 19 #[v, .int .i64 n] w fun e w' => e = .returned (.slice none 0 0) ∧ w' = w := by
  have hc : Hid (Calls Try.prog 42 #[v, .int .i64 n] w fun e w' => e = .returned (.bool (decide ((0 : Int) ≤ n) && decide ((n : Int) < ix.length))) ∧ w' = w) := hasFrame_any w v R ix h n
  rw [show (decide ((0 : Int) ≤ n) && decide ((n : Int) < ix.length)) = false by simp; omega] at hc
  clear h
  go_enter Try.func19, Try.ntmps19
  go_wp2_with (go_at_call 42; refine hc.out.mono ?_; rintro e w1 ⟨rfl, rfl⟩)
  go_ret
  exact ⟨rfl, rfl⟩
end Go.Proofs.Ythgkkjcemjadoaa
