/- A memory that is made: its frames are cut out of one row of bytes that are 0. -/
import Derived.Test.YthgkkjcemjadoaaMword
import Derived.BigRegion
namespace Go.Proofs.Ythgkkjcemjadoaa
open Go.RowKit
set_option linter.unusedVariables false

theorem made_rep (x : Value) (n : Nat) : madeCells #[x] n = (List.replicate n x).toArray := by
  apply Array.ext
  · simp [madeCells]
  · intro i h1 h2
    simp [madeCells, Nat.mod_one]
theorem info_u8 : (Try.prog.info? 5).map (fun i => (i.zero, i.size, i.bytes)) = some (some (.int .u8 0), 1, 1) := by kernel_rfl
theorem info_sl : (Try.prog.info? 52).map (fun i => (i.zero, i.size, i.bytes)) = some (some (.slice none 0 0), 1, 24) := by kernel_rfl
theorem byt_zero (n : Nat) : byt (List.replicate n 0) = List.replicate n (.int .u8 0) := by simp [byt]
theorem make_row (s : Nat) (hs : s ≤ 140737488355328) (w : World) : Sem.run Try.prog (Instr.makeSlice 52 (.int .i64 s) (.int .i64 s)) w = .ok (.slice (some ⟨w.heap.size, 0, none⟩) s s) (w.alloc (.cells (byt (List.replicate s 0)).toArray 5)) := by
  obtain ⟨i, hi, hz0, hz1, hz2⟩ := info_parts info_u8
  have := run_make (P := Try.prog) w 52 5 i (.int .u8 0) Try.underlying52 hi hz0 .i64 .i64 s s (by omega) (by omega) (by rw [hz2]; omega) (by omega)
  rw [hz1] at this
  rw [byt_zero]
  simpa [Value.cells, made_rep] using this
theorem make_frames (s : Nat) (hs : s ≤ 1000000) (w : World) : Sem.run Try.prog (Instr.makeSlice 97 (.int .i64 s) (.int .i64 s)) w = .ok (.slice (some ⟨w.heap.size, 0, none⟩) s s) (w.alloc (.cells (List.replicate s (Value.slice none 0 0)).toArray 52)) := by
  obtain ⟨i, hi, hz0, hz1, hz2⟩ := info_parts info_sl
  have := run_make (P := Try.prog) w 97 52 i (.slice none 0 0) Try.underlying97 hi hz0 .i64 .i64 s s (by omega) (by omega) (by rw [hz2]; omega) (by omega)
  rw [hz1] at this
  simpa [Value.cells, made_rep] using this

/-- The frames of which the first k are cut. -/
def cutF (R n k : Nat) : List Value := frs R (List.range k) ++ List.replicate (n - k) (.slice none 0 0)
theorem cutF_zero (R n : Nat) : cutF R n 0 = List.replicate n (.slice none 0 0) := by simp [cutF, frs]
theorem cutF_all (R n : Nat) : cutF R n n = frs R (List.range n) := by simp [cutF]
theorem cutF_len (R n k : Nat) (h : k ≤ n) : (cutF R n k).length = n := by simp [cutF, frs]; omega
theorem cutF_at (R n k : Nat) (h : k < n) : (cutF R n k)[k]? = some (.slice none 0 0) := by
  have hl : (frs R (List.range k)).length = k := by simp [frs]
  rw [cutF, List.getElem?_append_right (by omega), hl, Nat.sub_self]
  simp [List.getElem?_replicate]; omega
theorem cutF_set (R n k : Nat) (h : k < n) : (cutF R n k).set k (.slice (some ⟨R, 64 * k, none⟩) 64 64) = cutF R n (k + 1) := by
  have hl : (frs R (List.range k)).length = k := by simp [frs]
  have e1 : frs R (List.range (k + 1)) = frs R (List.range k) ++ [.slice (some ⟨R, 64 * k, none⟩) 64 64] := by simp [frs, List.range_succ]
  have e2 : n - k = (n - (k + 1)) + 1 := by omega
  rw [cutF, cutF, List.set_append_right _ _ (by omega), hl, Nat.sub_self, e1, e2, List.replicate_succ]
  simp

/-- A memory of n frames of which the first k are cut. -/
structure Cut (w wr : World) (Z : Array Value) (n k : Nat) : Prop where
  kep : Kep w wr
  row : wr.heap[w.heap.size]? = some (.cells Z 5 (0, 0))
  fr : wr.heap[w.heap.size + 1]? = some (.cells (cutF w.heap.size n k).toArray 52 (0, 0))
  box : wr.heap[w.heap.size + 2]? = some (.cells #[.slice (some ⟨w.heap.size + 1, 0, none⟩) n n] 99 (0, 0))
theorem Cut.step {w wr : World} {Z : Array Value} {n k : Nat} (h : Cut w wr Z n k) (hk : k < n) : Cut w ((wr.setCell ⟨w.heap.size + 1, k, none⟩ (.slice (some ⟨w.heap.size, 64 * k, none⟩) 64 64)).drew) Z n (k + 1) := by
  refine ⟨(h.kep.setCell (by simp) _).drew, ?_, ?_, ?_⟩
  · rw [heap_drew, heap_setCell_other _ _ _ _ (by simp)]; exact h.row
  · rw [heap_drew, heap_setCell_row h.fr, ← cutF_set _ _ _ hk]; simp
  · rw [heap_drew, heap_setCell_other _ _ _ _ (by simp)]; exact h.box

set_option maxRecDepth 100000 in
theorem cut_any (w : World) (n : Nat) (h1 : (1 : Int) ≤ n) (h2 : (n : Int) ≤ 512) :
    Calls Try.prog 48 #[.int .i64 n] w fun e w' => e = .returned (.pointer (some ⟨w.heap.size + 2, 0, none⟩)) ∧ Kep w w' ∧ w'.heap[w.heap.size]? = some (.cells (byt (List.replicate (64 * n) 0)).toArray 5 (0, 0)) ∧
      w'.heap[w.heap.size + 1]? = some (.cells (frs w.heap.size (List.range n)).toArray 52 (0, 0)) ∧ w'.heap[w.heap.size + 2]? = some (.cells #[.slice (some ⟨w.heap.size + 1, 0, none⟩) n n] 99 (0, 0)) := by
  have m1 := make_row (n * 64) (by omega)
  have m2 := make_frames n (by omega)
  have e1 : ((n * 64 : Nat) : Int) = (n : Int) * 64 := by omega
  rw [e1] at m1
  have e2 : 64 * n = n * 64 := by omega
  rw [e2]
  clear e1 e2
  generalize (byt (List.replicate (n * 64) 0)).toArray = Z at m1
  rw [← cutF_zero w.heap.size n] at m2
  go_enter Try.func48, Try.ntmps48
  go_wp2
  go_loopw [16] (fun i wr => ∃ k : Nat, (k : Int) ≤ n ∧ i = .int .i64 k ∧ Hid (Cut w wr Z n k)) (fun i _ => n - (intOf i).toNat)
  case atStart =>
    refine ⟨0, by omega, rfl, ⟨(((Kep.refl _).alloc _).alloc _).alloc _, ?_, ?_, ?_⟩⟩
    · exact (hsk _ _ _ (by simp; omega)).trans ((hsk _ _ _ (by simp)).trans (hat _ _ _ rfl))
    · exact (hsk _ _ _ (by simp)).trans (hat _ _ _ (by simp))
    · exact hat _ _ _ (by simp)
  case round =>
    obtain ⟨k, hk, rfl, C⟩ := hrel
    clear m1 m2
    have c1 : wr.cell? ⟨w.heap.size + 2, 0, none⟩ = some (.slice (some ⟨w.heap.size + 1, 0, none⟩) n n) := by rw [cell_of_block C.out.box]; rfl
    by_cases hlt : k < n
    · have c2 : wr.cell? ⟨w.heap.size + 1, k, none⟩ = some (.slice none 0 0) := by rw [cell_of_block C.out.fr]; simpa using cutF_at _ n k hlt
      have f2 : wr.frozen? ⟨w.heap.size + 1, k, none⟩ = false := by simp [World.frozen?, C.out.fr]
      have hlt' : (k : Int) < n := by omega
      go_wp2
      go_region
      all_goals
        go_wp2
        go_roundw
        case rel =>
          have e1 : (k + 1) * 64 - k * 64 = 64 := by omega
          have e2 : k * 64 = 64 * k := by omega
          rw [e1, e2]
          exact ⟨k + 1, by omega, by go_num, C.out.step hlt⟩
        case measure => simp [intOf]; omega
    · obtain rfl : k = n := by omega
      go_wp2
      go_ret
      rw [← cutF_all]
      exact ⟨rfl, C.out.kep, C.out.row, C.out.fr, C.out.box⟩

/-- v is a memory of n frames of its own, with the bytes B in its row R, that was made behind w. -/
structure Own (w w' : World) (v : Value) (R n : Nat) (B : List Int) : Prop where
  kep : Kep w w'
  ram : Ram w' v R (List.range n)
  row : RowB w' R B
  len : B.length = 64 * n
  byts : Byts B
  ge : w.heap.size ≤ R
  pos : 1 ≤ n
  le : n ≤ 512
  sz : w.heap.size + 3 ≤ w'.heap.size
theorem byts_zero (n : Nat) : Byts (List.replicate n 0) := by
  intro b hb
  have := (List.mem_replicate.1 hb).2
  subst this; decide
theorem fits_range {B : List Int} {n : Nat} (h : B.length = 64 * n) : Fits B (List.range n) := by
  intro i hi
  have := List.mem_range.1 hi
  omega
theorem pos_range {n a : Nat} (h : a < 64 * n) : pos (List.range n) a = a := by
  have h1 : a / 64 < n := by omega
  have : (List.range n).getD (a / 64) 0 = a / 64 := by simp [List.getD, h1]
  unfold pos
  rw [this]; omega
theorem cut_own (w : World) (n : Nat) (h1 : 1 ≤ n) (h2 : n ≤ 512) :
    Calls Try.prog 48 #[.int .i64 n] w fun e w' => ∃ v : Value, e = .returned v ∧ Own w w' v w.heap.size n (List.replicate (64 * n) 0) := by
  refine (cut_any w n (by omega) (by omega)).mono ?_
  rintro e w' ⟨rfl, k, r, f, b⟩
  refine ⟨_, rfl, k, .inr (.inr ⟨_, _, rfl, ?_, f, by omega, by omega, ?_⟩), fun _ => r, by simp, byts_zero _, Nat.le_refl _, h1, h2, block_lt b⟩
  · simpa using b
  · intro e
    have := congrArg List.length e
    simp at this; omega

theorem new_any (w : World) (n : Nat) (h1 : 1 ≤ n) (h2 : n ≤ 512) :
    Calls Try.prog 22 #[.int .i64 n] w fun e w' => ∃ p : Nat, e = .returned (.tuple #[.pointer (some ⟨p, 0, none⟩), .int .i64 0]) ∧ Own w w' (.pointer (some ⟨p, 0, none⟩)) w.heap.size n (List.replicate (64 * n) 0) := by
  have hc : Hid (Calls Try.prog 48 #[.int .i64 n] w fun e w' => ∃ v : Value, e = .returned v ∧ Own w w' v w.heap.size n (List.replicate (64 * n) 0)) := cut_own w n h1 h2
  have g1 : (1 : Int) ≤ n := by omega
  have g2 : (n : Int) ≤ 512 := by omega
  have g3 : decide ((n : Int) < 1) = false := decide_eq_false (by omega)
  go_enter Try.func22, Try.ntmps22
  go_wp2_with (go_at_call 48; refine hc.out.mono ?_; rintro e w1 ⟨v, rfl, O⟩)
  go_ret2
  rcases O.ram with ⟨h, _⟩ | ⟨h, _⟩ | ⟨p, F, rfl, _⟩
  · have := congrArg List.length h
    simp at this; omega
  · have := congrArg List.length h
    simp at this; omega
  · exact ⟨p, rfl, O⟩
theorem new_no (w : World) (n : Int) (h : n < 1 ∨ 512 < n) :
    Calls Try.prog 22 #[.int .i64 n] w fun e w' => e = .returned (.tuple #[.pointer none, .int .i64 2]) ∧ w' = w := by
  rcases (by omega : n < 1 ∨ (1 ≤ n ∧ 512 < n)) with h | ⟨h, h'⟩
  · have g3 : decide (n < 1) = true := decide_eq_true (by omega)
    go_enter Try.func22, Try.ntmps22
    go_wp2_with fail
    go_ret2
    exact ⟨rfl, rfl⟩
  · have g3 : decide (n < 1) = false := decide_eq_false (by omega)
    go_enter Try.func22, Try.ntmps22
    go_wp2_with fail
    go_ret2
    exact ⟨rfl, rfl⟩
end Go.Proofs.Ythgkkjcemjadoaa
