/- A pool beside the document's. -/
import Derived.Test.YtjigjhmimocahaaPlcode
import Derived.Test.YtjigjhmimocahaaPlref
import Derived.Deep.RegionHeld3
namespace Go.Proofs.Ytjigjhmimocahaa
open Go.RowKit
set_option linter.unusedVariables false
set_option linter.unusedSimpArgs false

structure PMid (w wr : World) (p M q R : Nat) (f : Int) (L L2 : List Bool) (g m : Int) : Prop where
  pool : PoolAt wr p M f L g m
  ref : RPool wr q R f L2
  kep : Kep w wr
  new : w.heap.size ≤ p ∧ w.heap.size ≤ M ∧ w.heap.size ≤ q ∧ w.heap.size ≤ R
theorem off_tags {w : World} {a b : Nat} {cs ds : Array Value} {t u : TypeId} {fr fs : Nat × Nat} (h : w.heap[a]? = some (.cells cs t fr)) (k : w.heap[b]? = some (.cells ds u fs)) (hn : t ≠ u) : a ≠ b := by
  rintro rfl; rw [h] at k; simp at k; exact hn k.2.1
theorem PMid.ne {w wr : World} {p M q R : Nat} {f : Int} {L L2 : List Bool} {g m : Int} (h : PMid w wr p M q R f L L2 g m) : q ≠ p ∧ q ≠ M ∧ R ≠ p ∧ R ≠ M :=
  ⟨off_tags h.ref.box h.pool.box (by decide), (h.pool.set.ne h.ref.box).symm, off_tags h.ref.row h.pool.box (by decide), (h.pool.set.ne h.ref.row).symm⟩
theorem PMid.kp {w wr w' : World} {p M q R : Nat} {f : Int} {L L2 : List Bool} {g m : Int} (h : PMid w wr p M q R f L L2 g m) (k : Kep wr w') : PMid w w' p M q R f L L2 g m := ⟨h.pool.kep k, h.ref.kep k, kep_trans h.kep k, h.new⟩
theorem PMid.turn {w wr w' : World} {p M q R : Nat} {f : Int} {L L' L2 : List Bool} {g m g' m' : Int} (h : PMid w wr p M q R f L L2 g m) (a : PoolAt w' p M f L' g' m') (k : Put [p, M] wr w') : PMid w w' p M q R f L' L2 g' m' :=
  ⟨a, h.ref.put k (by have := h.ne; simp; exact ⟨this.1, this.2.1⟩) (by have := h.ne; simp; exact ⟨this.2.2.1, this.2.2.2⟩), h.kep.put k (by have := h.new; simp; omega), h.new⟩
theorem PMid.rturn {w wr w' : World} {p M q R : Nat} {f : Int} {L L2 L' : List Bool} {g m : Int} (h : PMid w wr p M q R f L L2 g m) (a : RPool w' q R f L') (k : Put [R] wr w') : PMid w w' p M q R f L L' g m :=
  ⟨h.pool.put k (by have := h.ne; simp; exact this.2.2.1.symm) (by have := h.ne; simp; exact this.2.2.2.symm), a, h.kep.put k (by have := h.new; simp; omega), h.new⟩
theorem PMid.take {w wr : World} {p M q R : Nat} {f : Int} {L L2 : List Bool} {g m : Int} (h : PMid w wr p M q R f L L2 g m) (hg : 0 ≤ g ∧ g < 1000000) (hm : 0 ≤ m ∧ m < 1000000) :
    Calls Try.prog 8 #[.pointer (some ⟨p, 0, none⟩)] wr fun e w' => e = .returned (leastR f L) ∧ (if leastL L < L.length then PMid w w' p M q R f (takeL L) L2 (g + 1) m else PMid w w' p M q R f L L2 g (m + 1)) := by
  refine (ptake_any wr p M f L g m h.pool hg hm).mono ?_
  rintro e w' ⟨rfl, a, k⟩
  refine ⟨rfl, ?_⟩
  split
  · rename_i hl; rw [if_pos hl] at a; exact h.turn a k
  · rename_i hl; rw [if_neg hl] at a; exact h.turn a k
theorem PMid.rtake {w wr : World} {p M q R : Nat} {f : Int} {L L2 : List Bool} {g m : Int} (h : PMid w wr p M q R f L L2 g m) :
    Calls Try.prog 9 #[.pointer (some ⟨q, 0, none⟩)] wr fun e w' => e = .returned (leastR f L2) ∧ PMid w w' p M q R f L (takeL L2) g m := by
  refine (rptake_any wr q R f L2 h.ref).mono ?_
  rintro e w' ⟨rfl, a, k⟩
  exact ⟨rfl, h.rturn a k⟩
theorem PMid.give {w wr : World} {p M q R : Nat} {f : Int} {L L2 : List Bool} {g m : Int} (h : PMid w wr p M q R f L L2 g m) (j : Int) (hj : I6 j) :
    Calls Try.prog 10 #[.pointer (some ⟨p, 0, none⟩), .int .i64 j] wr fun e w' => e = .returned (.bool (lentF f L j)) ∧ PMid w w' p M q R f (giveL f L j) L2 g m := by
  refine (pgive_any wr p M f L g m h.pool j hj).mono ?_
  rintro e w' ⟨rfl, a, k⟩
  exact ⟨rfl, h.turn a (k.mono (by simp))⟩
theorem PMid.rgive {w wr : World} {p M q R : Nat} {f : Int} {L L2 : List Bool} {g m : Int} (h : PMid w wr p M q R f L L2 g m) (j : Int) (hj : I6 j) :
    Calls Try.prog 11 #[.pointer (some ⟨q, 0, none⟩), .int .i64 j] wr fun e w' => e = .returned (.bool (lentF f L2 j)) ∧ PMid w w' p M q R f L (giveL f L2 j) g m := by
  refine (rpgive_any wr q R f L2 h.ref j hj).mono ?_
  rintro e w' ⟨rfl, a, k⟩
  exact ⟨rfl, h.rturn a k⟩
theorem PMid.reset {w wr : World} {p M q R : Nat} {f : Int} {L L2 : List Bool} {g m : Int} (h : PMid w wr p M q R f L L2 g m) :
    Calls Try.prog 12 #[.pointer (some ⟨p, 0, none⟩)] wr fun e w' => e = .returned (.tuple #[]) ∧ PMid w w' p M q R f (List.replicate L.length false) L2 g m := by
  refine (preset_any wr p M f L g m h.pool).mono ?_
  rintro e w' ⟨rfl, a, k⟩
  exact ⟨rfl, h.turn a (k.mono (by simp))⟩
theorem PMid.left {w wr : World} {p M q R : Nat} {f : Int} {L L2 : List Bool} {g m : Int} (h : PMid w wr p M q R f L L2 g m) :
    Calls Try.prog 13 #[.pointer (some ⟨p, 0, none⟩)] wr fun e w' => e = .returned (.int .i64 (L.length - nTrue L)) ∧ PMid w w' p M q R f L L2 g m := by
  refine (pleft_any wr p M f L g m h.pool).mono ?_
  rintro e w' ⟨rfl, k⟩
  exact ⟨rfl, h.kp k⟩
theorem PMid.rleft {w wr : World} {p M q R : Nat} {f : Int} {L L2 : List Bool} {g m : Int} (h : PMid w wr p M q R f L L2 g m) :
    Calls Try.prog 14 #[.pointer (some ⟨q, 0, none⟩)] wr fun e w' => e = .returned (.int .i64 (L2.length - nTrue L2)) ∧ PMid w w' p M q R f L L2 g m := by
  refine (rpleft_any wr q R f L2 h.ref).mono ?_
  rintro e w' ⟨rfl, rfl⟩
  exact ⟨rfl, h⟩
theorem PMid.counts {w wr : World} {p M q R : Nat} {f : Int} {L L2 : List Bool} {g m : Int} (h : PMid w wr p M q R f L L2 g m) :
    Calls Try.prog 15 #[.pointer (some ⟨p, 0, none⟩)] wr fun e w' => e = .returned (.tuple #[.int .i64 g, .int .i64 m]) ∧ PMid w w' p M q R f L L2 g m := by
  refine (pcounts_any wr p M f L g m h.pool).mono ?_
  rintro e w' ⟨rfl, k⟩
  exact ⟨rfl, h.kp k⟩
theorem info_bool : (Try.prog.info? 4).map (fun i => (i.zero, i.size, i.bytes)) = some (some (.bool false), 1, 1) := by kernel_rfl
theorem made_bools (n : Nat) : madeCells #[.bool false] (n * 1) = (bools (List.replicate n false)).toArray := by
  apply Array.ext
  · simp [madeCells, bools]
  · intro i h1 h2
    simp [madeCells, bools, Nat.mod_one]
theorem make_bools (s : Nat) (hs : s ≤ 600) (w : World) : Sem.run Try.prog (Instr.makeSlice 28 (.int .i64 s) (.int .i64 s)) w = .ok (.slice (some ⟨w.heap.size, 0, none⟩) s s) (w.alloc (.cells (bools (List.replicate s false)).toArray 4)) := by
  obtain ⟨i, hi, hz0, hz1, hz2⟩ := info_parts info_bool
  have := run_make (P := Try.prog) w 28 4 i _ Try.underlying28 hi hz0 .i64 .i64 s s (by omega) (by omega) (by rw [hz2]; omega) (by omega)
  rw [hz1] at this
  rw [← made_bools]
  exact this
theorem PMid.fresh {w wr : World} {p M q R n : Nat} {f : Int} {L L2 : List Bool} {g m : Int} (h : PMid w wr p M q R f L L2 g m) (hn : L2.length = n) :
    PMid w ((wr.setCell ⟨q, 1, none⟩ (.slice (some ⟨wr.heap.size, 0, none⟩) n n)).alloc (.cells (bools (List.replicate n false)).toArray 4)) p M q wr.heap.size f L (List.replicate n false) g m := by
  subst hn
  have hq := block_lt h.ref.box
  have k : Put [q] wr ((wr.setCell ⟨q, 1, none⟩ (.slice (some ⟨wr.heap.size, 0, none⟩) L2.length L2.length)).alloc (.cells (bools (List.replicate L2.length false)).toArray 4)) := ((Put.refl _).setCell (by simp) _).alloc _
  have ne := h.ne
  refine ⟨h.pool.put k (by simp; exact ne.1.symm) (by simp; exact ne.2.1.symm), ⟨?_, ?_, by simpa using h.ref.rng, by omega⟩, h.kep.put k (by have := h.new; simp; omega), by have := h.new; have := h.kep.size; omega⟩
  · rw [List.length_replicate]
    exact (hsk _ _ _ (by simpa using hq)).trans ((heap_setCell_row h.ref.box _).trans rfl)
  · exact hat _ _ _ (by simp)
end Go.Proofs.Ytjigjhmimocahaa
