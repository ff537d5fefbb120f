/- A pool beside a row of what is out. -/
import Derived.Test.YtjigjhmimocahaaPlplay
import Derived.Test.YtjigjhmimocahaaIrow
namespace Go.Proofs.Ytjigjhmimocahaa
open Go.RowKit
set_option linter.unusedVariables false
set_option linter.unusedSimpArgs false

def outL (f : Int) (L : List Bool) : List Bool := (List.range 600).map fun (i : Nat) => lentF f L (i : Int)
theorem outL_len (f : Int) (L : List Bool) : (outL f L).length = 600 := by simp [outL]
theorem outL_at (f : Int) (L : List Bool) {j : Nat} (h : j < 600) : (outL f L)[j]? = some (lentF f L j) := by simp [outL, h]
theorem outL_ext (f : Int) {L : List Bool} {L' : List Bool} {j : Nat} {b : Bool} (h : ∀ i : Nat, lentF f L' i = if i = j then b else lentF f L i) : outL f L' = (outL f L).set j b := by
  apply List.ext_getElem?
  intro i
  rw [List.getElem?_set]
  rcases Nat.lt_or_ge i 600 with hi | hi
  · rw [outL_at _ _ hi, outL_at _ _ hi, h i]
    by_cases e : j = i
    · subst e; simp [outL_len, hi]
    · rw [if_neg e, if_neg (fun g => e g.symm)]
  · rw [List.getElem?_eq_none (by rw [outL_len]; exact hi), List.getElem?_eq_none (by rw [outL_len]; exact hi)]
    by_cases e : j = i
    · subst e; rw [if_pos rfl, if_neg (by rw [outL_len]; omega)]
    · rw [if_neg e]
theorem outL_take {f : Int} {L : List Bool} {k j : Nat} (hk : k < L.length) (e : f + k = j) : outL f (L.set k true) = (outL f L).set j true := by
  refine outL_ext f fun i => ?_
  rw [← lentF_ins f L k hk, e]
  by_cases h : i = j
  · subst h; simp [insF]
  · rw [if_neg h]; simp [insF, show ¬ (i : Int) = j by omega]
theorem outL_give (f : Int) (L : List Bool) (j : Nat) : outL f (giveL f L j) = (outL f L).set j false := by
  refine outL_ext f fun i => ?_
  unfold giveL
  by_cases g : f ≤ (j : Int)
  · rw [if_pos g, ← lentF_del f L]
    have e : f + (((j : Int) - f).toNat : Int) = j := by omega
    rw [e]
    by_cases h : i = j
    · subst h; simp [delF]
    · rw [if_neg h]; simp [delF, show ¬ (i : Int) = j by omega]
  · rw [if_neg g]
    by_cases h : i = j
    · subst h; rw [if_pos rfl]; exact lentF_off (.inl (by omega))
    · rw [if_neg h]
theorem outL_none (f : Int) (n : Nat) : outL f (List.replicate n false) = List.replicate 600 false := by
  unfold outL
  generalize 600 = N
  apply List.ext_getElem
  · rw [List.length_map, List.length_range, List.length_replicate]
  · intro i h1 h2
    rw [List.getElem_map, List.getElem_replicate, lentF_none]

structure PAp (w wr : World) (p M R : Nat) (f : Int) (L L2 : List Bool) (g m : Int) : Prop where
  pool : PoolAt wr p M f L g m
  row : wr.heap[R]? = some (.cells (bools (outL f L2)).toArray 4 (0, 0))
  kep : Kep w wr
  new : w.heap.size ≤ p ∧ w.heap.size ≤ M ∧ w.heap.size ≤ R
theorem PAp.ne {w wr : World} {p M R : Nat} {f : Int} {L L2 : List Bool} {g m : Int} (h : PAp w wr p M R f L L2 g m) : R ≠ p ∧ R ≠ M :=
  ⟨off_tags h.row h.pool.box (by decide), (h.pool.set.ne h.row).symm⟩
theorem PAp.kp {w wr w' : World} {p M R : Nat} {f : Int} {L L2 : List Bool} {g m : Int} (h : PAp w wr p M R f L L2 g m) (k : Kep wr w') : PAp w w' p M R f L L2 g m := ⟨h.pool.kep k, k.block h.row, kep_trans h.kep k, h.new⟩
theorem PAp.turn {w wr w' : World} {p M R : Nat} {f : Int} {L L' L2 : List Bool} {g m g' m' : Int} (h : PAp w wr p M R f L L2 g m) (a : PoolAt w' p M f L' g' m') (k : Put [p, M] wr w') : PAp w w' p M R f L' L2 g' m' :=
  ⟨a, k.keeps h.row (by have := h.ne; simp; exact this), h.kep.put k (by have := h.new; simp; omega), h.new⟩
theorem PAp.at {w wr : World} {p M R : Nat} {f : Int} {L L2 : List Bool} {g m : Int} (h : PAp w wr p M R f L L2 g m) {j : Nat} (hj : j < 600) : wr.cell? ⟨R, j, none⟩ = some (.bool (lentF f L2 j)) := by
  rw [cell_of_block h.row]
  simp [bools, outL_at f L2 hj]
theorem PAp.frz {w wr : World} {p M R : Nat} {f : Int} {L L2 : List Bool} {g m : Int} (h : PAp w wr p M R f L L2 g m) (j : Nat) : wr.frozen? ⟨R, j, none⟩ = false := by simp [World.frozen?, h.row]
theorem PAp.set {w wr : World} {p M R : Nat} {f : Int} {L L2 L3 : List Bool} {g m : Int} (h : PAp w wr p M R f L L2 g m) (j : Nat) (b : Bool) (e : outL f L3 = (outL f L2).set j b) : PAp w (wr.setCell ⟨R, j, none⟩ (.bool b)) p M R f L L3 g m := by
  have k : Put [R] wr (wr.setCell ⟨R, j, none⟩ (.bool b)) := (Put.refl _).setCell (by simp) _
  refine ⟨h.pool.put k (by have := h.ne; simp; exact this.1.symm) (by have := h.ne; simp; exact this.2.symm), ?_, h.kep.put k (by have := h.new; simp; omega), h.new⟩
  rw [heap_setCell_row h.row, e]; simp [bools, List.map_set]
theorem PAp.take {w wr : World} {p M R : Nat} {f : Int} {L L2 : List Bool} {g m : Int} (h : PAp w wr p M R f L L2 g m) (hg : 0 ≤ g ∧ g < 1000000) (hm : 0 ≤ m ∧ m < 1000000) :
    Calls Try.prog 8 #[.pointer (some ⟨p, 0, none⟩)] wr fun e w' => e = .returned (leastR f L) ∧ (if leastL L < L.length then PAp w w' p M R f (takeL L) L2 (g + 1) m else PAp w w' p M R f L L2 g (m + 1)) := by
  refine (ptake_any wr p M f L g m h.pool hg hm).mono ?_
  rintro e w' ⟨rfl, a, k⟩
  refine ⟨rfl, ?_⟩
  split
  · rename_i hl; rw [if_pos hl] at a; exact h.turn a k
  · rename_i hl; rw [if_neg hl] at a; exact h.turn a k
theorem PAp.give {w wr : World} {p M R : Nat} {f : Int} {L L2 : List Bool} {g m : Int} (h : PAp w wr p M R f L L2 g m) (j : Int) (hj : I6 j) :
    Calls Try.prog 10 #[.pointer (some ⟨p, 0, none⟩), .int .i64 j] wr fun e w' => e = .returned (.bool (lentF f L j)) ∧ PAp w w' p M R f (giveL f L j) L2 g m := by
  refine (pgive_any wr p M f L g m h.pool j hj).mono ?_
  rintro e w' ⟨rfl, a, k⟩
  exact ⟨rfl, h.turn a (k.mono (by simp))⟩
theorem PAp.left {w wr : World} {p M R : Nat} {f : Int} {L L2 : List Bool} {g m : Int} (h : PAp w wr p M R f L L2 g m) :
    Calls Try.prog 13 #[.pointer (some ⟨p, 0, none⟩)] wr fun e w' => e = .returned (.int .i64 (L.length - nTrue L)) ∧ PAp w w' p M R f L L2 g m := by
  refine (pleft_any wr p M f L g m h.pool).mono ?_
  rintro e w' ⟨rfl, k⟩
  exact ⟨rfl, h.kp k⟩
theorem nTrue_give (f : Int) (L : List Bool) (j : Nat) : (nTrue (giveL f L j) : Int) = nTrue L - (bif lentF f L j then 1 else 0) := by
  cases h : lentF f L j
  · rw [giveL_no h]; simp
  · have g : f ≤ (j : Int) := by
      rcases Int.lt_or_le (j : Int) f with g | g
      · rw [lentF_off (.inl g)] at h; cases h
      · exact g
    have hk : L.getD ((j : Int) - f).toNat false = true := by simpa [lentF, g] using h
    have hk2 : ((j : Int) - f).toNat < L.length := by
      rcases Nat.lt_or_ge ((j : Int) - f).toNat L.length with hk2 | hk2
      · exact hk2
      · rw [List.getD, List.getElem?_eq_none hk2] at hk; cases hk
    unfold giveL
    rw [if_pos g, nTrue_del hk2 hk]
    have : 0 < nTrue L := by
      unfold nTrue
      rw [List.count_pos_iff]
      have : L[((j : Int) - f).toNat] = true := by simpa [List.getD, hk2] using hk
      rw [← this]; exact List.getElem_mem _
    simp; omega
end Go.Proofs.Ytjigjhmimocahaa
