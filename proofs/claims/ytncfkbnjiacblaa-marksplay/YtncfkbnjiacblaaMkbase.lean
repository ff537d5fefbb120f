/- Marks: their box, which frames bear which. -/
import Derived.Test.YtncfkbnjiacblaaGset
namespace Go.Proofs.Ytncfkbnjiacblaa
open Go.RowKit
set_option linter.unusedVariables false
set_option linter.unusedSimpArgs false

def bls (L : List Bool) : List Value := L.map Value.bool
theorem bls_len (L : List Bool) : (bls L).length = L.length := by simp [bls]
theorem bls_at {L : List Bool} {k : Nat} (h : k < L.length) : (bls L)[k]? = some (.bool (L.getD k false)) := by simp [bls, h, List.getD]
theorem bls_set (L : List Bool) (k : Nat) (b : Bool) : (bls L).set k (.bool b) = bls (L.set k b) := by simp [bls, List.map_set]
theorem bls_one (L : List Bool) : ∀ v ∈ bls L, v.oneCell' = true := by
  intro v hv
  simp only [bls, List.mem_map] at hv
  obtain ⟨b, _, rfl⟩ := hv
  rfl
/-- At x lies a row of bools. -/
def SetAt (w : World) (x : Option Addr) (L : List Bool) : Prop := L = [] ∨ ∃ b : Nat, x = some ⟨b, 0, none⟩ ∧ w.heap[b]? = some (.cells (bls L).toArray 4 (0, 0))
theorem SetAt.kep {w w' : World} {x : Option Addr} {L : List Bool} (h : SetAt w x L) (k : Kep w w') : SetAt w' x L := h.imp id fun ⟨b, e, hb⟩ => ⟨b, e, k.block hb⟩
theorem SetAt.at {w : World} {x : Option Addr} {L : List Bool} (h : SetAt w x L) {k : Nat} (hk : k < L.length) : ∃ b : Nat, x = some ⟨b, 0, none⟩ ∧ w.cell? ⟨b, k, none⟩ = some (.bool (L.getD k false)) ∧ b < w.heap.size := by
  rcases h with rfl | ⟨b, e, hb⟩
  · simp at hk
  · refine ⟨b, e, ?_, block_lt hb⟩
    rw [cell_of_block hb]; simpa using bls_at hk
/-- Whether a frame bears a mark; whether it is there. -/
def bears (L : List Bool) (f : Int) : Bool := decide (0 ≤ f) && L.getD f.toNat false
def isF (n : Nat) (f : Int) : Bool := decide (0 ≤ f) && decide (f < n)
theorem isF_yes {n : Nat} {f : Int} (h0 : 0 ≤ f) (h1 : f < n) : isF n f = true := by simp [isF, h0, h1]
theorem isF_no {n : Nat} {f : Int} (h : f < 0 ∨ n ≤ f) : isF n f = false := by unfold isF; rcases h with h | h <;> simp <;> omega
theorem bears_nat (L : List Bool) (k : Nat) : bears L k = L.getD k false := by simp [bears]
theorem bears_no {L : List Bool} {f : Int} (h : f < 0 ∨ L.length ≤ f) : bears L f = false := by
  rcases h with h | h
  · simp [bears]; omega
  · have : L.length ≤ f.toNat := by omega
    simp [bears, List.getD, List.getElem?_eq_none this]
def putB (L : List Bool) (f : Int) (b : Bool) : List Bool := if 0 ≤ f then L.set f.toNat b else L
theorem putB_len (L : List Bool) (f : Int) (b : Bool) : (putB L f b).length = L.length := by unfold putB; split <;> simp
theorem putB_no {L : List Bool} {f : Int} {b : Bool} (h : f < 0 ∨ L.length ≤ f) : putB L f b = L := by
  unfold putB
  split
  · exact List.set_eq_of_length_le (by omega)
  · rfl
theorem putB_nat (L : List Bool) (k : Nat) (b : Bool) : putB L k b = L.set k b := by simp [putB]
theorem bears_put (L : List Bool) (f : Int) (b : Bool) (g : Int) : bears (putB L f b) g = if g = f ∧ 0 ≤ f ∧ f < L.length then b else bears L g := by
  by_cases h : 0 ≤ f ∧ f < L.length
  · obtain ⟨k, rfl⟩ : ∃ k : Nat, f = k := ⟨f.toNat, by omega⟩
    rw [putB_nat]
    have hk : k < L.length := by omega
    by_cases hg : g = k
    · subst hg
      simp [bears, List.getD, hk]
    · rw [if_neg (fun h => hg h.1)]
      by_cases g0 : 0 ≤ g
      · have : k ≠ g.toNat := by omega
        simp [bears, g0, List.getD, List.getElem?_set_ne this]
      · simp [bears, g0]
  · rw [putB_no (by omega), if_neg (fun g => h g.2)]
def noneB (L : List Bool) : List Bool := List.replicate L.length false
theorem bears_none (L : List Bool) (g : Int) : bears (noneB L) g = false := by
  unfold bears noneB
  by_cases h : g.toNat < L.length
  · simp [List.getD, h]
  · simp [List.getD, h]
/-- The frames below k that bear a mark. -/
def frs (L : List Bool) (k : Nat) : List Int := ((List.range k).filter fun j => L.getD j false).map fun (j : Nat) => (j : Int)
theorem frs_zero (L : List Bool) : frs L 0 = [] := rfl
theorem frs_yes {L : List Bool} {k : Nat} (h : L.getD k false = true) : frs L (k + 1) = frs L k ++ [(k : Int)] := by
  unfold frs; rw [List.range_succ, List.filter_append, List.map_append]
  simp only [List.filter_cons, h, List.filter_nil]; rfl
theorem frs_no {L : List Bool} {k : Nat} (h : L.getD k false = false) : frs L (k + 1) = frs L k := by
  unfold frs; rw [List.range_succ, List.filter_append, List.map_append]
  simp only [List.filter_cons, h, List.filter_nil]; simp
theorem frs_len (L : List Bool) (k : Nat) : (frs L k).length ≤ k := by
  unfold frs; rw [List.length_map]; exact Nat.le_trans (List.length_filter_le _ _) (by simp)
theorem frs_none (L : List Bool) (k : Nat) : frs (noneB L) k = [] := by
  induction k with
  | zero => rfl
  | succ k ih => rw [frs_no (by have := bears_none L k; rwa [bears_nat] at this), ih]
def kindL (L0 L1 : List Bool) (k : Int) : List Bool := if k = 1 then L0 else if k = 2 then L1 else []
/-- Marks, or such as are not there, or that no call made (their rows are empty). -/
def MSt (w : World) (v : Value) (L0 L1 : List Bool) : Prop := (v = .pointer none ∧ L0 = [] ∧ L1 = []) ∨
  ∃ (p : Nat) (x0 x1 : Option Addr), v = .pointer (some ⟨p, 0, none⟩) ∧ w.heap[p]? = some (.cells #[.slice x0 L0.length L0.length, .slice x1 L1.length L1.length] 47 (0, 0)) ∧ SetAt w x0 L0 ∧ SetAt w x1 L1
theorem MSt.kep {w w' : World} {v : Value} {L0 L1 : List Bool} (h : MSt w v L0 L1) (k : Kep w w') : MSt w' v L0 L1 :=
  h.imp id fun ⟨p, x0, x1, e, hb, h0, h1⟩ => ⟨p, x0, x1, e, k.block hb, h0.kep k, h1.kep k⟩
/-- Marks that are made: at p, their rows at b0 and b1. -/
structure MarksAt (w : World) (p b0 b1 : Nat) (L0 L1 : List Bool) : Prop where
  box : w.heap[p]? = some (.cells #[.slice (some ⟨b0, 0, none⟩) L0.length L0.length, .slice (some ⟨b1, 0, none⟩) L1.length L1.length] 47 (0, 0))
  r0 : w.heap[b0]? = some (.cells (bls L0).toArray 4 (0, 0))
  r1 : w.heap[b1]? = some (.cells (bls L1).toArray 4 (0, 0))
  ne : b0 ≠ b1
  le : L0.length = L1.length ∧ 1 ≤ L0.length ∧ (L0.length : Int) ≤ 64
theorem MarksAt.st {w : World} {p b0 b1 : Nat} {L0 L1 : List Bool} (h : MarksAt w p b0 b1 L0 L1) : MSt w (.pointer (some ⟨p, 0, none⟩)) L0 L1 := .inr ⟨p, _, _, rfl, h.box, .inr ⟨_, rfl, h.r0⟩, .inr ⟨_, rfl, h.r1⟩⟩
theorem MarksAt.put {w w' : World} {p b0 b1 : Nat} {L0 L1 : List Bool} {l : List Nat} (h : MarksAt w p b0 b1 L0 L1) (k : Put l w w') (h1 : p ∉ l) (h2 : b0 ∉ l) (h3 : b1 ∉ l) : MarksAt w' p b0 b1 L0 L1 := ⟨k.keeps h.box h1, k.keeps h.r0 h2, k.keeps h.r1 h3, h.ne, h.le⟩
theorem MarksAt.kep {w w' : World} {p b0 b1 : Nat} {L0 L1 : List Bool} (h : MarksAt w p b0 b1 L0 L1) (k : Kep w w') : MarksAt w' p b0 b1 L0 L1 := h.put (l := []) (Put.of_kep k) (by simp) (by simp) (by simp)
theorem box_ne_row {w : World} {p b : Nat} {cs ds : Array Value} {t u : TypeId} {fr fs : Nat × Nat} (h : w.heap[p]? = some (.cells cs t fr)) (k : w.heap[b]? = some (.cells ds u fs)) (hn : t ≠ u) : p ≠ b := by
  rintro rfl; rw [h] at k; simp at k; exact hn k.2.1
theorem MarksAt.pn {w : World} {p b0 b1 : Nat} {L0 L1 : List Bool} (h : MarksAt w p b0 b1 L0 L1) : p ≠ b0 ∧ p ≠ b1 := ⟨box_ne_row h.box h.r0 (by decide), box_ne_row h.box h.r1 (by decide)⟩
theorem MarksAt.set0 {w : World} {p b0 b1 : Nat} {L0 L1 : List Bool} (h : MarksAt w p b0 b1 L0 L1) (k : Nat) (b : Bool) : MarksAt (w.setCell ⟨b0, k, none⟩ (.bool b)) p b0 b1 (L0.set k b) L1 := by
  refine ⟨?_, ?_, ?_, h.ne, by simpa using h.le⟩
  · rw [heap_setCell_other _ _ _ _ h.pn.1]; simpa using h.box
  · rw [heap_setCell_row h.r0]; simp [bls, List.map_set]
  · rw [heap_setCell_other _ _ _ _ h.ne.symm]; exact h.r1
theorem MarksAt.set1 {w : World} {p b0 b1 : Nat} {L0 L1 : List Bool} (h : MarksAt w p b0 b1 L0 L1) (k : Nat) (b : Bool) : MarksAt (w.setCell ⟨b1, k, none⟩ (.bool b)) p b0 b1 L0 (L1.set k b) := by
  refine ⟨?_, ?_, ?_, h.ne, by simpa using h.le⟩
  · rw [heap_setCell_other _ _ _ _ h.pn.2]; simpa using h.box
  · rw [heap_setCell_other _ _ _ _ h.ne]; exact h.r0
  · rw [heap_setCell_row h.r1]; simp [bls, List.map_set]
/-- Marks that are not there, or that no call made. -/
def NoMarks (w : World) (v : Value) : Prop := v = .pointer none ∨ ∃ p : Nat, v = .pointer (some ⟨p, 0, none⟩) ∧ w.heap[p]? = some (.cells #[.slice none 0 0, .slice none 0 0] 47 (0, 0))
theorem NoMarks.st {w : World} {v : Value} (h : NoMarks w v) : MSt w v [] [] := h.imp (fun h => ⟨h, rfl, rfl⟩) fun ⟨p, e, hb⟩ => ⟨p, none, none, e, hb, .inl rfl, .inl rfl⟩
end Go.Proofs.Ytncfkbnjiacblaa
