/- A pool: its box, what is lent; plain rows of bools. -/
import Derived.Test.YthgkkjcemjadoaaGset
namespace Go.Proofs.Ythgkkjcemjadoaa
open Go.RowKit
set_option linter.unusedVariables false
set_option linter.unusedSimpArgs false

/-- Which numbers are lent: frame f + k where the row L has true at k. -/
def lentF (f : Int) (L : List Bool) : Int → Bool := fun j => decide (f ≤ j) && L.getD (j - f).toNat false
theorem lentF_at (f : Int) (L : List Bool) (k : Nat) : lentF f L (f + k) = L.getD k false := by
  have e : (f + (k : Int) - f).toNat = k := by omega
  simp [lentF, e]; omega
theorem lentF_off {f : Int} {L : List Bool} {j : Int} (h : j < f ∨ f + L.length ≤ j) : lentF f L j = false := by
  rcases h with h | h
  · simp [lentF]; omega
  · have : L.length ≤ (j - f).toNat := by omega
    simp [lentF, List.getD, List.getElem?_eq_none this]
theorem lentF_ins (f : Int) (L : List Bool) (k : Nat) (hk : k < L.length) (j : Int) : insF (lentF f L) (f + k) j = lentF f (L.set k true) j := by
  by_cases e : j = f + k
  · subst e
    rw [lentF_at]
    simp [insF, List.getD, hk]
  · by_cases g : f ≤ j
    · have : k ≠ (j - f).toNat := by omega
      simp [insF, e, lentF, g, List.getD, List.getElem?_set_ne this]
    · simp [insF, e, lentF, g]
theorem lentF_del (f : Int) (L : List Bool) (k : Nat) (j : Int) : delF (lentF f L) (f + k) j = lentF f (L.set k false) j := by
  by_cases e : j = f + k
  · subst e
    rw [lentF_at]
    by_cases h : k < L.length
    · simp [delF, List.getD, h]
    · simp [delF, List.getD, h]
  · by_cases g : f ≤ j
    · have : k ≠ (j - f).toNat := by omega
      simp [delF, e, lentF, g, List.getD, List.getElem?_set_ne this]
    · simp [delF, e, lentF, g]
theorem delF_no {f : Int → Bool} {k : Int} (h : f k = false) (j : Int) : delF f k j = f j := by
  by_cases e : j = k
  · subst e; simp [delF, h]
  · simp [delF, e]
theorem lentF_none (f : Int) (n : Nat) (j : Int) : lentF f (List.replicate n false) j = false := by
  by_cases h : (j - f).toNat < n
  · simp [lentF, List.getD, h]
  · simp [lentF, List.getD, h]
def nTrue (L : List Bool) : Nat := L.count true
theorem nTrue_le (L : List Bool) : nTrue L ≤ L.length := List.count_le_length
theorem nTrue_ins {L : List Bool} {k : Nat} (hk : k < L.length) (h : L.getD k false = false) : nTrue (L.set k true) = nTrue L + 1 := by
  have h' : L[k] = false := by simpa [List.getD, hk] using h
  simp [nTrue, List.count_set hk, h']
theorem nTrue_del {L : List Bool} {k : Nat} (hk : k < L.length) (h : L.getD k false = true) : nTrue (L.set k false) = nTrue L - 1 := by
  have h' : L[k] = true := by simpa [List.getD, hk] using h
  simp [nTrue, List.count_set hk, h']
theorem set_same {L : List Bool} {k : Nat} {b : Bool} (hk : k < L.length) (h : L.getD k false = b) : L.set k b = L := by
  have h' : L[k] = b := by simpa [List.getD, hk] using h
  subst h'; simp
theorem nTrue_none (n : Nat) : nTrue (List.replicate n false) = 0 := by simp [nTrue, List.count_replicate]
/-- The least place that is not lent. -/
def leastL (L : List Bool) : Nat := L.findIdx (fun b => !b)
theorem leastL_le (L : List Bool) : leastL L ≤ L.length := List.findIdx_le_length
theorem leastL_is {L : List Bool} {k : Nat} (hk : k < L.length) (h0 : ∀ j, j < k → L.getD j false = true) (h : L.getD k false = false) : leastL L = k := by
  unfold leastL
  rw [List.findIdx_eq hk]
  refine ⟨by simpa [List.getD, hk] using h, fun j hj => ?_⟩
  have := h0 j hj
  have hj' : j < L.length := by omega
  simpa [List.getD, hj'] using this
theorem leastL_no {L : List Bool} (h0 : ∀ j, j < L.length → L.getD j false = true) : leastL L = L.length := by
  unfold leastL
  rw [List.findIdx_eq_length]
  intro x hx
  obtain ⟨j, hj, rfl⟩ := List.mem_iff_getElem.1 hx
  have := h0 j hj
  simpa [List.getD, hj] using this
theorem leastL_at {L : List Bool} (h : leastL L < L.length) : L.getD (leastL L) false = false := by
  have := List.findIdx_getElem (p := fun b => !b) (xs := L) (w := h)
  simp only [leastL] at h ⊢
  simpa [List.getD, h] using this
theorem leastL_full {L : List Bool} : leastL L < L.length ↔ nTrue L < L.length := by
  constructor
  · intro h
    have h1 := leastL_at h
    have := nTrue_ins h h1
    have := nTrue_le (L.set (leastL L) true)
    simp at this; omega
  · intro h
    rcases Nat.lt_or_ge (leastL L) L.length with g | g
    · exact g
    · exfalso
      have e : leastL L = L.length := Nat.le_antisymm (leastL_le L) g
      have : ∀ b ∈ L, b = true := by
        have := List.findIdx_eq_length.1 e
        intro b hb; simpa using this b hb
      have : nTrue L = L.length := by unfold nTrue; rw [List.count_eq_length]; intro b hb; exact (this b hb).symm
      omega

def leastR (f : Int) (L : List Bool) : Value := if leastL L < L.length then .tuple #[.int .i64 (f + (leastL L : Nat)), .bool true] else .tuple #[.int .i64 0, .bool false]
theorem leastR_yes {f : Int} {L : List Bool} {k : Nat} (e : leastL L = k) (h : k < L.length) : leastR f L = .tuple #[.int .i64 (f + (k : Nat)), .bool true] := by unfold leastR; rw [e, if_pos h]
theorem leastR_no {f : Int} {L : List Bool} (e : leastL L = L.length) : leastR f L = .tuple #[.int .i64 0, .bool false] := by unfold leastR; rw [e, if_neg (Nat.lt_irrefl _)]
/-- What Take leaves. -/
def takeL (L : List Bool) : List Bool := L.set (leastL L) true
def giveL (f : Int) (L : List Bool) (j : Int) : List Bool := if f ≤ j then L.set (j - f).toNat false else L
theorem giveL_len (f : Int) (L : List Bool) (j : Int) : (giveL f L j).length = L.length := by unfold giveL; split <;> simp
theorem takeL_no {L : List Bool} (h : leastL L = L.length) : takeL L = L := by unfold takeL; rw [h]; exact List.set_eq_of_length_le (Nat.le_refl _)
theorem giveL_no {f : Int} {L : List Bool} {j : Int} (h : lentF f L j = false) : giveL f L j = L := by
  unfold giveL
  split
  · rename_i g
    rcases Nat.lt_or_ge (j - f).toNat L.length with hk | hk
    · exact set_same hk (by simpa [lentF, g] using h)
    · exact List.set_eq_of_length_le hk
  · rfl

/-- At p lies a pool: frames from f on, L says which are lent (map M), g true takes, m false ones. -/
structure PoolAt (w : World) (p M : Nat) (f : Int) (L : List Bool) (g m : Int) : Prop where
  box : w.heap[p]? = some (.cells #[.int .i64 f, .int .i64 L.length, .map (some M), .int .i64 g, .int .i64 m] 84 (0, 0))
  set : SetI w M (lentF f L) (nTrue L)
  rng : 0 ≤ f ∧ f + L.length ≤ 512
theorem PoolAt.put {w w' : World} {p M : Nat} {f : Int} {L : List Bool} {g m : Int} {l : List Nat} (h : PoolAt w p M f L g m) (k : Put l w w') (h1 : p ∉ l) (h2 : M ∉ l) : PoolAt w' p M f L g m :=
  ⟨k.keeps h.box h1, h.set.put k h2, h.rng⟩
theorem PoolAt.kep {w w' : World} {p M : Nat} {f : Int} {L : List Bool} {g m : Int} (h : PoolAt w p M f L g m) (k : Kep w w') : PoolAt w' p M f L g m := h.put (l := []) (Put.of_kep k) (by simp) (by simp)
theorem PoolAt.ne {w : World} {p M : Nat} {f : Int} {L : List Bool} {g m : Int} (h : PoolAt w p M f L g m) : M ≠ p := h.set.ne h.box
theorem PoolAt.c0 {w : World} {p M : Nat} {f : Int} {L : List Bool} {g m : Int} (h : PoolAt w p M f L g m) : w.cell? ⟨p, 0, none⟩ = some (.int .i64 f) := by rw [cell_of_block h.box]; rfl
theorem PoolAt.c1 {w : World} {p M : Nat} {f : Int} {L : List Bool} {g m : Int} (h : PoolAt w p M f L g m) : w.cell? ⟨p, 1, none⟩ = some (.int .i64 L.length) := by rw [cell_of_block h.box]; rfl
theorem PoolAt.c2 {w : World} {p M : Nat} {f : Int} {L : List Bool} {g m : Int} (h : PoolAt w p M f L g m) : w.cell? ⟨p, 2, none⟩ = some (.map (some M)) := by rw [cell_of_block h.box]; rfl
theorem PoolAt.c3 {w : World} {p M : Nat} {f : Int} {L : List Bool} {g m : Int} (h : PoolAt w p M f L g m) : w.cell? ⟨p, 3, none⟩ = some (.int .i64 g) := by rw [cell_of_block h.box]; rfl
theorem PoolAt.c4 {w : World} {p M : Nat} {f : Int} {L : List Bool} {g m : Int} (h : PoolAt w p M f L g m) : w.cell? ⟨p, 4, none⟩ = some (.int .i64 m) := by rw [cell_of_block h.box]; rfl
theorem PoolAt.hit {w : World} {p M : Nat} {f : Int} {L : List Bool} {g m : Int} (h : PoolAt w p M f L g m) (b : Int) : PoolAt (w.setCell ⟨p, 3, none⟩ (.int .i64 b)) p M f L b m :=
  ⟨(heap_setCell_row h.box _).trans rfl, h.set.put ((Put.refl (l := [p]) _).setCell (by simp) _) (by simp; exact h.ne), h.rng⟩
theorem PoolAt.miss {w : World} {p M : Nat} {f : Int} {L : List Bool} {g m : Int} (h : PoolAt w p M f L g m) (b : Int) : PoolAt (w.setCell ⟨p, 4, none⟩ (.int .i64 b)) p M f L g b :=
  ⟨(heap_setCell_row h.box _).trans rfl, h.set.put ((Put.refl (l := [p]) _).setCell (by simp) _) (by simp; exact h.ne), h.rng⟩
/-- A pool that is not there, or that no call made. -/
def NoPool (w : World) (v : Value) : Prop := v = .pointer none ∨ ∃ p : Nat, v = .pointer (some ⟨p, 0, none⟩) ∧ w.heap[p]? = some (.cells #[.int .i64 0, .int .i64 0, .map none, .int .i64 0, .int .i64 0] 84 (0, 0))
end Go.Proofs.Ythgkkjcemjadoaa
