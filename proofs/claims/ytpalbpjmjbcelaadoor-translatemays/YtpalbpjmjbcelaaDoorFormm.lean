/- The forms of operations as numbers: the rows of the code's two tables, the row of an operation, and that the document's tests lead to the same row. -/
import Derived.Test.YtpalbpjmjbcelaaDoorLaid
namespace Go.Proofs.YtpalbpjmjbcelaaDoor
open Go.RowKit

def sLo (k : Nat) : Int := [0, 16, 32, 33, 48, 56, 58, 64, 73, 80, 96, 98, 112, 113].getD k 0
def sHi (k : Nat) : Int := [3, 31, 32, 33, 55, 57, 58, 72, 74, 80, 97, 101, 112, 113].getD k 0
def sRow (k : Nat) : Nat := [1, 3, 9, 5, 6, 2, 3, 7, 2, 4, 2, 3, 4, 8].getD k 0
def sHost (k : Nat) : Bool := [false, false, false, false, false, false, false, false, false, false, false, false, true, true].getD k false
def f0 (r : Nat) : Int := [0, 1, 1, 1, 1, 1, 1, 1, 1, 1].getD r 0
def f1 (r : Nat) : Int := [0, 0, 7, 7, 0, 7, 7, 0, 0, 7].getD r 0
def f2 (r : Nat) : Int := [0, 0, 0, 7, 0, 0, 7, 0, 0, 0].getD r 0
def f3 (r : Nat) : Int := [0, 0, 0, 0, 1, 1, 1, 2, 2, 4].getD r 0
def f4 (r : Nat) : Int := [0, 0, 0, 0, 0, 1, 1, 1, 0, 1].getD r 0

def spanA (k : Nat) : Array Value := #[.int .u8 (sLo k), .int .u8 (sHi k), .int .u8 (sRow k), .bool (sHost k)]
def formA (r : Nat) : Array Value := #[.int .u8 (f0 r), .int .u8 (f1 r), .int .u8 (f2 r), .int .u8 (f3 r), .int .u8 (f4 r)]
def spansC : Array Value := ((List.range 14).flatMap fun k => (spanA k).toList).toArray
def formsC : Array Value := ((List.range 10).flatMap fun r => (formA r).toList).toArray

def Tabs (w : World) : Prop := (∃ t, w.heap[0]? = some (.cells formsC t (0, 0))) ∧ ∃ t, w.heap[1]? = some (.cells spansC t (0, 0))
theorem Tabs.grown {w w' : World} (h : Tabs w) (g : Kep w w') : Tabs w' := by
  obtain ⟨⟨t, h0⟩, t1, h1⟩ := h
  exact ⟨⟨t, g.block h0⟩, t1, g.block h1⟩

theorem formsC_at (r j : Nat) (hr : r < 10) (hj : j < 5) : formsC[r * 5 + j]? = (formA r)[j]? := by
  have h : ∀ r, r < 10 → ∀ j, j < 5 → formsC[r * 5 + j]? = (formA r)[j]? := by
    intro r hr j hj
    rcases (by omega : r = 0 ∨ r = 1 ∨ r = 2 ∨ r = 3 ∨ r = 4 ∨ r = 5 ∨ r = 6 ∨ r = 7 ∨ r = 8 ∨ r = 9) with rfl | rfl | rfl | rfl | rfl | rfl | rfl | rfl | rfl | rfl <;>
      rcases (by omega : j = 0 ∨ j = 1 ∨ j = 2 ∨ j = 3 ∨ j = 4) with rfl | rfl | rfl | rfl | rfl <;> rfl
  exact h r hr j hj
theorem Tabs.form {w : World} (h : Tabs w) (r : Nat) (hr : r < 10) : w.cell? ⟨0, r * 5, none⟩ = some (.int .u8 (f0 r)) ∧ w.cell? ⟨0, r * 5 + 1, none⟩ = some (.int .u8 (f1 r)) ∧
    w.cell? ⟨0, r * 5 + 2, none⟩ = some (.int .u8 (f2 r)) ∧ w.cell? ⟨0, r * 5 + 3, none⟩ = some (.int .u8 (f3 r)) ∧ w.cell? ⟨0, r * 5 + 4, none⟩ = some (.int .u8 (f4 r)) := by
  obtain ⟨⟨t, h0⟩, _⟩ := h
  refine ⟨?_, ?_, ?_, ?_, ?_⟩
  · rw [cell_of_block h0]; exact formsC_at r 0 hr (by decide)
  · rw [cell_of_block h0]; exact formsC_at r 1 hr (by decide)
  · rw [cell_of_block h0]; exact formsC_at r 2 hr (by decide)
  · rw [cell_of_block h0]; exact formsC_at r 3 hr (by decide)
  · rw [cell_of_block h0]; exact formsC_at r 4 hr (by decide)

theorem tabs_size {w : World} (h : Tabs w) : 0 < w.heap.size ∧ 1 < w.heap.size := by
  obtain ⟨⟨t, h0⟩, t1, h1⟩ := h
  have a : 0 < w.heap.size := by
    rcases Nat.lt_or_ge 0 w.heap.size with h | h
    · exact h
    · rw [Array.getElem?_eq_none h] at h0; cases h0
  have b : 1 < w.heap.size := by
    rcases Nat.lt_or_ge 1 w.heap.size with h | h
    · exact h
    · rw [Array.getElem?_eq_none h] at h1; cases h1
  omega

theorem sRow_lt : ∀ k, k < 14 → sRow k < 10 := by decide
def matchB (k : Nat) (op : Int) (host : Bool) : Bool := (decide (sLo k ≤ op) && decide (op ≤ sHi k)) && (host || !sHost k)
/-- The row of an operation, by the document's table. -/
def rowOf (op : Int) (host : Bool) : Nat :=
  if op = 0 ∨ op = 1 ∨ op = 2 ∨ op = 3 then 1 else
  if (16 ≤ op ∧ op ≤ 31) ∨ op = 58 ∨ op = 98 ∨ op = 99 ∨ op = 100 ∨ op = 101 then 3 else
  if op = 73 ∨ op = 74 ∨ op = 56 ∨ op = 57 ∨ op = 96 ∨ op = 97 then 2 else
  if op = 80 ∨ (op = 112 ∧ host = true) then 4 else
  if op = 33 then 5 else
  if 48 ≤ op ∧ op ≤ 55 then 6 else
  if 64 ≤ op ∧ op ≤ 72 then 7 else
  if op = 113 ∧ host = true then 8 else
  if op = 32 then 9 else 0
theorem rowOf_lt (op : Int) (host : Bool) : rowOf op host < 10 := by unfold rowOf; (repeat' split) <;> decide
theorem row_hit_all : ∀ n : Nat, n < 256 → ∀ host : Bool, ∀ k : Nat, k < 14 → matchB k n host = true → rowOf n host = sRow k := by decide +kernel
theorem row_miss_all : ∀ n : Nat, n < 256 → ∀ host : Bool, (∀ k : Nat, k < 14 → matchB k n host = false) → rowOf n host = 0 := by decide +kernel
theorem row_hit (op : Int) (h0 : 0 ≤ op) (h1 : op < 256) (host : Bool) (k : Nat) (hk : k < 14) (h : matchB k op host = true) : rowOf op host = sRow k := by
  obtain ⟨n, rfl⟩ : ∃ n : Nat, op = n := ⟨op.toNat, by omega⟩
  exact row_hit_all n (by omega) host k hk h
theorem row_miss (op : Int) (h0 : 0 ≤ op) (h1 : op < 256) (host : Bool) (h : ∀ k : Nat, k < 14 → matchB k op host = false) : rowOf op host = 0 := by
  obtain ⟨n, rfl⟩ : ∃ n : Nat, op = n := ⟨op.toNat, by omega⟩
  exact row_miss_all n (by omega) host h
end Go.Proofs.YtpalbpjmjbcelaaDoor
