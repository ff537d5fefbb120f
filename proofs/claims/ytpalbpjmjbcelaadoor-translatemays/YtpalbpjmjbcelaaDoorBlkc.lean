/- A block by value; rows of instructions and of numbers that are only read. -/
import Derived.Test.YtpalbpjmjbcelaaDoorIn4
import Derived.Test.YtpalbpjmjbcelaaDoorVcl
import Derived.Deep.MidRow
namespace Go.Proofs.YtpalbpjmjbcelaaDoor
open Go.RowKit
set_option linter.unusedVariables false

/-- The cells of a block. -/
abbrev blkC (vI vA : Value) (n t e : Int) (vF vT : Value) : Array Value := #[vI, vA, .int .u32 n, .int .u32 t, .int .i64 e, vF, vT]
abbrev nilS : Value := .slice none 0 0
theorem size_blk : (Tryd.prog.info? 27).map (·.size) = some 7 := by kernel_rfl
def num (k : IntKind) (l : List Int) : List Value := l.map (Value.int k)
theorem num_len (k : IntKind) (l : List Int) : (num k l).length = l.length := by simp [num]
theorem num_app (k : IntKind) (l : List Int) (a : Int) : num k l ++ [.int k a] = num k (l ++ [a]) := by simp [num]
/-- What is answered by value: a row that is only read. -/
def Rowv (w : World) (v : Value) (n : Nat) (cs : List Value) : Prop := ∃ x c, v = .slice x n c ∧ n ≤ c ∧ c ≤ maxLen ∧ Lies w x cs
theorem Rowv.kep {w w' : World} {v : Value} {n : Nat} {cs : List Value} (h : Rowv w v n cs) (k : Kep w w') : Rowv w' v n cs := by
  obtain ⟨x, c, e, h1, h2, h3⟩ := h
  exact ⟨x, c, e, h1, h2, h3.kep k⟩
theorem Sli.rowv {w : World} {e : TypeId} {z : Nat} {v : Value} {n : Nat} {xs : List Value} {F : List Nat} (h : Sli w e z v n xs F) : Rowv w v n xs := by
  obtain ⟨x, c, rfl, h1, h2, h3, _⟩ := h.lies
  exact ⟨x, c, rfl, h2, h3, h1⟩
theorem lies_in19 {w : World} {x : Option Addr} {C : List In4} (h : Lies w x (inss C)) {k : Nat} {e : In4} (he : C[k]? = some e) : ∃ b off : Nat, x = some ⟨b, off, none⟩ ∧ w.rangeAt b (off + k * 4) (inV e) := by
  rcases h with h | ⟨b, off, rfl, _, hc⟩
  · have := inss_at C k e he 0 (by decide)
    rw [h] at this; simp [inV] at this
  · refine ⟨b, off, rfl, fun j v hv => ?_⟩
    have hj : j < 4 := (List.getElem?_eq_some_iff.1 hv).1
    rw [Nat.add_assoc]
    exact hc (k * 4 + j) v ((inss_at C k e he j hj).trans hv)
theorem lies_nu19 {w : World} {x : Option Addr} {kd : IntKind} {L : List Int} (h : Lies w x (num kd L)) {k : Nat} {v : Int} (he : L[k]? = some v) : ∃ b off : Nat, x = some ⟨b, off, none⟩ ∧ w.cell? ⟨b, off + k, none⟩ = some (.int kd v) := by
  have hn : (num kd L)[k]? = some (.int kd v) := by unfold num; rw [List.getElem?_map, he]; rfl
  rcases h with h | ⟨b, off, rfl, _, hc⟩
  · rw [h] at hn; simp at hn
  · exact ⟨b, off, rfl, hc k _ hn⟩
theorem num_max {n c : Nat} (h1 : n ≤ c) (h2 : c ≤ maxLen) : (n : Int) ≤ 9223372036854775807 := by simp [maxLen] at h2; omega
end Go.Proofs.YtpalbpjmjbcelaaDoor
