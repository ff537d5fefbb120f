/- Instructions as four numbers each. -/
import Derived.Test.YtpalbpjmjbcelaaDoorLaid
namespace Go.Proofs.YtpalbpjmjbcelaaDoor
open Go.RowKit

/-- An instruction: operation, A, B, Imm. -/
abbrev In4 := Int × Int × Int × Int
def inV (i : In4) : List Value := [.int .u8 i.1, .int .u8 i.2.1, .int .u8 i.2.2.1, .int .i32 i.2.2.2]
def inss (C : List In4) : List Value := C.flatMap inV
def In4.Ok (i : In4) : Prop := (0 ≤ i.1 ∧ i.1 < 256) ∧ (0 ≤ i.2.1 ∧ i.2.1 < 256) ∧ (0 ≤ i.2.2.1 ∧ i.2.2.1 < 256) ∧ (-2147483648 ≤ i.2.2.2 ∧ i.2.2.2 ≤ 2147483647)
theorem inss_at (C : List In4) (k : Nat) (i : In4) (h : C[k]? = some i) (j : Nat) (hj : j < 4) : (inss C)[k * 4 + j]? = (inV i)[j]? := by
  induction C generalizing k with
  | nil => simp at h
  | cons a r ih =>
    have hc : inss (a :: r) = inV a ++ inss r := by simp [inss]
    have hl : (inV a).length = 4 := rfl
    rw [hc]
    cases k with
    | zero =>
      obtain rfl : a = i := by simpa using h
      rw [List.getElem?_append_left (by omega)]
      congr 1; omega
    | succ k =>
      rw [List.getElem?_append_right (by omega), hl, ← ih k (by simpa using h)]
      congr 1; omega
end Go.Proofs.YtpalbpjmjbcelaaDoor
