/- A slice of numbers that came in. -/
import Derived.Test.YtpalbpjmjbcelaaDoorLaid
namespace Go.Proofs.YtpalbpjmjbcelaaDoor
open Go.RowKit
set_option linter.unusedVariables false

/-- A slice of numbers that came in: nil; or a row of 'cap' cells, the numbers zs, of which the first 'len' are its elements. -/
def IsRow (k : IntKind) (w : World) (a : Option Addr) (len cap : Nat) (zs : List Int) : Prop :=
  (a = none ∧ len = 0 ∧ cap = 0 ∧ zs = []) ∨
  ∃ x, a = some x ∧ len ≤ cap ∧ cap ≤ maxLen ∧ zs.length = cap ∧ (∀ i, i < zs.length → w.cell? (x.add i) = some (.int k (zs.getD i 0))) ∧ ∀ n ∈ zs, (Lit.int k n).wf = true
theorem IsRow.at {k : IntKind} {w : World} {a : Option Addr} {len cap : Nat} {zs : List Int} (h : IsRow k w a len cap zs) {i : Nat} (hi : i < len) :
    ∃ (b off : Nat) (z : Int), a = some ⟨b, off, none⟩ ∧ len ≤ cap ∧ b < w.heap.size ∧ w.cell? ⟨b, off + i, none⟩ = some (.int k z) ∧ (Lit.int k z).wf = true := by
  rcases h with ⟨_, h, _⟩ | ⟨⟨b, off, s⟩, rfl, h1, h2, h3, h4, h5⟩
  · omega
  · have hc := h4 i (by omega)
    have hs : s = none := by
      have hc0 := h4 0 (by omega)
      simp only [Addr.add] at hc0
      cases s with
      | none => rfl
      | some t => exfalso; simp [World.cell?] at hc0; revert hc0; split <;> simp
    subst hs
    have e : ((⟨b, off, none⟩ : Addr).add i) = ⟨b, off + i, none⟩ := by simp [Addr.add]
    rw [e] at hc
    exact ⟨b, off, zs.getD i 0, rfl, h1, World.block_lt_of_cell? w _ hc, hc, h5 _ (by simp [List.getD, show i < zs.length by omega])⟩
theorem IsRow.max {k : IntKind} {w : World} {a : Option Addr} {len cap : Nat} {zs : List Int} (h : IsRow k w a len cap zs) : (len : Int) ≤ 9223372036854775807 := by
  rcases h with ⟨_, h, _⟩ | ⟨_, _, h1, h2, _⟩
  · omega
  · unfold maxLen at h2; omega
end Go.Proofs.YtpalbpjmjbcelaaDoor
