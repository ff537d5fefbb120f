/- A row that grows lies in no block of another type. -/
import Derived.Test.YtpalbpjmjbcelaaDoorVsli
namespace Go.Proofs.YtpalbpjmjbcelaaDoor
open Go.RowKit

theorem ne_of {w : World} {i j : Nat} {cs cs' : Array Value} {t t' : TypeId} {fr fr' : Nat × Nat} (h1 : w.heap[i]? = some (.cells cs t fr)) (h2 : w.heap[j]? = some (.cells cs' t' fr')) (ht : t ≠ t') : i ≠ j := by
  intro e; subst e
  rw [h1] at h2
  cases h2; exact ht rfl
theorem Sli.ne {w : World} {e : TypeId} {z : Nat} {v : Value} {n : Nat} {xs : List Value} {F : List Nat} (h : Sli w e z v n xs F) {i : Nat} {cs : Array Value} {t : TypeId} {fr : Nat × Nat} (hi : w.heap[i]? = some (.cells cs t fr)) (ht : t ≠ e) : ∀ b ∈ F, b ≠ i := by
  rcases h with ⟨_, ⟨_, _, rfl⟩ | ⟨g, off, cap, cur, _, rfl, hg, _⟩⟩
  · simp
  · intro b hb
    obtain rfl : b = g := by simpa using hb
    exact ne_of hg hi (Ne.symm ht)
end Go.Proofs.YtpalbpjmjbcelaaDoor
