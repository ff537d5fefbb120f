/- What comes, in its order: so many of the script's first events. -/
import Derived.Test.YtpieeefeicdfgaaVopen
import Derived.Test.YtpieeefeicdfgaaVworks
namespace Go.Proofs.Ytpieeefeicdfgaa
open Go.RowKit
set_option linter.unusedVariables false

/-- An event as it comes. -/
def cameE (step : Int) (e : Ev) : Ev := (step, e.2.1, e.2.2)
theorem nxt_cons {step : Int} {ix : List Nat} {x : CS} {e : Ev} {r : List Ev} (h : x.s.E = e :: r) : (nxt step ix x).s.E = r ∧ (nxt step ix x).c = x.c ++ [cameE step e] := by
  unfold nxt
  rw [h]
  exact ⟨evS_E _ _ _ _, rfl⟩
theorem come_cut (step : Int) (ix : List Nat) : ∀ (n : Nat) (x : CS), x.s.E.length = n → ∃ j, j ≤ n ∧ (comeC step ix x).s.E = x.s.E.drop j ∧ (comeC step ix x).c = x.c ++ (x.s.E.take j).map (cameE step) ∧ (∀ e ∈ x.s.E.take j, e.1 ≤ step) ∧ dueB step (comeC step ix x).s = false
  | 0, x, h => by
    have hE := List.eq_nil_of_length_eq_zero h
    have hd : dueB step x.s = false := by unfold dueB; rw [hE]
    rw [comeC_done hd]
    exact ⟨0, Nat.le_refl _, by simp, by simp, by simp, hd⟩
  | n + 1, x, h => by
    cases hd : dueB step x.s with
    | false => rw [comeC_done hd]; exact ⟨0, by omega, by simp, by simp, by simp, hd⟩
    | true =>
      cases hE : x.s.E with
      | nil => rw [hE] at h; simp at h
      | cons e r =>
        obtain ⟨h1, h2⟩ := nxt_cons (step := step) (ix := ix) hE
        have hr : r.length = n := by rw [hE] at h; simpa using h
        obtain ⟨j, j1, j2, j3, j4, j5⟩ := come_cut step ix n (nxt step ix x) (by rw [h1]; exact hr)
        rw [comeC_due hd]
        rw [h1] at j2 j3 j4
        rw [h2] at j3
        have he : e.1 ≤ step := by unfold dueB at hd; rw [hE] at hd; simpa using hd
        refine ⟨j + 1, by omega, by rw [j2]; rfl, by rw [j3]; simp, ?_, j5⟩
        intro y hy
        rw [List.take_succ_cons] at hy
        rcases List.mem_cons.1 hy with rfl | hy
        · exact he
        · exact j4 y hy
/-- An event of a row that lies there. -/
theorem Lies.ev {w : World} {x : Option Addr} {E : List Ev} (h : Lies w x (evs E)) {k : Nat} {e : Ev} (he : E[k]? = some e) : ∃ b off : Nat, x = some ⟨b, off, none⟩ ∧ b < w.heap.size ∧ w.cell? ⟨b, off + k * 3, none⟩ = some (.int .i64 e.1) ∧ w.cell? ⟨b, off + k * 3 + 1, none⟩ = some (.int .i64 e.2.1) ∧ w.cell? ⟨b, off + k * 3 + 2, none⟩ = some (.int .u8 e.2.2) := by
  have f : ∀ j, j < 3 → (evs E)[k * 3 + j]? = (evV e)[j]? := evs_at E k e he
  rcases h with h0 | ⟨b, off, hx, hb, hc⟩
  · have := f 0 (by omega); rw [h0] at this; simp [evV] at this
  · refine ⟨b, off, hx, hb, ?_, ?_, ?_⟩
    · exact hc _ _ (by have := f 0 (by omega); simpa [evV] using this)
    · rw [Nat.add_assoc]; exact hc _ _ (by have := f 1 (by omega); simpa [evV] using this)
    · rw [Nat.add_assoc]; exact hc _ _ (by have := f 2 (by omega); simpa [evV] using this)
end Go.Proofs.Ytpieeefeicdfgaa
