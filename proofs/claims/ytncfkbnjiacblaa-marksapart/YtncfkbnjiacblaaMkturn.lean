/- What one turn of marks leaves of the others. -/
import Derived.Test.YtncfkbnjiacblaaMkgot
import Derived.Deep.CutRange
namespace Go.Proofs.Ytncfkbnjiacblaa
open Go.RowKit
set_option linter.unusedVariables false

theorem kind_turn (L0 L1 : List Bool) (k m : Int) (F : List Bool → List Bool) : kindL (onK k 1 F L0) (onK k 2 F L1) m = if m = k ∧ (m = 1 ∨ m = 2) then F (kindL L0 L1 m) else kindL L0 L1 m := by
  by_cases h1 : m = 1
  · subst h1
    by_cases hk : k = 1
    · subst hk; simp [kindL, onK]
    · have hk' : ¬ (1 : Int) = k := fun e => hk e.symm
      simp [kindL, onK, hk, hk']
  · by_cases h2 : m = 2
    · subst h2
      by_cases hk : k = 2
      · subst hk; simp [kindL, onK]
      · have hk' : ¬ (2 : Int) = k := fun e => hk e.symm
        simp [kindL, onK, hk, hk']
    · rw [kind_no h1 h2, kind_no h1 h2, if_neg (by omega)]
theorem bears_off {L : List Bool} {f g : Int} {b : Bool} (h : g ≠ f) : bears (putB L f b) g = bears L g := by rw [bears_put, if_neg (fun e => h e.1)]
/-- The marks stand in w', and that of am upon af is as it was if the step was of another one. -/
def After (W w' : World) (p b0 b1 : Nat) (am af bm bf bk : Int) (hd : Bool) : Prop := ∃ Q0 Q1, MarksAt w' p b0 b1 Q0 Q1 ∧ ((am ≠ bm ∨ (af ≠ bf ∧ bk ≠ 2)) → bears (kindL Q0 Q1 am) af = hd) ∧ Kep W w'
theorem after_put {W w1 w' : World} {p b0 b1 : Nat} {am af bm bf bk : Int} {L0 L1 : List Bool} {b : Bool} (h : MarksAt w' p b0 b1 (onK bm 1 (putB · bf b) L0) (onK bm 2 (putB · bf b) L1)) (hk : Kep W w1) (P : Put [b0, b1] w1 w') (hb : W.heap.size ≤ b0 ∧ W.heap.size ≤ b1) (h2 : bk ≠ 2) : After W w' p b0 b1 am af bm bf bk (bears (kindL L0 L1 am) af) := by
  refine ⟨_, _, h, fun o => ?_, hk.put P (by simp; omega)⟩
  rw [kind_turn]
  split
  · rename_i e
    rcases o with o | o
    · exact absurd e.1 o
    · exact bears_off o.1
  · rfl
theorem after_clear {W w1 w' : World} {p b0 b1 : Nat} {am af bm bf bk : Int} {L0 L1 : List Bool} (h : MarksAt w' p b0 b1 (onK bm 1 noneB L0) (onK bm 2 noneB L1)) (hk : Kep W w1) (P : Put [b0, b1] w1 w') (hb : W.heap.size ≤ b0 ∧ W.heap.size ≤ b1) (h2 : bk = 2) : After W w' p b0 b1 am af bm bf bk (bears (kindL L0 L1 am) af) := by
  refine ⟨_, _, h, fun o => ?_, hk.put P (by simp; omega)⟩
  rw [kind_turn, if_neg]
  rintro ⟨e, _⟩
  rcases o with o | o
  · exact o e
  · exact o.2 h2
/-- The cells of two steps. -/
structure Two (W : World) (q : Nat) (am af bm bf bk : Int) : Prop where
  a1 : W.cell? ⟨q, 1, none⟩ = some (.int .i64 af)
  a2 : W.cell? ⟨q, 2, none⟩ = some (.int .i64 am)
  b0 : W.cell? ⟨q + 1, 0, none⟩ = some (.int .i64 bk)
  b1 : W.cell? ⟨q + 1, 1, none⟩ = some (.int .i64 bf)
  b2 : W.cell? ⟨q + 1, 2, none⟩ = some (.int .i64 bm)
  lt : q + 1 < W.heap.size
theorem Two.kep {W W' : World} {q : Nat} {am af bm bf bk : Int} (h : Two W q am af bm bf bk) (k : Kep W W') : Two W' q am af bm bf bk :=
  have l := h.lt
  ⟨(k.cell (show q < _ by omega)).trans h.a1, (k.cell (show q < _ by omega)).trans h.a2, (k.cell h.lt).trans h.b0, (k.cell h.lt).trans h.b1, (k.cell h.lt).trans h.b2, k.lt h.lt⟩
end Go.Proofs.Ytncfkbnjiacblaa
