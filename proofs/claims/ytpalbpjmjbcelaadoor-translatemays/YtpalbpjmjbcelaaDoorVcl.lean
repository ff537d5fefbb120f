/- Cells that lie one behind the other; a slice of them cloned. -/
import Derived.Test.YtpalbpjmjbcelaaDoorVsli
import Derived.Test.YtpalbpjmjbcelaaDoorMram
import Derived.OwnWalk
namespace Go.Proofs.YtpalbpjmjbcelaaDoor
open Go.RowKit
set_option linter.unusedVariables false

/-- At x lie the cells zs. -/
def Lies (w : World) (x : Option Addr) (zs : List Value) : Prop := zs = [] ∨ ∃ b off : Nat, x = some ⟨b, off, none⟩ ∧ b < w.heap.size ∧ ∀ j u, zs[j]? = some u → w.cell? ⟨b, off + j, none⟩ = some u
theorem Lies.put {w w' : World} {x : Option Addr} {zs : List Value} {l : List Nat} (h : Lies w x zs) (k : Put l w w') (hl : ∀ b off, x = some ⟨b, off, none⟩ → b < w.heap.size → b ∉ l) : Lies w' x zs := by
  rcases h with h | ⟨b, off, e, hb, hc⟩
  · exact .inl h
  · exact .inr ⟨b, off, e, Nat.lt_of_lt_of_le hb k.size, fun j u hj => (k.cell hb (hl b off e hb)).trans (hc j u hj)⟩
theorem Lies.kep {w w' : World} {x : Option Addr} {zs : List Value} (h : Lies w x zs) (k : Kep w w') : Lies w' x zs := h.put (l := []) (Put.of_kep k) (by simp)
theorem Sli.lies {w : World} {e : TypeId} {z : Nat} {v : Value} {n : Nat} {xs : List Value} {F : List Nat} (h : Sli w e z v n xs F) : ∃ x cap, v = .slice x n cap ∧ Lies w x xs ∧ n ≤ cap ∧ cap ≤ maxLen ∧ (x = none → n = 0 ∧ cap = 0) := by
  rcases h.form with ⟨rfl, rfl, rfl, _⟩ | ⟨g, off, cap, rfl, _, h1, h2, hg, hc, _⟩
  · exact ⟨none, 0, rfl, .inl rfl, Nat.le_refl _, by simp [maxLen], fun _ => ⟨rfl, rfl⟩⟩
  · exact ⟨_, cap, rfl, .inr ⟨g, off, rfl, hg, hc⟩, h1, h2, fun e => by cases e⟩
theorem byt_ones (B : List Int) : ∀ u ∈ byt B, u.oneCell' = true := by
  intro u hu
  simp only [byt, List.mem_map] at hu
  obtain ⟨b, _, rfl⟩ := hu
  rfl

/-- An event: at which step, its kind, its byte. -/
abbrev Ev := Int × Int × Int
def evV (e : Ev) : List Value := [.int .i64 e.1, .int .i64 e.2.1, .int .u8 e.2.2]
def evs (E : List Ev) : List Value := E.flatMap evV
theorem evs_cons (e : Ev) (E : List Ev) : evs (e :: E) = evV e ++ evs E := rfl
theorem evs_append (E D : List Ev) : evs (E ++ D) = evs E ++ evs D := by simp [evs]
theorem evs_len : ∀ E : List Ev, (evs E).length = E.length * 3
  | [] => rfl
  | e :: E => by rw [evs_cons, List.length_append, evs_len E, List.length_cons]; simp [evV]; omega
theorem evs_drop (e : Ev) (E : List Ev) : (evs (e :: E)).drop 3 = evs E := rfl
theorem evs_ones (E : List Ev) : ∀ u ∈ evs E, u.oneCell' = true := by
  intro u hu
  obtain ⟨e, _, he⟩ := List.mem_flatMap.1 hu
  simp only [evV, List.mem_cons, List.not_mem_nil, or_false] at he
  rcases he with rfl | rfl | rfl <;> rfl
theorem evs_at : ∀ (E : List Ev) (k : Nat) (e : Ev), E[k]? = some e → ∀ j, j < 3 → (evs E)[k * 3 + j]? = (evV e)[j]?
  | [], k, e, h, j, hj => by simp at h
  | x :: E, 0, e, h, j, hj => by
    simp at h; subst h
    rw [evs_cons, List.getElem?_append_left (by simp [evV]; omega)]
    simp
  | x :: E, k + 1, e, h, j, hj => by
    rw [evs_cons, List.getElem?_append_right (by simp [evV]; omega), ← evs_at E k e (by simpa using h) j hj]
    congr 1; simp [evV]; omega

theorem eqnil0 {P : Program} (w : World) (d : Nat) (t e : TypeId) (a : Option Addr) (l c : Nat) (h : P.underlying t = some (.slice e)) : (Op.equalIn (d + 1) t (.slice a l c) (.slice none 0 0)).run P w = .ok a.isNone w := by
  cases a <;> simp [Op.equalIn, run_underlying h]
theorem eqnil1 {P : Program} (w : World) (t e : TypeId) (a : Option Addr) (l c : Nat) (h : P.underlying t = some (.slice e)) : (Op.equal t (.slice a l c) (.slice none 0 0)).run P w = .ok a.isNone w := eqnil0 w 9999 t e a l c h
theorem eqnil (P : Program) (t e : TypeId) (a : Option Addr) (l c : Nat) (h : P.underlying t = some (.slice e)) (w : World) : (binOp .eql t (.slice a l c) (.slice none 0 0)).run P w = .ok (.bool a.isNone) w := by
  simp [binOp, eqnil1 w t e a l c h]

end Go.Proofs.YtpalbpjmjbcelaaDoor
