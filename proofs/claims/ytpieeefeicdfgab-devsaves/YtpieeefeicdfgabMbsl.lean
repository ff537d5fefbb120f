/- What comes in: rows of bytes, rows of numbers. -/
import Derived.Test.YtpieeefeicdfgabGenl
import Derived.Test.YtpieeefeicdfgabMfill
import Derived.Deep.Slices
import Derived.Lib.SmallJoins
import Derived.OpenShut
namespace Go.Proofs.Ytpieeefeicdfgab
open Go.RowKit Go.WideShapes Go.ChangeShapes Go.ChangeAt
set_option linter.unusedVariables false

theorem Src.more {w : World} {x : Option Addr} {zs : List Int} {l : List Nat} (h : Src w x zs []) (hl : ∀ r ∈ l, w.heap.size ≤ r) : Src w x zs l := by
  rcases h with h | ⟨b, off, e, hb, _, hc⟩
  · exact .inl h
  · exact .inr ⟨b, off, e, hb, fun hm => by have := hl b hm; omega, hc⟩
theorem byts_of {zs : List Int} (h : ∀ n ∈ zs, (Lit.int .u8 n).wf = true) : Byts zs := by
  intro n hn
  have := h n hn
  simp [Lit.wf, IntKind.min, IntKind.max, IntKind.signed, IntKind.bits] at this; omega
/-- A slice of bytes that came in. -/
def BSl (w : World) (x : Option Addr) (l c : Nat) (zs : List Int) : Prop := zs.length = l ∧ l ≤ c ∧ (c : Int) ≤ 9223372036854775807 ∧ Src w x zs [] ∧ Byts zs
theorem bsl_of {H : Type} {enc : TypeId × Value → H} {w : World} {base : Nat} {sp : Nat → Bool} {held : Bool} {fuel : Nat} {v : Value} {y : DataW H × List MemPlace}
    (h : DataW.trod enc Try.prog w base sp held fuel 37 [v] = some y) : ∃ (x : Option Addr) (l c : Nat) (zs : List Int), v = .slice x l c ∧ BSl w x l c zs := by
  rcases open_ints Try.underlying37 Try.underlying5 (by kernel_rfl) h with ⟨hcs, _⟩ | ⟨a, l, c, zs, hcs, _, hl, hm, hz, _, hcell, hwz⟩
  · simp at hcs
    exact ⟨none, 0, 0, [], hcs, rfl, Nat.le_refl _, by omega, .inl rfl, fun b hb => by simp at hb⟩
  · simp at hcs
    have hzl : l ≤ zs.length := by rw [hz]; split <;> omega
    refine ⟨some a, l, c, zs.take l, hcs, by simp; omega, hl, by unfold maxLen at hm; omega, ?_, fun b hb => byts_of hwz b (List.take_subset _ _ hb)⟩
    rcases Nat.eq_zero_or_pos l with rfl | hpos
    · exact .inl (by simp)
    right
    obtain ⟨b, off, s⟩ := a
    have h0 := hcell 0 (by omega)
    have hs : s = none := no_spot h0
    subst hs
    refine ⟨b, off, rfl, World.block_lt_of_cell? w _ h0, by simp, fun i hi => ?_⟩
    have hil : i < l := by simp at hi; omega
    have := hcell i (by omega)
    rw [Addr.add_lit] at this
    rw [this]
    simp [List.getD, hil]
set_option maxRecDepth 100000 in
theorem open_bsl {H : Type} {enc : TypeId × Value → H} {w : World} {r : Reach} {b0 base : Nat} {sp : Nat → Bool} {held : Bool} {v : Value} {d : DataW H} {p : List MemPlace} (hv : Value.okWide Try.prog w r b0 37 v) (h : DataW.Trod enc Try.prog w base sp held 37 v d p) :
    ∃ (x : Option Addr) (l c : Nat) (zs : List Int), v = .slice x l c ∧ BSl w x l c zs := by
  obtain ⟨x, l, c, rfl⟩ := okWide_slice Try.underlying37 hv
  obtain ⟨fuel, hf⟩ := h
  have hf' : DataW.trod enc Try.prog w base sp held fuel 37 [.slice x l c] = some (d, p) := hf
  exact bsl_of hf'
/-- A slice of numbers that came in. -/
def ISl (k : IntKind) (w : World) (x : Option Addr) (l c : Nat) (zs : List Int) : Prop := zs.length = l ∧ l ≤ c ∧ (c : Int) ≤ 9223372036854775807 ∧
  (zs = [] ∨ ∃ b off : Nat, x = some ⟨b, off, none⟩ ∧ b < w.heap.size ∧ ∀ i, i < zs.length → w.cell? ⟨b, off + i, none⟩ = some (.int k (zs.getD i 0))) ∧ ∀ n ∈ zs, (Lit.int k n).wf = true
theorem open_isl {H : Type} {enc : TypeId × Value → H} {P : Program} {w : World} {r : Reach} {b0 base : Nat} {sp : Nat → Bool} {held : Bool} {v : Value} {d : DataW H} {p : List MemPlace} {t e : TypeId} {k : IntKind} (ht : P.underlying t = some (.slice e)) (he : P.underlying e = some (.int k)) (hc : P.cellsOf e = 1)
    (hv : Value.okWide P w r b0 t v) (h : DataW.Trod enc P w base sp held t v d p) : ∃ (x : Option Addr) (l c : Nat) (zs : List Int), v = .slice x l c ∧ ISl k w x l c zs := by
  obtain ⟨x, l, c, rfl⟩ := okWide_slice ht hv
  obtain ⟨fuel, hf⟩ := h
  rcases open_ints ht he hc hf with ⟨hcs, _⟩ | ⟨a, l', c', zs, hcs, _, hl, hm, hz, _, hcell, hwz⟩
  · simp [Value.cells] at hcs
    obtain ⟨rfl, rfl, rfl⟩ := hcs
    exact ⟨none, 0, 0, [], rfl, rfl, Nat.le_refl _, by omega, .inl rfl, fun b hb => by simp at hb⟩
  · simp [Value.cells] at hcs
    obtain ⟨rfl, rfl, rfl⟩ := hcs
    have hzl : l ≤ zs.length := by rw [hz]; split <;> omega
    refine ⟨some a, l, c, zs.take l, rfl, by simp; omega, hl, by unfold maxLen at hm; omega, ?_, fun b hb => hwz b (List.take_subset _ _ hb)⟩
    rcases Nat.eq_zero_or_pos l with rfl | hpos
    · exact .inl (by simp)
    right
    obtain ⟨b, off, s⟩ := a
    have h0 := hcell 0 (by omega)
    have hs : s = none := no_spot h0
    subst hs
    refine ⟨b, off, rfl, World.block_lt_of_cell? w _ h0, fun i hi => ?_⟩
    have hil : i < l := by simp at hi; omega
    have := hcell i (by omega)
    rw [Addr.add_lit] at this
    rw [this]
    simp [List.getD, hil]
end Go.Proofs.Ytpieeefeicdfgab
