/- What comes in: rows of bytes, steps, rows of steps, arrays of numbers. -/
import Derived.Test.YtiegihaagolmdaaMstepz
import Derived.Deep.Slices
import Derived.Lib.SmallJoins
import Derived.OpenShut
namespace Go.Proofs.Ytiegihaagolmdaa
open Go.RowKit Go.WideShapes Go.ChangeShapes Go.ChangeAt
set_option linter.unusedVariables false

theorem no_spot {w : World} {b off : Nat} {s : Option Nat} {v : Value} (h : w.cell? ⟨b, off, s⟩ = some v) : s = none := by
  cases s with
  | none => rfl
  | some t => exfalso; simp [World.cell?] at h; revert h; split <;> simp
theorem Src.more {w : World} {x : Option Addr} {zs : List Int} {l : List Nat} (h : Src w x zs []) (hl : ∀ r ∈ l, w.heap.size ≤ r) : Src w x zs l := by
  rcases h with h | ⟨b, off, e, hb, _, hc⟩
  · exact .inl h
  · exact .inr ⟨b, off, e, hb, fun hm => by have := hl b hm; omega, hc⟩
theorem byts_of {zs : List Int} (h : ∀ n ∈ zs, (Lit.int .u8 n).wf = true) : Byts zs := by
  intro n hn
  have := h n hn
  simp [Lit.wf, IntKind.min, IntKind.max, IntKind.signed, IntKind.bits] at this; omega
/-- A slice of bytes that came in. -/
def BSl (w : World) (x : Option Addr) (l c : Nat) (zs : List Int) : Prop := zs.length = l ∧ l ≤ c ∧ (c : Int) ≤ 9223372036854775807 ∧ Src w x zs [] ∧ Byts zs
theorem bsl_of {H : Type} {enc : TypeId × Value → H} {w : World} {base : Nat} {sp : Nat → Bool} {held : Bool} {fuel : Nat} {v : Value} {y : DataW H × List MemPlace}
    (h : DataW.trod enc Try.prog w base sp held fuel 24 [v] = some y) : ∃ (x : Option Addr) (l c : Nat) (zs : List Int), v = .slice x l c ∧ BSl w x l c zs := by
  rcases open_ints Try.underlying24 Try.underlying5 (by kernel_rfl) h with ⟨hcs, _⟩ | ⟨a, l, c, zs, hcs, _, hl, hm, hz, _, hcell, hwz⟩
  · simp at hcs
    exact ⟨none, 0, 0, [], hcs, rfl, Nat.le_refl _, by omega, .inl rfl, fun b hb => by simp at hb⟩
  · simp at hcs
    have hzl : l ≤ zs.length := by rw [hz]; split <;> omega
    refine ⟨some a, l, c, zs.take l, hcs, by simp; omega, hl, by unfold maxLen at hm; omega, ?_, fun b hb => byts_of hwz b (List.take_subset _ _ hb)⟩
    rcases Nat.eq_zero_or_pos l with rfl | hpos
    · exact .inl (by simp)
    right
    obtain ⟨b, off, s⟩ := a
    have h0 := hcell 0 (by omega)
    have hs : s = none := no_spot h0
    subst hs
    refine ⟨b, off, rfl, World.block_lt_of_cell? w _ h0, by simp, fun i hi => ?_⟩
    have hil : i < l := by simp at hi; omega
    have := hcell i (by omega)
    rw [Addr.add_lit] at this
    rw [this]
    simp [List.getD, hil]

/-- A step as it lies in memory. -/
structure IsStep (w : World) (kd a z : Int) (x : Option Addr) (l c : Nat) (m : Int) (zs : List Int) : Prop where
  a0 : 0 ≤ a
  a1 : a < 4294967296
  z0 : 0 ≤ z
  z1 : z < 4294967296
  sl : BSl w x l c zs
theorem trod_struct5 {H : Type} {enc : TypeId × Value → H} {P : Program} {w : World} {base : Nat} {spare : Nat → Bool} {held : Bool} {t : TypeId} {f0 f1 f2 f3 f4 : Field} {fuel : Nat} {cs : List Value} {x : DataW H × List MemPlace}
    (ht : P.underlying t = some (.struct #[f0, f1, f2, f3, f4])) (h : DataW.trod enc P w base spare held fuel t cs = some x) :
    ∃ y0 y1 y2 y3 y4 n, cs.length = P.cellsOf t ∧ DataW.trod enc P w base spare held n f0.type ((cs.drop f0.offset).take (P.cellsOf f0.type)) = some y0 ∧
      DataW.trod enc P w base spare held n f1.type ((cs.drop f1.offset).take (P.cellsOf f1.type)) = some y1 ∧ DataW.trod enc P w base spare held n f2.type ((cs.drop f2.offset).take (P.cellsOf f2.type)) = some y2 ∧
      DataW.trod enc P w base spare held n f3.type ((cs.drop f3.offset).take (P.cellsOf f3.type)) = some y3 ∧ DataW.trod enc P w base spare held n f4.type ((cs.drop f4.offset).take (P.cellsOf f4.type)) = some y4 := by
  obtain ⟨xs, n, _, rfl, hl, hlen, hf⟩ := DataW.trod_struct ht h
  match xs, hlen with
  | [y0, y1, y2, y3, y4], _ => exact ⟨y0, y1, y2, y3, y4, n, hl, by simpa using hf 0 f0 rfl, by simpa using hf 1 f1 rfl, by simpa using hf 2 f2 rfl, by simpa using hf 3 f3 rfl, by simpa using hf 4 f4 rfl⟩
theorem list5 {α : Type} (l : List α) (h : l.length = 5) : ∃ a b c d e, l = [a, b, c, d, e] := by
  match l, h with
  | [a, b, c, d, e], _ => exact ⟨a, b, c, d, e, rfl⟩
theorem step_of {H : Type} {enc : TypeId × Value → H} {w : World} {base : Nat} {sp : Nat → Bool} {held : Bool} {fuel : Nat} {cs : List Value} {y : DataW H × List MemPlace}
    (h : DataW.trod enc Try.prog w base sp held fuel 31 cs = some y) :
    ∃ (kd a z : Int) (x : Option Addr) (l c : Nat) (m : Int) (zs : List Int), cs = (stepV kd a z x l c m).toList ∧ IsStep w kd a z x l c m zs := by
  obtain ⟨y0, y1, y2, y3, y4, n, hl, g0, g1, g2, g3, g4⟩ := trod_struct5 Try.underlying31 h
  have c31 : Try.prog.cellsOf 31 = 5 := by kernel_rfl
  have c3 : Try.prog.cellsOf 3 = 1 := by kernel_rfl
  have c29 : Try.prog.cellsOf 29 = 1 := by kernel_rfl
  have c24 : Try.prog.cellsOf 24 = 1 := by kernel_rfl
  rw [c31] at hl
  obtain ⟨v0, v1, v2, v3, v4, rfl⟩ := list5 cs hl
  rw [c3] at g0 g4
  rw [c29] at g1 g2
  rw [c24] at g3
  obtain ⟨kd, e0, _, q0⟩ := DataW.trod_int Try.underlying3 g0
  obtain ⟨a, e1, _, q1⟩ := DataW.trod_int Try.underlying29 g1
  obtain ⟨z, e2, _, q2⟩ := DataW.trod_int Try.underlying29 g2
  have g3' : DataW.trod enc Try.prog w base sp held n 24 [v3] = some y3 := by simpa using g3
  obtain ⟨x, l, c, zs, e3, q3⟩ := bsl_of g3'
  obtain ⟨m, e4, _, q4⟩ := DataW.trod_int Try.underlying3 g4
  simp at e0 e1 e2 e4
  subst e0 e1 e2 e3 e4
  have b1 := u32_of q1
  have b2 := u32_of q2
  exact ⟨kd, a, z, x, l, c, m, zs, rfl, b1.1, b1.2, b2.1, b2.2, q3⟩
/-- A step that was handed in by value. -/
theorem open_step {H : Type} {enc : TypeId × Value → H} {w : World} {r : Reach} {b0 base : Nat} {sp : Nat → Bool} {held : Bool} {v : Value} {d : DataW H} {p : List MemPlace} (hv : Value.okWide Try.prog w r b0 31 v) (h : DataW.Trod enc Try.prog w base sp held 31 v d p) :
    ∃ (kd a z : Int) (x : Option Addr) (l c : Nat) (m : Int) (zs : List Int), v = .agg (stepV kd a z x l c m) ∧ IsStep w kd a z x l c m zs := by
  obtain ⟨cs, rfl, _⟩ := okWide_struct Try.underlying31 hv
  obtain ⟨fuel, hf⟩ := h
  obtain ⟨kd, a, z, x, l, c, m, zs, e, hs⟩ := step_of hf
  refine ⟨kd, a, z, x, l, c, m, zs, ?_, hs⟩
  have : cs = stepV kd a z x l c m := Array.toList_inj.1 (by simpa [Value.cells] using e)
  rw [this]
/-- A slice of steps that came in. -/
def StepRow (w : World) (x : Option Addr) (len cap : Nat) : Prop :=
  len = 0 ∨ ∃ b off : Nat, x = some ⟨b, off, none⟩ ∧ len ≤ cap ∧ cap ≤ maxLen ∧ b < w.heap.size ∧ ∀ i, i < len → ∃ (kd a z : Int) (sx : Option Addr) (l c : Nat) (m : Int) (zs : List Int),
    (∀ j, j < 5 → w.cell? ⟨b, off + i * 5 + j, none⟩ = (stepV kd a z sx l c m)[j]?) ∧ IsStep w kd a z sx l c m zs
theorem steps_of {H : Type} {enc : TypeId × Value → H} {w : World} {base : Nat} {sp : Nat → Bool} {held : Bool} {fuel : Nat} {x : Option Addr} {len cap : Nat} {y : DataW H × List MemPlace}
    (h : DataW.trod enc Try.prog w base sp held fuel 22 (Value.slice x len cap).cells.toList = some y) : StepRow w x len cap := by
  rcases Nat.eq_zero_or_pos len with h0 | h0
  · exact .inl h0
  right
  rcases Go.Deep.open_slice Try.underlying22 h with ⟨hcs, _⟩ | ⟨a, l, c, m, n, D, Pl, hcs, _, hl, hm, hmm, _, hx⟩
  · simp [Value.cells] at hcs
    omega
  · simp [Value.cells] at hcs
    obtain ⟨rfl, rfl, rfl⟩ := hcs
    have c5 : Try.prog.cellsOf 31 = 5 := by kernel_rfl
    have hlm : len ≤ m := by rw [hmm]; split <;> omega
    obtain ⟨b, off, s⟩ := a
    have each : ∀ i, i < len → ∃ (kd a z : Int) (sx : Option Addr) (l c : Nat) (m : Int) (zs : List Int), (∀ j, j < 5 → w.cell? (((⟨b, off, s⟩ : Addr).add (i * 5)).add j) = (stepV kd a z sx l c m)[j]?) ∧ IsStep w kd a z sx l c m zs := by
      intro i hi
      obtain ⟨cs, h1, h2⟩ := hx i (by omega)
      rw [c5] at h1
      obtain ⟨_, hlen, hcell⟩ := World.cells?_some h1
      obtain ⟨kd, a, z, sx, l, c, m, zs, rfl, hs⟩ := step_of h2
      exact ⟨kd, a, z, sx, l, c, m, zs, fun j hj => by rw [hcell j hj]; simp, hs⟩
    obtain ⟨kd, a, z, sx, l, c, m', zs, hc0, _⟩ := each 0 h0
    have hc1 : w.cell? (((⟨b, off, s⟩ : Addr).add (0 * 5)).add 0) = some (.int .i64 kd) := hc0 0 (by omega)
    have hs : s = none := by simp only [Addr.add] at hc1; exact no_spot hc1
    subst hs
    refine ⟨b, off, rfl, hl, hm, World.block_lt_of_cell? w _ hc1, fun i hi => ?_⟩
    obtain ⟨kd, a, z, sx, l, c, m, zs, hc, hs⟩ := each i hi
    exact ⟨kd, a, z, sx, l, c, m, zs, fun j hj => by have := hc j hj; rw [Addr.add_lit, Addr.add_lit] at this; exact this, hs⟩
/-- An array of numbers that was handed in by value. -/
theorem open_arr {H : Type} {enc : TypeId × Value → H} {P : Program} {w : World} {r : Reach} {b0 base : Nat} {sp : Nat → Bool} {held : Bool} {v : Value} {d : DataW H} {p : List MemPlace} {t e : TypeId} {n : Nat} {k : IntKind} (ht : P.underlying t = some (.array n e)) (he : P.underlying e = some (.int k)) (hc : P.cellsOf e = 1) (hn : P.cellsOf t = n)
    (hv : Value.okWide P w r b0 t v) (h : DataW.Trod enc P w base sp held t v d p) : ∃ zs : List Int, zs.length = n ∧ v = .agg (zs.map (Value.int k)).toArray ∧ ∀ z ∈ zs, (Lit.int k z).wf = true := by
  obtain ⟨cs, rfl, hsz⟩ : ∃ cs, v = .agg cs ∧ cs.size = P.cellsOf t := by
    simp only [Value.okWide, ht] at hv
    obtain ⟨cs, h1, h2, _⟩ := hv
    exact ⟨cs, h1, h2⟩
  rw [hn] at hsz
  obtain ⟨fuel, hf⟩ := h
  obtain ⟨xs, m, _, _, hl, hxl, hx⟩ := DataW.trod_array ht hf
  have each : ∀ i, i < n → ∃ z : Int, cs[i]? = some (.int k z) ∧ (Lit.int k z).wf = true := by
    intro i hi
    have h1 := hx i hi
    rw [hc, List.getElem?_eq_getElem (by omega)] at h1
    obtain ⟨z, e1, _, q⟩ := DataW.trod_int he h1
    refine ⟨z, ?_, q⟩
    simp only [Value.cells, Nat.mul_one] at e1
    have := congrArg (fun l => l[0]?) e1
    simpa using this
  obtain ⟨zs, hzs⟩ : ∃ zs : List Int, zs.length = n ∧ ∀ i, i < n → ∃ z, zs[i]? = some z ∧ cs[i]? = some (.int k z) ∧ (Lit.int k z).wf = true := by
    refine ⟨(List.range n).map fun i => if hi : i < n then (each i hi).choose else 0, by simp, fun i hi => ⟨(each i hi).choose, by simp [hi], (each i hi).choose_spec⟩⟩
  refine ⟨zs, hzs.1, ?_, fun z hz => ?_⟩
  · congr 1
    apply Array.ext
    · simp [hzs.1, hsz]
    · intro i h1 h2
      obtain ⟨z, e1, e2, _⟩ := hzs.2 i (by omega)
      have e3 : zs[i]? = some zs[i] := List.getElem?_eq_getElem (by have := hzs.1; omega)
      rw [e3] at e1
      rw [Array.getElem?_eq_getElem h1] at e2
      simp at e1 e2 ⊢
      rw [e1, e2]
  · obtain ⟨i, hi, rfl⟩ := List.mem_iff_getElem.1 hz
    obtain ⟨z, e1, _, e3⟩ := hzs.2 i (by have := hzs.1; omega)
    rw [List.getElem?_eq_getElem hi] at e1
    simp at e1
    rw [e1]; exact e3
theorem list2 {α : Type} (l : List α) (h : l.length = 2) : ∃ a b, l = [a, b] := by
  match l, h with
  | [a, b], _ => exact ⟨a, b, rfl⟩
theorem list4 {α : Type} (l : List α) (h : l.length = 4) : ∃ a b c d, l = [a, b, c, d] := by
  match l, h with
  | [a, b, c, d], _ => exact ⟨a, b, c, d, rfl⟩
theorem open_bsl {H : Type} {enc : TypeId × Value → H} {w : World} {r : Reach} {b0 base : Nat} {sp : Nat → Bool} {held : Bool} {v : Value} {d : DataW H} {p : List MemPlace} (hv : Value.okWide Try.prog w r b0 24 v) (h : DataW.Trod enc Try.prog w base sp held 24 v d p) :
    ∃ (x : Option Addr) (l c : Nat) (zs : List Int), v = .slice x l c ∧ BSl w x l c zs := by
  obtain ⟨x, l, c, rfl⟩ := okWide_slice Try.underlying24 hv
  obtain ⟨fuel, hf⟩ := h
  exact bsl_of (fuel := fuel) (by simpa [Value.cells] using hf)
/-- A slice of numbers that came in. -/
def ISl (k : IntKind) (w : World) (x : Option Addr) (l c : Nat) (zs : List Int) : Prop := zs.length = l ∧ l ≤ c ∧ (c : Int) ≤ 9223372036854775807 ∧
  (zs = [] ∨ ∃ b off : Nat, x = some ⟨b, off, none⟩ ∧ b < w.heap.size ∧ ∀ i, i < zs.length → w.cell? ⟨b, off + i, none⟩ = some (.int k (zs.getD i 0))) ∧ ∀ n ∈ zs, (Lit.int k n).wf = true
theorem open_isl {H : Type} {enc : TypeId × Value → H} {P : Program} {w : World} {r : Reach} {b0 base : Nat} {sp : Nat → Bool} {held : Bool} {v : Value} {d : DataW H} {p : List MemPlace} {t e : TypeId} {k : IntKind} (ht : P.underlying t = some (.slice e)) (he : P.underlying e = some (.int k)) (hc : P.cellsOf e = 1)
    (hv : Value.okWide P w r b0 t v) (h : DataW.Trod enc P w base sp held t v d p) : ∃ (x : Option Addr) (l c : Nat) (zs : List Int), v = .slice x l c ∧ ISl k w x l c zs := by
  obtain ⟨x, l, c, rfl⟩ := okWide_slice ht hv
  obtain ⟨fuel, hf⟩ := h
  rcases open_ints ht he hc hf with ⟨hcs, _⟩ | ⟨a, l', c', zs, hcs, _, hl, hm, hz, _, hcell, hwz⟩
  · simp [Value.cells] at hcs
    obtain ⟨rfl, rfl, rfl⟩ := hcs
    exact ⟨none, 0, 0, [], rfl, rfl, Nat.le_refl _, by omega, .inl rfl, fun b hb => by simp at hb⟩
  · simp [Value.cells] at hcs
    obtain ⟨rfl, rfl, rfl⟩ := hcs
    have hzl : l ≤ zs.length := by rw [hz]; split <;> omega
    refine ⟨some a, l, c, zs.take l, rfl, by simp; omega, hl, by unfold maxLen at hm; omega, ?_, fun b hb => hwz b (List.take_subset _ _ hb)⟩
    rcases Nat.eq_zero_or_pos l with rfl | hpos
    · exact .inl (by simp)
    right
    obtain ⟨b, off, s⟩ := a
    have h0 := hcell 0 (by omega)
    have hs : s = none := no_spot h0
    subst hs
    refine ⟨b, off, rfl, World.block_lt_of_cell? w _ h0, fun i hi => ?_⟩
    have hil : i < l := by simp at hi; omega
    have := hcell i (by omega)
    rw [Addr.add_lit] at this
    rw [this]
    simp [List.getD, hil]
end Go.Proofs.Ytiegihaagolmdaa
