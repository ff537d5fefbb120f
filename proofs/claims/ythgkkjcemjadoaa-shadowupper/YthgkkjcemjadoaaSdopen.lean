/- What comes in: a row of steps. -/
import Derived.Test.YthgkkjcemjadoaaGenl
import Derived.Test.YthgkkjcemjadoaaSdbox
import Derived.Deep.Slices
import Derived.Lib.SmallJoins
import Derived.OpenShut
namespace Go.Proofs.Ythgkkjcemjadoaa
open Go.RowKit Go.WideShapes Go.ChangeShapes Go.ChangeAt
set_option linter.unusedVariables false


/-- A step: its kind, address, frame, bits. -/
structure Hst where
  k : Int
  p : Nat
  f : Int
  b : Nat
abbrev hstV (s : Hst) : Array Value := #[.int .i64 s.k, .int .u32 (s.p : Int), .int .i64 s.f, .int .u32 (s.b : Int)]
def Hst.Ok (s : Hst) : Prop := s.p < 4294967296 ∧ s.b < 4294967296

theorem hst_of {H : Type} {enc : TypeId × Value → H} {w : World} {base : Nat} {sp : Nat → Bool} {held : Bool} {fuel : Nat} {cs : List Value} {y : DataW H × List MemPlace}
    (h : DataW.trod enc Try.prog w base sp held fuel 36 cs = some y) : ∃ s : Hst, cs = (hstV s).toList ∧ s.Ok := by
  obtain ⟨y0, y1, y2, y3, n, hl, g0, g1, g2, g3⟩ := trod_struct4 Try.underlying36 h
  have cE : Try.prog.cellsOf 36 = 4 := by kernel_rfl
  have c5 : Try.prog.cellsOf 3 = 1 := by kernel_rfl
  have c32 : Try.prog.cellsOf 34 = 1 := by kernel_rfl
  rw [cE] at hl
  obtain ⟨v0, v1, v2, v3, rfl⟩ := list4 cs hl
  rw [c5] at g0 g2
  rw [c32] at g1 g3
  obtain ⟨k, e0, _, q0⟩ := DataW.trod_int Try.underlying3 g0
  obtain ⟨p, e1, _, q1⟩ := DataW.trod_int Try.underlying34 g1
  obtain ⟨f, e2, _, q2⟩ := DataW.trod_int Try.underlying3 g2
  obtain ⟨b, e3, _, q3⟩ := DataW.trod_int Try.underlying34 g3
  simp at e0 e1 e2 e3
  subst e0 e1 e2 e3
  have b1 := u32_of q1
  have b3 := u32_of q3
  obtain ⟨p', rfl⟩ : ∃ n : Nat, p = n := ⟨p.toNat, by omega⟩
  obtain ⟨b', rfl⟩ : ∃ n : Nat, b = n := ⟨b.toNat, by omega⟩
  exact ⟨⟨k, p', f, b'⟩, rfl, by have := b1.2; have := b3.2; unfold Hst.Ok; simp only; omega⟩

/-- A slice of steps. -/
def HstRow (w : World) (x : Option Addr) (len cap : Nat) (es : List Hst) : Prop :=
  es.length = len ∧ (∀ e ∈ es, e.Ok) ∧ (es = [] ∨ ∃ b off : Nat, x = some ⟨b, off, none⟩ ∧ len ≤ cap ∧ cap ≤ maxLen ∧ b < w.heap.size ∧ ∀ i e, es[i]? = some e → ∀ j, j < 4 → w.cell? ⟨b, off + i * 4 + j, none⟩ = (hstV e)[j]?)

theorem hsts_of {H : Type} {enc : TypeId × Value → H} {w : World} {base : Nat} {sp : Nat → Bool} {held : Bool} {fuel : Nat} {x : Option Addr} {len cap : Nat} {y : DataW H × List MemPlace}
    (h : DataW.trod enc Try.prog w base sp held fuel 22 (Value.slice x len cap).cells.toList = some y) : ∃ es, HstRow w x len cap es := by
  rcases Nat.eq_zero_or_pos len with h0 | h0
  · exact ⟨[], h0.symm, by simp, .inl rfl⟩
  rcases Go.Deep.open_slice Try.underlying22 h with ⟨hcs, _⟩ | ⟨a, l, c, m, n, D, Pl, hcs, _, hl, hm, hmm, _, hx⟩
  · simp [Value.cells] at hcs
    omega
  · simp [Value.cells] at hcs
    obtain ⟨rfl, rfl, rfl⟩ := hcs
    have c5 : Try.prog.cellsOf 36 = 4 := by kernel_rfl
    have hlm : len ≤ m := by rw [hmm]; split <;> omega
    obtain ⟨b, off, s⟩ := a
    have each : ∀ i, i < len → ∃ e : Hst, (∀ j, j < 4 → w.cell? (((⟨b, off, s⟩ : Addr).add (i * 4)).add j) = (hstV e)[j]?) ∧ e.Ok := by
      intro i hi
      obtain ⟨cs, h1, h2⟩ := hx i (by omega)
      rw [c5] at h1
      obtain ⟨_, hlen, hcell⟩ := World.cells?_some h1
      obtain ⟨e, rfl, hs⟩ := hst_of h2
      exact ⟨e, fun j hj => by rw [hcell j hj]; simp, hs⟩
    obtain ⟨e0, hc0, _⟩ := each 0 h0
    have hc1 : w.cell? (((⟨b, off, s⟩ : Addr).add (0 * 4)).add 0) = some (.int .i64 e0.k) := hc0 0 (by omega)
    have hs : s = none := by simp only [Addr.add] at hc1; exact no_spot hc1
    subst hs
    refine ⟨(List.range len).map fun i => if hi : i < len then (each i hi).choose else ⟨0, 0, 0, 0⟩, by simp, ?_, .inr ⟨b, off, rfl, hl, hm, World.block_lt_of_cell? w _ hc1, ?_⟩⟩
    · intro e he
      simp only [List.mem_map, List.mem_range] at he
      obtain ⟨i, hi, rfl⟩ := he
      rw [dif_pos hi]
      exact (each i hi).choose_spec.2
    · intro i e he j hj
      simp only [List.getElem?_map, Option.map_eq_some_iff] at he
      obtain ⟨i', hi', rfl⟩ := he
      obtain ⟨hi, rfl⟩ := List.getElem?_eq_some_iff.1 hi'
      simp only [List.length_range] at hi
      simp only [List.getElem_range]
      rw [dif_pos hi]
      have e2 : ((⟨b, off, none⟩ : Addr).add (i * 4)).add j = ⟨b, off + i * 4 + j, none⟩ := by rw [Addr.add_lit, Addr.add_lit]
      exact (congrArg w.cell? e2.symm).trans ((each i hi).choose_spec.1 j hj)
theorem HstRow.kep {w w' : World} {x : Option Addr} {len cap : Nat} {es : List Hst} (h : HstRow w x len cap es) (k : Kep w w') : HstRow w' x len cap es := by
  refine ⟨h.1, h.2.1, ?_⟩
  rcases h.2.2 with h | ⟨b, off, e, h1, h2, hb, hc⟩
  · exact .inl h
  · exact .inr ⟨b, off, e, h1, h2, k.lt hb, fun i e he j hj => (k.cell hb).trans (hc i e he j hj)⟩
/-- The step number k, where it lies. -/
theorem HstRow.max {w : World} {x : Option Addr} {len cap : Nat} {es : List Hst} (h : HstRow w x len cap es) : (len : Int) ≤ 9223372036854775807 := by
  obtain ⟨h1, _, h3⟩ := h
  rcases h3 with rfl | ⟨_, _, _, h4, h5, _⟩
  · simp at h1; omega
  · unfold maxLen at h5; omega
theorem HstRow.at {w : World} {x : Option Addr} {len cap : Nat} {es : List Hst} (h : HstRow w x len cap es) {k : Nat} (hk : k < len) : ∃ (b off : Nat) (s : Hst), es[k]? = some s ∧ s.Ok ∧ x = some ⟨b, off, none⟩ ∧ len ≤ cap ∧ b < w.heap.size ∧
    w.cell? ⟨b, off + k * 4, none⟩ = some (.int .i64 s.k) ∧ w.cell? ⟨b, off + k * 4 + 1, none⟩ = some (.int .u32 (s.p : Int)) ∧ w.cell? ⟨b, off + k * 4 + 2, none⟩ = some (.int .i64 s.f) ∧ w.cell? ⟨b, off + k * 4 + 3, none⟩ = some (.int .u32 (s.b : Int)) := by
  obtain ⟨h1, h2, h3⟩ := h
  rcases h3 with rfl | ⟨b, off, hx, g1, g2, g3, g4⟩
  · simp at h1; omega
  · have hs : es[k]? = some es[k] := List.getElem?_eq_getElem (by omega)
    refine ⟨b, off, es[k], hs, h2 _ (List.getElem_mem _), hx, g1, g3, g4 k _ hs 0 (by omega), g4 k _ hs 1 (by omega), g4 k _ hs 2 (by omega), g4 k _ hs 3 (by omega)⟩
end Go.Proofs.Ythgkkjcemjadoaa
