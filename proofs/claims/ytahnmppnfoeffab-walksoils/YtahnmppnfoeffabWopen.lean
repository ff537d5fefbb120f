/- What comes in: rows of entries, arrays of numbers. -/
import Derived.Test.YtahnmppnfoeffabMtwo
import Derived.Deep.Slices
import Derived.Lib.SmallJoins
import Derived.OpenShut
namespace Go.Proofs.Ytahnmppnfoeffab
open Go.RowKit Go.WideShapes Go.ChangeShapes Go.ChangeAt
set_option linter.unusedVariables false

theorem no_spot {w : World} {b off : Nat} {s : Option Nat} {v : Value} (h : w.cell? ⟨b, off, s⟩ = some v) : s = none := by
  cases s with
  | none => rfl
  | some t => exfalso; simp [World.cell?] at h; revert h; split <;> simp
theorem u8_of {a : Int} (h : (Lit.int .u8 a).wf = true) : 0 ≤ a ∧ a < 256 := by
  simp [Lit.wf, IntKind.min, IntKind.max, IntKind.signed, IntKind.bits] at h; omega

/-- An entry that a law lays: a frame, a place, what it leads to, bits. -/
structure Ent where
  f : Int
  p : Int
  t : Int
  z : Int
structure EntOk (e : Ent) : Prop where
  f0 : 0 ≤ e.f
  f1 : e.f < 256
  p0 : 0 ≤ e.p
  p1 : e.p < 256
  t0 : 0 ≤ e.t
  t1 : e.t < 256
  z0 : 0 ≤ e.z
  z1 : e.z < 4294967296
abbrev entV (e : Ent) : Array Value := #[.int .u8 e.f, .int .u8 e.p, .int .u8 e.t, .int .u32 e.z]
theorem trod_struct4 {H : Type} {enc : TypeId × Value → H} {P : Program} {w : World} {base : Nat} {spare : Nat → Bool} {held : Bool} {t : TypeId} {f0 f1 f2 f3 : Field} {fuel : Nat} {cs : List Value} {x : DataW H × List MemPlace}
    (ht : P.underlying t = some (.struct #[f0, f1, f2, f3])) (h : DataW.trod enc P w base spare held fuel t cs = some x) :
    ∃ y0 y1 y2 y3 n, cs.length = P.cellsOf t ∧ DataW.trod enc P w base spare held n f0.type ((cs.drop f0.offset).take (P.cellsOf f0.type)) = some y0 ∧
      DataW.trod enc P w base spare held n f1.type ((cs.drop f1.offset).take (P.cellsOf f1.type)) = some y1 ∧ DataW.trod enc P w base spare held n f2.type ((cs.drop f2.offset).take (P.cellsOf f2.type)) = some y2 ∧
      DataW.trod enc P w base spare held n f3.type ((cs.drop f3.offset).take (P.cellsOf f3.type)) = some y3 := by
  obtain ⟨xs, n, _, rfl, hl, hlen, hf⟩ := DataW.trod_struct ht h
  match xs, hlen with
  | [y0, y1, y2, y3], _ => exact ⟨y0, y1, y2, y3, n, hl, by simpa using hf 0 f0 rfl, by simpa using hf 1 f1 rfl, by simpa using hf 2 f2 rfl, by simpa using hf 3 f3 rfl⟩
theorem list3 {α : Type} (l : List α) (h : l.length = 3) : ∃ a b c, l = [a, b, c] := by
  match l, h with
  | [a, b, c], _ => exact ⟨a, b, c, rfl⟩
theorem list4 {α : Type} (l : List α) (h : l.length = 4) : ∃ a b c d, l = [a, b, c, d] := by
  match l, h with
  | [a, b, c, d], _ => exact ⟨a, b, c, d, rfl⟩
theorem list5 {α : Type} (l : List α) (h : l.length = 5) : ∃ a b c d e, l = [a, b, c, d, e] := by
  match l, h with
  | [a, b, c, d, e], _ => exact ⟨a, b, c, d, e, rfl⟩

theorem ent_of {H : Type} {enc : TypeId × Value → H} {w : World} {base : Nat} {sp : Nat → Bool} {held : Bool} {fuel : Nat} {cs : List Value} {y : DataW H × List MemPlace}
    (h : DataW.trod enc Try.prog w base sp held fuel 45 cs = some y) : ∃ e : Ent, cs = (entV e).toList ∧ EntOk e := by
  obtain ⟨y0, y1, y2, y3, n, hl, g0, g1, g2, g3⟩ := trod_struct4 Try.underlying45 h
  have cE : Try.prog.cellsOf 45 = 4 := by kernel_rfl
  have c5 : Try.prog.cellsOf 5 = 1 := by kernel_rfl
  have c32 : Try.prog.cellsOf 22 = 1 := by kernel_rfl
  rw [cE] at hl
  obtain ⟨v0, v1, v2, v3, rfl⟩ := list4 cs hl
  rw [c5] at g0 g1 g2
  rw [c32] at g3
  obtain ⟨f, e0, _, q0⟩ := DataW.trod_int Try.underlying5 g0
  obtain ⟨p, e1, _, q1⟩ := DataW.trod_int Try.underlying5 g1
  obtain ⟨t, e2, _, q2⟩ := DataW.trod_int Try.underlying5 g2
  obtain ⟨z, e3, _, q3⟩ := DataW.trod_int Try.underlying22 g3
  simp at e0 e1 e2 e3
  subst e0 e1 e2 e3
  have b0 := u8_of q0
  have b1 := u8_of q1
  have b2 := u8_of q2
  have b3 := u32_of q3
  exact ⟨⟨f, p, t, z⟩, rfl, b0.1, b0.2, b1.1, b1.2, b2.1, b2.2, b3.1, b3.2⟩

/-- A slice of entries. -/
def EntRow (w : World) (x : Option Addr) (len cap : Nat) (es : List Ent) : Prop :=
  es.length = len ∧ (∀ e ∈ es, EntOk e) ∧ (es = [] ∨ ∃ b off : Nat, x = some ⟨b, off, none⟩ ∧ len ≤ cap ∧ cap ≤ maxLen ∧ b < w.heap.size ∧ ∀ i e, es[i]? = some e → ∀ j, j < 4 → w.cell? ⟨b, off + i * 4 + j, none⟩ = (entV e)[j]?)

theorem ents_of {H : Type} {enc : TypeId × Value → H} {w : World} {base : Nat} {sp : Nat → Bool} {held : Bool} {fuel : Nat} {x : Option Addr} {len cap : Nat} {y : DataW H × List MemPlace}
    (h : DataW.trod enc Try.prog w base sp held fuel 26 (Value.slice x len cap).cells.toList = some y) : ∃ es, EntRow w x len cap es := by
  rcases Nat.eq_zero_or_pos len with h0 | h0
  · exact ⟨[], h0.symm, by simp, .inl rfl⟩
  rcases Go.Deep.open_slice Try.underlying26 h with ⟨hcs, _⟩ | ⟨a, l, c, m, n, D, Pl, hcs, _, hl, hm, hmm, _, hx⟩
  · simp [Value.cells] at hcs
    omega
  · simp [Value.cells] at hcs
    obtain ⟨rfl, rfl, rfl⟩ := hcs
    have c5 : Try.prog.cellsOf 45 = 4 := by kernel_rfl
    have hlm : len ≤ m := by rw [hmm]; split <;> omega
    obtain ⟨b, off, s⟩ := a
    have each : ∀ i, i < len → ∃ e : Ent, (∀ j, j < 4 → w.cell? (((⟨b, off, s⟩ : Addr).add (i * 4)).add j) = (entV e)[j]?) ∧ EntOk e := by
      intro i hi
      obtain ⟨cs, h1, h2⟩ := hx i (by omega)
      rw [c5] at h1
      obtain ⟨_, hlen, hcell⟩ := World.cells?_some h1
      obtain ⟨e, rfl, hs⟩ := ent_of h2
      exact ⟨e, fun j hj => by rw [hcell j hj]; simp, hs⟩
    obtain ⟨e0, hc0, _⟩ := each 0 h0
    have hc1 : w.cell? (((⟨b, off, s⟩ : Addr).add (0 * 4)).add 0) = some (.int .u8 e0.f) := hc0 0 (by omega)
    have hs : s = none := by simp only [Addr.add] at hc1; exact no_spot hc1
    subst hs
    refine ⟨(List.range len).map fun i => if hi : i < len then (each i hi).choose else ⟨0, 0, 0, 0⟩, by simp, ?_, .inr ⟨b, off, rfl, hl, hm, World.block_lt_of_cell? w _ hc1, ?_⟩⟩
    · intro e he
      simp only [List.mem_map, List.mem_range] at he
      obtain ⟨i, hi, rfl⟩ := he
      rw [dif_pos hi]
      exact (each i hi).choose_spec.2
    · intro i e he j hj
      simp only [List.getElem?_map, Option.map_eq_some_iff] at he
      obtain ⟨i', hi', rfl⟩ := he
      obtain ⟨hi, rfl⟩ := List.getElem?_eq_some_iff.1 hi'
      simp only [List.length_range] at hi
      simp only [List.getElem_range]
      rw [dif_pos hi]
      have e2 : ((⟨b, off, none⟩ : Addr).add (i * 4)).add j = ⟨b, off + i * 4 + j, none⟩ := by rw [Addr.add_lit, Addr.add_lit]
      exact (congrArg w.cell? e2.symm).trans ((each i hi).choose_spec.1 j hj)
theorem EntRow.kep {w w' : World} {x : Option Addr} {len cap : Nat} {es : List Ent} (h : EntRow w x len cap es) (k : Kep w w') : EntRow w' x len cap es := by
  refine ⟨h.1, h.2.1, ?_⟩
  rcases h.2.2 with h | ⟨b, off, e, h1, h2, hb, hc⟩
  · exact .inl h
  · exact .inr ⟨b, off, e, h1, h2, k.lt hb, fun i e he j hj => (k.cell hb).trans (hc i e he j hj)⟩

/-- An array of numbers that was handed in by value. -/
theorem open_arr {H : Type} {enc : TypeId × Value → H} {P : Program} {w : World} {r : Reach} {b0 base : Nat} {sp : Nat → Bool} {held : Bool} {v : Value} {d : DataW H} {p : List MemPlace} {t e : TypeId} {n : Nat} {k : IntKind} (ht : P.underlying t = some (.array n e)) (he : P.underlying e = some (.int k)) (hc : P.cellsOf e = 1) (hn : P.cellsOf t = n)
    (hv : Value.okWide P w r b0 t v) (h : DataW.Trod enc P w base sp held t v d p) : ∃ zs : List Int, zs.length = n ∧ v = .agg (zs.map (Value.int k)).toArray ∧ ∀ z ∈ zs, (Lit.int k z).wf = true := by
  obtain ⟨cs, rfl, hsz⟩ : ∃ cs, v = .agg cs ∧ cs.size = P.cellsOf t := by
    simp only [Value.okWide, ht] at hv
    obtain ⟨cs, h1, h2, _⟩ := hv
    exact ⟨cs, h1, h2⟩
  rw [hn] at hsz
  obtain ⟨fuel, hf⟩ := h
  obtain ⟨xs, m, _, _, hl, hxl, hx⟩ := DataW.trod_array ht hf
  have each : ∀ i, i < n → ∃ z : Int, cs[i]? = some (.int k z) ∧ (Lit.int k z).wf = true := by
    intro i hi
    have h1 := hx i hi
    rw [hc, List.getElem?_eq_getElem (by omega)] at h1
    obtain ⟨z, e1, _, q⟩ := DataW.trod_int he h1
    refine ⟨z, ?_, q⟩
    simp only [Value.cells, Nat.mul_one] at e1
    have := congrArg (fun l => l[0]?) e1
    simpa using this
  obtain ⟨zs, hzs⟩ : ∃ zs : List Int, zs.length = n ∧ ∀ i, i < n → ∃ z, zs[i]? = some z ∧ cs[i]? = some (.int k z) ∧ (Lit.int k z).wf = true := by
    refine ⟨(List.range n).map fun i => if hi : i < n then (each i hi).choose else 0, by simp, fun i hi => ⟨(each i hi).choose, by simp [hi], (each i hi).choose_spec⟩⟩
  refine ⟨zs, hzs.1, ?_, fun z hz => ?_⟩
  · congr 1
    apply Array.ext
    · simp [hzs.1, hsz]
    · intro i h1 h2
      obtain ⟨z, e1, e2, _⟩ := hzs.2 i (by omega)
      have e3 : zs[i]? = some zs[i] := List.getElem?_eq_getElem (by have := hzs.1; omega)
      rw [e3] at e1
      rw [Array.getElem?_eq_getElem h1] at e2
      simp at e1 e2 ⊢
      rw [e1, e2]
  · obtain ⟨i, hi, rfl⟩ := List.mem_iff_getElem.1 hz
    obtain ⟨z, e1, _, e3⟩ := hzs.2 i (by have := hzs.1; omega)
    rw [List.getElem?_eq_getElem hi] at e1
    simp at e1
    rw [e1]; exact e3
end Go.Proofs.Ytahnmppnfoeffab
