/- A slice of instructions that came in: empty, or a row of instructions that is there. -/
import Derived.Test.YtppcfhaiogjfgaaDoorMay
import Derived.Deep.Slices
import Derived.Lib.SmallJoins
import Derived.OpenShut
namespace Go.Proofs.YtppcfhaiogjfgaaDoor
open Go.RowKit Go.WideShapes Go.ChangeShapes Go.ChangeAt

/-- len instructions lie from ⟨b, off⟩ on. -/
def InsRow (w : World) (x : Option Addr) (len cap : Nat) : Prop :=
  len = 0 ∨ ∃ b off : Nat, x = some ⟨b, off, none⟩ ∧ len ≤ cap ∧ cap ≤ maxLen ∧ b < w.heap.size ∧ ∀ i, i < len → ∃ op a c imm : Int,
    (w.cell? ⟨b, off + i * 4, none⟩ = some (.int .u8 op) ∧ w.cell? ⟨b, off + i * 4 + 1, none⟩ = some (.int .u8 a) ∧ w.cell? ⟨b, off + i * 4 + 2, none⟩ = some (.int .u8 c) ∧ w.cell? ⟨b, off + i * 4 + 3, none⟩ = some (.int .i32 imm)) ∧
    (Lit.int .u8 op).wf = true ∧ (Lit.int .u8 a).wf = true ∧ (Lit.int .u8 c).wf = true ∧ (Lit.int .i32 imm).wf = true
theorem list4 {α : Type} (l : List α) (h : l.length = 4) : ∃ a b c d, l = [a, b, c, d] := by
  match l, h with
  | [a, b, c, d], _ => exact ⟨a, b, c, d, rfl⟩
theorem ins_of {H : Type} {enc : TypeId × Value → H} {w : World} {base : Nat} {sp : Nat → Bool} {held : Bool} {fuel : Nat} {x : Option Addr} {len cap : Nat} {y : DataW H × List MemPlace}
    (h : DataW.trod enc Tryd.prog w base sp held fuel 36 (Value.slice x len cap).cells.toList = some y) : InsRow w x len cap := by
  rcases Nat.eq_zero_or_pos len with h0 | h0
  · exact .inl h0
  right
  rcases Go.Deep.open_slice Tryd.underlying36 h with ⟨hcs, _⟩ | ⟨a, l, c, m, n, D, Pl, hcs, _, hl, hm, hmm, _, hx⟩
  · simp [Value.cells] at hcs
    omega
  · simp [Value.cells] at hcs
    obtain ⟨rfl, rfl, rfl⟩ := hcs
    have c4 : Tryd.prog.cellsOf 23 = 4 := by kernel_rfl
    have hlm : len ≤ m := by rw [hmm]; split <;> omega
    have each : ∀ i, i < len → ∃ v0 v1 v2 v3 : Value, (∀ j, j < 4 → w.cell? ((a.add (i * 4)).add j) = [v0, v1, v2, v3][j]?) ∧ ∃ op a' c' imm : Int, v0 = .int .u8 op ∧ v1 = .int .u8 a' ∧ v2 = .int .u8 c' ∧ v3 = .int .i32 imm ∧
        (Lit.int .u8 op).wf = true ∧ (Lit.int .u8 a').wf = true ∧ (Lit.int .u8 c').wf = true ∧ (Lit.int .i32 imm).wf = true := by
      intro i hi
      obtain ⟨cs, h1, h2⟩ := hx i (by omega)
      rw [c4] at h1
      obtain ⟨_, hlen, hcell⟩ := World.cells?_some h1
      obtain ⟨v0, v1, v2, v3, rfl⟩ := list4 cs hlen
      obtain ⟨y0, y1, y2, y3, k, _, _, g0, g1, g2, g3⟩ := Joins.trod_struct4 Tryd.underlying23 h2
      have c5 : Tryd.prog.cellsOf 5 = 1 := by kernel_rfl
      have c6 : Tryd.prog.cellsOf 21 = 1 := by kernel_rfl
      rw [c5] at g0 g1 g2
      rw [c6] at g3
      obtain ⟨z0, e0, _, q0⟩ := DataW.trod_int Tryd.underlying5 g0
      obtain ⟨z1, e1, _, q1⟩ := DataW.trod_int Tryd.underlying5 g1
      obtain ⟨z2, e2, _, q2⟩ := DataW.trod_int Tryd.underlying5 g2
      obtain ⟨z3, e3, _, q3⟩ := DataW.trod_int Tryd.underlying21 g3
      simp at e0 e1 e2 e3
      exact ⟨v0, v1, v2, v3, hcell, z0, z1, z2, z3, e0, e1, e2, e3, q0, q1, q2, q3⟩
    obtain ⟨b, off, tag⟩ := a
    have ht : tag = none := by
      obtain ⟨v0, v1, v2, v3, hc, _⟩ := each 0 h0
      have hcell := hc 0 (by omega)
      cases tag with
      | none => rfl
      | some t => exfalso; simp [World.cell?, Addr.add] at hcell; revert hcell; split <;> simp
    subst ht
    have hlt : b < w.heap.size := by
      obtain ⟨v0, v1, v2, v3, hc, _⟩ := each 0 h0
      have hcell := hc 0 (by omega)
      exact World.block_lt_of_cell? w _ (u := v0) (by simpa using hcell)
    refine ⟨b, off, rfl, hl, hm, hlt, fun i hi => ?_⟩
    obtain ⟨v0, v1, v2, v3, hc, op, a', c', imm, rfl, rfl, rfl, rfl, q⟩ := each i hi
    have d0 := hc 0 (by omega)
    have d1 := hc 1 (by omega)
    have d2 := hc 2 (by omega)
    have d3 := hc 3 (by omega)
    rw [Addr.add_lit, Addr.add_lit] at d0 d1 d2 d3
    exact ⟨op, a', c', imm, ⟨by simpa using d0, by simpa using d1, by simpa using d2, by simpa using d3⟩, q⟩
theorem InsRow.kep {w w' : World} {x : Option Addr} {len cap : Nat} (h : InsRow w x len cap) (k : Kep w w') : InsRow w' x len cap := by
  rcases h with h | ⟨b, off, hx, h1, h2, h3, h4⟩
  · exact .inl h
  · refine .inr ⟨b, off, hx, h1, h2, k.lt h3, fun i hi => ?_⟩
    obtain ⟨op, a, c, imm, ⟨e0, e1, e2, e3⟩, q⟩ := h4 i hi
    exact ⟨op, a, c, imm, ⟨(k.cell h3).trans e0, (k.cell h3).trans e1, (k.cell h3).trans e2, (k.cell h3).trans e3⟩, q⟩
end Go.Proofs.YtppcfhaiogjfgaaDoor
