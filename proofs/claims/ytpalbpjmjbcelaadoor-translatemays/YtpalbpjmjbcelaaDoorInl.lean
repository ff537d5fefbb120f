/- A slice of instructions that came in, as a row. -/
import Derived.Test.YtpalbpjmjbcelaaDoorIn4
import Derived.Test.YtpalbpjmjbcelaaDoorVcl
import Derived.Test.YtpalbpjmjbcelaaDoorGenl
import Derived.Deep.Slices
import Derived.Lib.SmallJoins
import Derived.OpenShut
namespace Go.Proofs.YtpalbpjmjbcelaaDoor
open Go.RowKit Go.WideShapes Go.ChangeShapes Go.ChangeAt
set_option linter.unusedVariables false

theorem gu8_of {a : Int} (h : (Lit.int .u8 a).wf = true) : 0 ≤ a ∧ a < 256 := by
  simp [Lit.wf, IntKind.min, IntKind.max, IntKind.signed, IntKind.bits] at h
  omega
theorem gi32_of {a : Int} (h : (Lit.int .i32 a).wf = true) : -2147483648 ≤ a ∧ a ≤ 2147483647 := by
  simp [Lit.wf, IntKind.min, IntKind.max, IntKind.signed, IntKind.bits] at h
  omega
theorem gu16_of {a : Int} (h : (Lit.int .u16 a).wf = true) : 0 ≤ a ∧ a < 65536 := by
  simp [Lit.wf, IntKind.min, IntKind.max, IntKind.signed, IntKind.bits] at h
  omega
theorem ginss_len : ∀ C : List In4, (inss C).length = C.length * 4
  | [] => rfl
  | i :: C => by
    have := ginss_len C
    unfold inss at this ⊢
    rw [List.flatMap_cons, List.length_append, this, List.length_cons]
    show 4 + _ = _
    omega
set_option maxHeartbeats 1000000 in
theorem gins_one {H : Type} {enc : TypeId × Value → H} {w : World} {base : Nat} {sp : Nat → Bool} {held : Bool} {fuel : Nat} {v : Value} {y : DataW H × List MemPlace}
    (h : DataW.trod enc Tryd.prog w base sp held fuel 22 [v] = some y) : ∃ x l c, ∃ C : List In4, v = .slice x l c ∧ C.length = l ∧ l ≤ c ∧ (c : Int) ≤ 9223372036854775807 ∧ Lies w x (inss C) ∧ ∀ i ∈ C, In4.Ok i := by
  rcases Go.Deep.open_slice Tryd.underlying22 h with ⟨hcs, _⟩ | ⟨a, l, c, m, n, D, Pl, hcs, _, hl, hm, hmm, hsp, hx⟩
  · obtain rfl : v = .slice none 0 0 := by simpa using hcs
    exact ⟨_, _, _, [], rfl, rfl, Nat.le_refl _, by decide, .inl rfl, by simp⟩
  · obtain rfl : v = .slice (some a) l c := by simpa using hcs
    have c4 : Tryd.prog.cellsOf 43 = 4 := by kernel_rfl
    have hlm : l ≤ m := by rw [hmm]; split <;> omega
    have each : ∀ i, ∃ q : In4, i < l → (∀ j, j < 4 → w.cell? ((a.add (i * 4)).add j) = (inV q)[j]?) ∧ In4.Ok q := by
      intro i
      by_cases hi : i < l
      · obtain ⟨cs, h1, h2⟩ := hx i (by omega)
        rw [c4] at h1
        obtain ⟨_, hlen, hcell⟩ := World.cells?_some h1
        obtain ⟨v0, v1, v2, v3, rfl⟩ := list4 cs hlen
        obtain ⟨y0, y1, y2, y3, k, _, _, g0, g1, g2, g3⟩ := Joins.trod_struct4 Tryd.underlying43 h2
        have c5 : Tryd.prog.cellsOf 5 = 1 := by kernel_rfl
        have c6 : Tryd.prog.cellsOf 21 = 1 := by kernel_rfl
        rw [c5] at g0 g1 g2
        rw [c6] at g3
        obtain ⟨z0, e0, _, q0⟩ := DataW.trod_int Tryd.underlying5 g0
        obtain ⟨z1, e1, _, q1⟩ := DataW.trod_int Tryd.underlying5 g1
        obtain ⟨z2, e2, _, q2⟩ := DataW.trod_int Tryd.underlying5 g2
        obtain ⟨z3, e3, _, q3⟩ := DataW.trod_int Tryd.underlying21 g3
        simp at e0 e1 e2 e3
        subst e0 e1 e2 e3
        exact ⟨(z0, z1, z2, z3), fun _ => ⟨fun j hj => by
          have := hcell j (by simpa using hj)
          rw [this]
          rfl, gu8_of q0, gu8_of q1, gu8_of q2, gi32_of q3⟩⟩
      · exact ⟨(0, 0, 0, 0), fun h => absurd h hi⟩
    obtain ⟨f, hf⟩ := Classical.axiomOfChoice each
    have okf : ∀ i ∈ (List.range l).map f, In4.Ok i := fun i hi => by
      obtain ⟨k, hk, rfl⟩ := List.mem_map.1 hi
      exact (hf k (List.mem_range.1 hk)).2
    refine ⟨_, _, _, (List.range l).map f, rfl, by simp, hl, by unfold maxLen at hm; omega, ?_, okf⟩
    rcases Nat.eq_zero_or_pos l with h0 | h0
    · subst h0
      exact .inl rfl
    · obtain ⟨b, off, s⟩ := a
      have hc0 := (hf 0 h0).1 0 (by omega)
      have hc1 : w.cell? (((⟨b, off, s⟩ : Addr).add (0 * 4)).add 0) = some (.int .u8 (f 0).1) := hc0
      have hs : s = none := by simp only [Addr.add] at hc1; exact no_spot hc1
      subst hs
      refine .inr ⟨b, off, rfl, World.block_lt_of_cell? w _ hc1, fun j u hj => ?_⟩
      have hlen : (inss ((List.range l).map f)).length = l * 4 := by rw [ginss_len]; simp
      have hjl : j < l * 4 := by rw [← hlen]; exact (List.getElem?_eq_some_iff.1 hj).1
      have hk : j / 4 < l := by omega
      have e := inss_at ((List.range l).map f) (j / 4) (f (j / 4)) (by simp [hk]) (j % 4) (by omega)
      rw [show j / 4 * 4 + j % 4 = j by omega, hj] at e
      have d := (hf (j / 4) hk).1 (j % 4) (by omega)
      rw [Addr.add_lit, Addr.add_lit, show off + j / 4 * 4 + j % 4 = off + j by omega] at d
      rw [d, ← e]

end Go.Proofs.YtpalbpjmjbcelaaDoor
