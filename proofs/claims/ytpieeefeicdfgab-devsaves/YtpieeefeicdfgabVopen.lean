/- What comes in: rows of events, rows of steps. -/
import Derived.Test.YtpieeefeicdfgabVworks
import Derived.Test.YtpieeefeicdfgabMbsl
namespace Go.Proofs.Ytpieeefeicdfgab
open Go.RowKit Go.WideShapes Go.ChangeShapes Go.ChangeAt
set_option linter.unusedVariables false

theorem trod_struct3 {H : Type} {enc : TypeId × Value → H} {P : Program} {w : World} {base : Nat} {spare : Nat → Bool} {held : Bool} {t : TypeId} {f0 f1 f2 : Field} {fuel : Nat} {cs : List Value} {x : DataW H × List MemPlace}
    (ht : P.underlying t = some (.struct #[f0, f1, f2])) (h : DataW.trod enc P w base spare held fuel t cs = some x) :
    ∃ y0 y1 y2 n, cs.length = P.cellsOf t ∧ DataW.trod enc P w base spare held n f0.type ((cs.drop f0.offset).take (P.cellsOf f0.type)) = some y0 ∧
      DataW.trod enc P w base spare held n f1.type ((cs.drop f1.offset).take (P.cellsOf f1.type)) = some y1 ∧ DataW.trod enc P w base spare held n f2.type ((cs.drop f2.offset).take (P.cellsOf f2.type)) = some y2 := by
  obtain ⟨xs, n, _, rfl, hl, hlen, hf⟩ := DataW.trod_struct ht h
  match xs, hlen with
  | [y0, y1, y2], _ => exact ⟨y0, y1, y2, n, hl, by simpa using hf 0 f0 rfl, by simpa using hf 1 f1 rfl, by simpa using hf 2 f2 rfl⟩
theorem u8_of {a : Int} (h : (Lit.int .u8 a).wf = true) : 0 ≤ a ∧ a < 256 := by
  simp [Lit.wf, IntKind.min, IntKind.max, IntKind.signed, IntKind.bits] at h; omega
/-- Three cells each, of a slice that came in. -/
theorem rows3 {α : Type} (cells : α → List Value) (h3 : ∀ a, (cells a).length = 3) {w : World} {b off len : Nat} (each : ∀ i, i < len → ∃ a : α, ∀ j, j < 3 → w.cell? ⟨b, off + i * 3 + j, none⟩ = (cells a)[j]?) (good : α → Prop) (hg : ∀ i, (hi : i < len) → ∃ a : α, (∀ j, j < 3 → w.cell? ⟨b, off + i * 3 + j, none⟩ = (cells a)[j]?) ∧ good a) :
    ∃ es : List α, es.length = len ∧ (∀ a ∈ es, good a) ∧ ∀ j u, (es.flatMap cells)[j]? = some u → w.cell? ⟨b, off + j, none⟩ = some u := by
  induction len with
  | zero => exact ⟨[], rfl, by simp, by simp⟩
  | succ n ih =>
    obtain ⟨es, h1, h2, h4⟩ := ih (fun i hi => each i (by omega)) (fun i hi => hg i (by omega))
    obtain ⟨a, ha, hga⟩ := hg n (by omega)
    have hfl : (es.flatMap cells).length = n * 3 := by
      rw [← h1]; clear h1 h2 h4 ha hg ih each
      induction es with
      | nil => rfl
      | cons x xs ih => simp only [List.flatMap_cons, List.length_append, List.length_cons, ih, h3]; omega
    refine ⟨es ++ [a], by simp [h1], fun x hx => ?_, fun j u hj => ?_⟩
    · rcases List.mem_append.1 hx with h | h
      · exact h2 x h
      · simp at h; subst h; exact hga
    · rw [List.flatMap_append, List.flatMap_cons, List.flatMap_nil, List.append_nil] at hj
      by_cases hlt : j < n * 3
      · rw [List.getElem?_append_left (by omega)] at hj; exact h4 j u hj
      · rw [List.getElem?_append_right (by omega), hfl] at hj
        have hj3 : j - n * 3 < 3 := by have := (List.getElem?_eq_some_iff.1 hj).1; rw [h3] at this; exact this
        have := ha (j - n * 3) hj3
        rw [hj, Nat.add_assoc, show n * 3 + (j - n * 3) = j by omega] at this
        exact this

theorem ev_of {H : Type} {enc : TypeId × Value → H} {w : World} {base : Nat} {sp : Nat → Bool} {held : Bool} {fuel : Nat} {cs : List Value} {y : DataW H × List MemPlace}
    (h : DataW.trod enc Try.prog w base sp held fuel 68 cs = some y) : ∃ e : Ev, cs = evV e ∧ 0 ≤ e.2.2 ∧ e.2.2 < 256 := by
  obtain ⟨y0, y1, y2, n, hl, g0, g1, g2⟩ := trod_struct3 Try.underlying68 h
  have cE : Try.prog.cellsOf 68 = 3 := by kernel_rfl
  have c3 : Try.prog.cellsOf 3 = 1 := by kernel_rfl
  have c5 : Try.prog.cellsOf 5 = 1 := by kernel_rfl
  rw [cE] at hl
  obtain ⟨v0, v1, v2, rfl⟩ := list3 cs hl
  rw [c3] at g0 g1
  rw [c5] at g2
  obtain ⟨a, e0, _, q0⟩ := DataW.trod_int Try.underlying3 g0
  obtain ⟨k, e1, _, q1⟩ := DataW.trod_int Try.underlying3 g1
  obtain ⟨b, e2, _, q2⟩ := DataW.trod_int Try.underlying5 g2
  simp at e0 e1 e2
  subst e0 e1 e2
  exact ⟨(a, k, b), rfl, u8_of q2⟩
/-- A slice of events that came in. -/
structure EvRow (w : World) (x : Option Addr) (len cap : Nat) (E : List Ev) : Prop where
  hl : E.length = len
  hle : len ≤ cap
  hmax : (cap : Int) ≤ 9223372036854775807
  lies : Lies w x (evs E)
  byte : ∀ e ∈ E, 0 ≤ e.2.2 ∧ e.2.2 < 256
theorem EvRow.kep {w w' : World} {x : Option Addr} {len cap : Nat} {E : List Ev} (h : EvRow w x len cap E) (k : Kep w w') : EvRow w' x len cap E := ⟨h.hl, h.hle, h.hmax, h.lies.kep k, h.byte⟩
theorem evs_of {H : Type} {enc : TypeId × Value → H} {w : World} {base : Nat} {sp : Nat → Bool} {held : Bool} {fuel : Nat} {x : Option Addr} {len cap : Nat} {y : DataW H × List MemPlace}
    (h : DataW.trod enc Try.prog w base sp held fuel 22 (Value.slice x len cap).cells.toList = some y) : ∃ E, EvRow w x len cap E := by
  rcases Go.Deep.open_slice Try.underlying22 h with ⟨hcs, _⟩ | ⟨a, l, c, m, n, D, Pl, hcs, _, hl, hm, hmm, _, hx⟩
  · simp [Value.cells] at hcs
    obtain ⟨rfl, rfl, rfl⟩ := hcs
    exact ⟨[], rfl, Nat.le_refl _, by decide, .inl rfl, by simp⟩
  · simp [Value.cells] at hcs
    obtain ⟨rfl, rfl, rfl⟩ := hcs
    have c3 : Try.prog.cellsOf 68 = 3 := by kernel_rfl
    have hlm : len ≤ m := by rw [hmm]; split <;> omega
    have hm' : (cap : Int) ≤ 9223372036854775807 := by unfold maxLen at hm; omega
    rcases Nat.eq_zero_or_pos len with h0 | h0
    · exact ⟨[], h0.symm, hl, hm', .inl rfl, by simp⟩
    obtain ⟨b, off, s⟩ := a
    have each0 : ∀ i, i < len → ∃ e : Ev, (∀ j, j < 3 → w.cell? (((⟨b, off, s⟩ : Addr).add (i * 3)).add j) = (evV e)[j]?) ∧ (0 ≤ e.2.2 ∧ e.2.2 < 256) := by
      intro i hi
      obtain ⟨cs, h1, h2⟩ := hx i (by omega)
      rw [c3] at h1
      obtain ⟨_, hlen, hcell⟩ := World.cells?_some h1
      obtain ⟨e, rfl, hs⟩ := ev_of h2
      exact ⟨e, fun j hj => by rw [hcell j hj], hs⟩
    obtain ⟨e0, hc0, _⟩ := each0 0 h0
    have hc1 : w.cell? (((⟨b, off, s⟩ : Addr).add (0 * 3)).add 0) = some (.int .i64 e0.1) := hc0 0 (by omega)
    have hs : s = none := by simp only [Addr.add] at hc1; exact no_spot hc1
    subst hs
    have each : ∀ i, i < len → ∃ e : Ev, (∀ j, j < 3 → w.cell? ⟨b, off + i * 3 + j, none⟩ = (evV e)[j]?) ∧ (0 ≤ e.2.2 ∧ e.2.2 < 256) := fun i hi => by
      obtain ⟨e, h1, h2⟩ := each0 i hi
      exact ⟨e, fun j hj => by have := h1 j hj; rw [Addr.add_lit, Addr.add_lit] at this; exact this, h2⟩
    obtain ⟨E, r1, r2, r3⟩ := rows3 evV (fun _ => rfl) (fun i hi => (each i hi).imp fun _ h => h.1) _ each
    exact ⟨E, r1, hl, hm', .inr ⟨b, off, rfl, World.block_lt_of_cell? w _ hc1, r3⟩, r2⟩

/-- A step: its kind, a number, a value. -/
abbrev Stp := Int × Int × Int
def stpV (e : Stp) : List Value := [.int .i64 e.1, .int .i64 e.2.1, .int .u32 e.2.2]
theorem stp_of {H : Type} {enc : TypeId × Value → H} {w : World} {base : Nat} {sp : Nat → Bool} {held : Bool} {fuel : Nat} {cs : List Value} {y : DataW H × List MemPlace}
    (h : DataW.trod enc Try.prog w base sp held fuel 49 cs = some y) : ∃ e : Stp, cs = stpV e ∧ (-9223372036854775808 ≤ e.2.1 ∧ e.2.1 ≤ 9223372036854775807) ∧ 0 ≤ e.2.2 ∧ e.2.2 < 4294967296 := by
  obtain ⟨y0, y1, y2, n, hl, g0, g1, g2⟩ := trod_struct3 Try.underlying49 h
  have cE : Try.prog.cellsOf 49 = 3 := by kernel_rfl
  have c3 : Try.prog.cellsOf 3 = 1 := by kernel_rfl
  have c5 : Try.prog.cellsOf 23 = 1 := by kernel_rfl
  rw [cE] at hl
  obtain ⟨v0, v1, v2, rfl⟩ := list3 cs hl
  rw [c3] at g0 g1
  rw [c5] at g2
  obtain ⟨a, e0, _, q0⟩ := DataW.trod_int Try.underlying3 g0
  obtain ⟨k, e1, _, q1⟩ := DataW.trod_int Try.underlying3 g1
  obtain ⟨b, e2, _, q2⟩ := DataW.trod_int Try.underlying23 g2
  simp at e0 e1 e2
  subst e0 e1 e2
  exact ⟨(a, k, b), rfl, i64_of q1, u32_of q2⟩
/-- A slice of steps that came in. -/
structure StpRow (w : World) (x : Option Addr) (len cap : Nat) (E : List Stp) : Prop where
  hl : E.length = len
  hle : len ≤ cap
  hmax : (cap : Int) ≤ 9223372036854775807
  lies : Lies w x (E.flatMap stpV)
  good : ∀ e ∈ E, (-9223372036854775808 ≤ e.2.1 ∧ e.2.1 ≤ 9223372036854775807) ∧ 0 ≤ e.2.2 ∧ e.2.2 < 4294967296
theorem StpRow.kep {w w' : World} {x : Option Addr} {len cap : Nat} {E : List Stp} (h : StpRow w x len cap E) (k : Kep w w') : StpRow w' x len cap E := ⟨h.hl, h.hle, h.hmax, h.lies.kep k, h.good⟩
theorem stps_of {H : Type} {enc : TypeId × Value → H} {w : World} {base : Nat} {sp : Nat → Bool} {held : Bool} {fuel : Nat} {x : Option Addr} {len cap : Nat} {y : DataW H × List MemPlace}
    (h : DataW.trod enc Try.prog w base sp held fuel 38 (Value.slice x len cap).cells.toList = some y) : ∃ E, StpRow w x len cap E := by
  rcases Go.Deep.open_slice Try.underlying38 h with ⟨hcs, _⟩ | ⟨a, l, c, m, n, D, Pl, hcs, _, hl, hm, hmm, _, hx⟩
  · simp [Value.cells] at hcs
    obtain ⟨rfl, rfl, rfl⟩ := hcs
    exact ⟨[], rfl, Nat.le_refl _, by decide, .inl rfl, by simp⟩
  · simp [Value.cells] at hcs
    obtain ⟨rfl, rfl, rfl⟩ := hcs
    have c3 : Try.prog.cellsOf 49 = 3 := by kernel_rfl
    have hlm : len ≤ m := by rw [hmm]; split <;> omega
    have hm' : (cap : Int) ≤ 9223372036854775807 := by unfold maxLen at hm; omega
    rcases Nat.eq_zero_or_pos len with h0 | h0
    · exact ⟨[], h0.symm, hl, hm', .inl rfl, by simp⟩
    obtain ⟨b, off, s⟩ := a
    have each0 : ∀ i, i < len → ∃ e : Stp, (∀ j, j < 3 → w.cell? (((⟨b, off, s⟩ : Addr).add (i * 3)).add j) = (stpV e)[j]?) ∧ ((-9223372036854775808 ≤ e.2.1 ∧ e.2.1 ≤ 9223372036854775807) ∧ 0 ≤ e.2.2 ∧ e.2.2 < 4294967296) := by
      intro i hi
      obtain ⟨cs, h1, h2⟩ := hx i (by omega)
      rw [c3] at h1
      obtain ⟨_, hlen, hcell⟩ := World.cells?_some h1
      obtain ⟨e, rfl, hs⟩ := stp_of h2
      exact ⟨e, fun j hj => by rw [hcell j hj], hs⟩
    obtain ⟨e0, hc0, _⟩ := each0 0 h0
    have hc1 : w.cell? (((⟨b, off, s⟩ : Addr).add (0 * 3)).add 0) = some (.int .i64 e0.1) := hc0 0 (by omega)
    have hs : s = none := by simp only [Addr.add] at hc1; exact no_spot hc1
    subst hs
    have each : ∀ i, i < len → ∃ e : Stp, (∀ j, j < 3 → w.cell? ⟨b, off + i * 3 + j, none⟩ = (stpV e)[j]?) ∧ ((-9223372036854775808 ≤ e.2.1 ∧ e.2.1 ≤ 9223372036854775807) ∧ 0 ≤ e.2.2 ∧ e.2.2 < 4294967296) := fun i hi => by
      obtain ⟨e, h1, h2⟩ := each0 i hi
      exact ⟨e, fun j hj => by have := h1 j hj; rw [Addr.add_lit, Addr.add_lit] at this; exact this, h2⟩
    obtain ⟨E, r1, r2, r3⟩ := rows3 stpV (fun _ => rfl) (fun i hi => (each i hi).imp fun _ h => h.1) _ each
    exact ⟨E, r1, hl, hm', .inr ⟨b, off, rfl, World.block_lt_of_cell? w _ hc1, r3⟩, r2⟩
/-- The step number k, where it lies. -/
theorem StpRow.at {w : World} {x : Option Addr} {len cap : Nat} {E : List Stp} (h : StpRow w x len cap E) {k : Nat} (hk : k < len) : ∃ (b off : Nat) (s : Stp), E[k]? = some s ∧ ((-9223372036854775808 ≤ s.2.1 ∧ s.2.1 ≤ 9223372036854775807) ∧ 0 ≤ s.2.2 ∧ s.2.2 < 4294967296) ∧ x = some ⟨b, off, none⟩ ∧ b < w.heap.size ∧
    w.cell? ⟨b, off + k * 3, none⟩ = some (.int .i64 s.1) ∧ w.cell? ⟨b, off + k * 3 + 1, none⟩ = some (.int .i64 s.2.1) ∧ w.cell? ⟨b, off + k * 3 + 2, none⟩ = some (.int .u32 s.2.2) := by
  have hlen := h.hl
  have hs : E[k]? = some E[k] := List.getElem?_eq_getElem (by omega)
  have fl : ∀ (E : List Stp) (k : Nat) (s : Stp), E[k]? = some s → ∀ j, j < 3 → (E.flatMap stpV)[k * 3 + j]? = (stpV s)[j]? := by
    intro E
    induction E with
    | nil => intro k s h; simp at h
    | cons y E ih =>
      intro k s h j hj
      cases k with
      | zero => simp at h; subst h; rw [List.flatMap_cons, List.getElem?_append_left (by simp [stpV]; omega)]; simp
      | succ k => rw [List.flatMap_cons, List.getElem?_append_right (by simp [stpV]; omega), ← ih k s (by simpa using h) j hj]; congr 1; simp [stpV]; omega
  rcases h.lies with h0 | ⟨b, off, hx, hb, hc⟩
  · exfalso
    have := fl E k _ hs 0 (by omega)
    rw [h0] at this; simp [stpV] at this
  · refine ⟨b, off, E[k], hs, h.good _ (List.getElem_mem _), hx, hb, ?_, ?_, ?_⟩
    · exact hc _ _ (by have := fl E k _ hs 0 (by omega); simpa [stpV] using this)
    · rw [Nat.add_assoc]; exact hc _ _ (by have := fl E k _ hs 1 (by omega); simpa [stpV] using this)
    · rw [Nat.add_assoc]; exact hc _ _ (by have := fl E k _ hs 2 (by omega); simpa [stpV] using this)
theorem BSl.lies {w : World} {x : Option Addr} {l c : Nat} {zs : List Int} (h : BSl w x l c zs) : Lies w x (byt zs) := by
  rcases h.2.2.2.1 with rfl | ⟨b, off, e, hb, _, hc⟩
  · exact .inl rfl
  · refine .inr ⟨b, off, e, hb, fun j u hj => ?_⟩
    have hj' : j < zs.length := by have := (List.getElem?_eq_some_iff.1 hj).1; rw [byt_len] at this; exact this
    rw [hc j hj', ← hj, byt_at]
    simp [hj']
end Go.Proofs.Ytpieeefeicdfgab
