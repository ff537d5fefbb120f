/- Part of a proof. -/
import Derived.Lib.SmallJoins
import Derived.Test.YtnignfloedcmlaaGreatDoorJ16
namespace Go.Proofs.YtnignfloedcmlaaGreatDoor
open Go.RowKit Go.ChangeShapes Go.WideShapes Go.ChangeAt
set_option linter.unusedVariables false
theorem trod_five {H : Type} {enc : TypeId × Value → H} {P : Program} {w : World} {base : Nat} {spare : Nat → Bool} {held : Bool} {t : TypeId} {f0 f1 f2 f3 f4 : Field} {fuel : Nat} {cs : List Value} {x : DataW H × List MemPlace}
    (ht : P.underlying t = some (.struct #[f0, f1, f2, f3, f4])) (h : DataW.trod enc P w base spare held fuel t cs = some x) :
    ∃ y0 y1 y2 y3 y4 n, cs.length = P.cellsOf t ∧ DataW.trod enc P w base spare held n f0.type ((cs.drop f0.offset).take (P.cellsOf f0.type)) = some y0 ∧
      DataW.trod enc P w base spare held n f1.type ((cs.drop f1.offset).take (P.cellsOf f1.type)) = some y1 ∧ DataW.trod enc P w base spare held n f2.type ((cs.drop f2.offset).take (P.cellsOf f2.type)) = some y2 ∧
      DataW.trod enc P w base spare held n f3.type ((cs.drop f3.offset).take (P.cellsOf f3.type)) = some y3 ∧ DataW.trod enc P w base spare held n f4.type ((cs.drop f4.offset).take (P.cellsOf f4.type)) = some y4 := by
  obtain ⟨xs, n, _, rfl, hl, hlen, hf⟩ := DataW.trod_struct ht h
  match xs, hlen with
  | [y0, y1, y2, y3, y4], _ => exact ⟨y0, y1, y2, y3, y4, n, hl, by simpa using hf 0 f0 rfl, by simpa using hf 1 f1 rfl, by simpa using hf 2 f2 rfl, by simpa using hf 3 f3 rfl, by simpa using hf 4 f4 rfl⟩
theorem list19 {α : Type} (l : List α) (h : l.length = 19) : ∃ v0 v1 v2 v3 v4 v5 v6 v7 v8 v9 v10 v11 v12 v13 v14 v15 v16 v17 v18, l = [v0, v1, v2, v3, v4, v5, v6, v7, v8, v9, v10, v11, v12, v13, v14, v15, v16, v17, v18] := by
  match l, h with
  | [v0, v1, v2, v3, v4, v5, v6, v7, v8, v9, v10, v11, v12, v13, v14, v15, v16, v17, v18], _ => exact ⟨v0, v1, v2, v3, v4, v5, v6, v7, v8, v9, v10, v11, v12, v13, v14, v15, v16, v17, v18, rfl⟩
theorem list8 {α : Type} (l : List α) (h : l.length = 8) : ∃ a b c d e f g i, l = [a, b, c, d, e, f, g, i] := by
  match l, h with
  | [a, b, c, d, e, f, g, i], _ => exact ⟨a, b, c, d, e, f, g, i, rfl⟩
theorem arr_in {H : Type} {enc : TypeId × Value → H} {P : Program} {w : World} {base : Nat} {sp : Nat → Bool} {held : Bool} {t e : TypeId} {n fuel : Nat} {k : IntKind} {cs : List Value} {y : DataW H × List MemPlace} (ht : P.underlying t = some (.array n e)) (he : P.underlying e = some (.int k)) (hc : P.cellsOf e = 1) (hl : cs.length = n)
    (hf : DataW.trod enc P w base sp held fuel t cs = some y) : ∃ zs : List Int, zs.length = n ∧ cs = zs.map (Value.int k) ∧ ∀ z ∈ zs, (Lit.int k z).wf = true := by
  obtain ⟨xs, m, _, _, _, hxl, hx⟩ := DataW.trod_array ht hf
  have each : ∀ i, i < n → ∃ z : Int, cs[i]? = some (.int k z) ∧ (Lit.int k z).wf = true := by
    intro i hi
    have h1 := hx i hi
    rw [hc, List.getElem?_eq_getElem (by omega)] at h1
    obtain ⟨z, e1, _, q⟩ := DataW.trod_int he h1
    refine ⟨z, ?_, q⟩
    simp only [Nat.mul_one] at e1
    have := congrArg (fun l => l[0]?) e1
    simpa using this
  obtain ⟨zs, hzs⟩ : ∃ zs : List Int, zs.length = n ∧ ∀ i, i < n → ∃ z, zs[i]? = some z ∧ cs[i]? = some (.int k z) ∧ (Lit.int k z).wf = true := by
    refine ⟨(List.range n).map fun i => if hi : i < n then (each i hi).choose else 0, by simp, fun i hi => ⟨(each i hi).choose, by simp [hi], (each i hi).choose_spec⟩⟩
  refine ⟨zs, hzs.1, ?_, fun z hz => ?_⟩
  · apply List.ext_getElem?
    intro i
    by_cases hi : i < n
    · obtain ⟨z, e1, e2, _⟩ := hzs.2 i hi
      rw [e2, List.getElem?_map, e1]; rfl
    · rw [List.getElem?_eq_none (by omega), List.getElem?_eq_none (by rw [List.length_map]; omega)]
  · obtain ⟨i, hi, rfl⟩ := List.mem_iff_getElem.1 hz
    obtain ⟨z, e1, _, q⟩ := hzs.2 i (by omega)
    rw [List.getElem?_eq_getElem hi] at e1
    obtain rfl := Option.some.inj e1
    exact q
theorem getD_range (zs : List Int) (h : ∀ z ∈ zs, (Lit.int .u32 z).wf = true) (n : Nat) : 0 ≤ zs.getD n 0 ∧ zs.getD n 0 < 4294967296 := by
  rw [List.getD_eq_getElem?_getD]
  cases e : zs[n]? with
  | none => exact ⟨by decide, by decide⟩
  | some z =>
    have hz : z ∈ zs := List.mem_of_getElem? e
    have := bounds_u32 (h z hz)
    simp only [Option.getD_some]
    omega
theorem sta_of {H : Type} {enc : TypeId × Value → H} {w : World} {base : Nat} {sp : Nat → Bool} {held : Bool} {fuel : Nat} {cs : List Value} {y : DataW H × List MemPlace}
    (h : DataW.trod enc Tryz.prog w base sp held fuel 26 cs = some y) : ∃ s : Sta, s.Ok ∧ cs = s.v.toList := by
  obtain ⟨y0, y1, y2, y3, y4, n, hl, g0, g1, g2, g3, g4⟩ := trod_five Tryz.underlying26 h
  have c19 : Tryz.prog.cellsOf 26 = 19 := by kernel_rfl
  have c8 : Tryz.prog.cellsOf 24 = 8 := by kernel_rfl
  have c1 : Tryz.prog.cellsOf 23 = 1 := by kernel_rfl
  have cb : Tryz.prog.cellsOf 4 = 1 := by kernel_rfl
  rw [c19] at hl
  obtain ⟨v0, v1, v2, v3, v4, v5, v6, v7, v8, v9, v10, v11, v12, v13, v14, v15, v16, v17, v18, rfl⟩ := list19 cs hl
  rw [c8] at g0 g3
  rw [c1] at g1 g2
  rw [cb] at g4
  obtain ⟨zs, l0, e0, q0⟩ := arr_in Tryz.underlying24 Tryz.underlying23 c1 (by simp) g0
  obtain ⟨pc, e1, _, q1⟩ := DataW.trod_int Tryz.underlying23 g1
  obtain ⟨ps, e2, _, q2⟩ := DataW.trod_int Tryz.underlying23 g2
  obtain ⟨xs, l3, e3, q3⟩ := arr_in Tryz.underlying24 Tryz.underlying23 c1 (by simp) g3
  obtain ⟨hb, e4, _⟩ := DataW.trod_bool Tryz.underlying4 g4
  refine ⟨⟨fun k => zs.getD k 0, pc, ps, fun k => xs.getD k 0, hb⟩, ⟨getD_range zs q0, ?_, ?_, getD_range xs q3⟩, ?_⟩
  · have := bounds_u32 q1; exact ⟨by show 0 ≤ pc; omega, by show pc < _; omega⟩
  · have := bounds_u32 q2; exact ⟨by show 0 ≤ ps; omega, by show ps < _; omega⟩
  obtain ⟨a0, a1, a2, a3, a4, a5, a6, a7, rfl⟩ := list8 zs l0
  obtain ⟨b0, b1, b2, b3, b4, b5, b6, b7, rfl⟩ := list8 xs l3
  simp at e0 e1 e2 e3 e4
  simp [Sta.v, e0, e1, e2, e3, e4]
set_option maxRecDepth 100000 in
theorem open_sta {H : Type} {enc : TypeId × Value → H} {w : World} {r : Reach} {b0 base : Nat} {sp : Nat → Bool} {held : Bool} {v : Value} {d : DataW H} {p : List MemPlace} (hv : Value.okWide Tryz.prog w r b0 26 v) (h : DataW.Trod enc Tryz.prog w base sp held 26 v d p) :
    ∃ s : Sta, v = .agg s.v ∧ s.Ok := by
  obtain ⟨cs, rfl, _⟩ := okWide_struct Tryz.underlying26 hv
  obtain ⟨fuel, hf⟩ := h
  obtain ⟨s, ok, e⟩ := sta_of hf
  refine ⟨s, ?_, ok⟩
  have : cs = s.v := Array.toList_inj.1 (by simpa [Value.cells] using e)
  rw [this]
end Go.Proofs.YtnignfloedcmlaaGreatDoor
