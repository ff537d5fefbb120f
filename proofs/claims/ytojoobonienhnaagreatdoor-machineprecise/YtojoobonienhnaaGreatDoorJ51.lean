/- Part of a proof. -/
import Derived.Lib.SmallJoins
import Derived.Deep.CutRange
import Derived.ChangeKeysEq
import Derived.Test.YtojoobonienhnaaGreatDoorJ50
namespace Go.Proofs.YtojoobonienhnaaGreatDoor
open Go.RowKit
set_option linter.unusedVariables false
set_option linter.unusedSimpArgs false
def Mine (w : World) (L : List Nat) (p pm R : Nat) (ix : List Nat) (x : MS) (w' : World) : Prop :=
  ∃ G, Mach w' p pm R ix x G ∧ Kep w w' ∧ (∀ g ∈ R :: G, w.heap.size ≤ g) ∧ ∀ b ∈ L, b < w'.heap.size ∧ b ∉ R :: G
def Still (L : List Nat) (w w' : World) : Prop := ∀ b ∈ L, w'.heap[b]? = w.heap[b]?
theorem Mine.kp {w : World} {L : List Nat} {p pm R : Nat} {ix : List Nat} {x : MS} {w' : World} (h : Mine w L p pm R ix x w') : Kep w w' := by
  obtain ⟨_, _, k, _⟩ := h; exact k
theorem Mine.kep {w : World} {L : List Nat} {p pm R : Nat} {ix : List Nat} {x : MS} {w' w'' : World} (h : Mine w L p pm R ix x w') (k : Kep w' w'') : Mine w L p pm R ix x w'' := by
  obtain ⟨G, m, k0, f, s⟩ := h
  exact ⟨G, m.kep k, kep_trans k0 k, f, fun b hb => ⟨by have := (s b hb).1; have := k.size; omega, (s b hb).2⟩⟩
theorem Mine.drew {w : World} {L : List Nat} {p pm R : Nat} {ix : List Nat} {x : MS} {w' : World} (h : Mine w L p pm R ix x w') : Mine w L p pm R ix x w'.drew := h.kep (Kep.refl w').drew
theorem Mine.add {w : World} {L : List Nat} {p pm R : Nat} {ix : List Nat} {x : MS} {w' w'' : World} {b : Nat} (h : Mine w L p pm R ix x w') (hB : x.B ≠ []) (k : Kep w' w'') (h0 : w'.heap.size ≤ b) (h1 : b < w''.heap.size) : Mine w (b :: L) p pm R ix x w'' := by
  obtain ⟨G, m, k0, f, s⟩ := h.kep k
  obtain ⟨G', m', _⟩ := id h
  obtain ⟨G0, m0, k00, f0, s0⟩ := h
  refine ⟨G0, m0.kep k, k0, f0, fun c hc => ?_⟩
  rcases List.mem_cons.1 hc with rfl | hc
  · exact ⟨h1, fun hm => by have := m0.lt hB _ hm; omega⟩
  · exact ⟨(s c hc).1, (s0 c hc).2⟩
theorem Mine.of {w w1 w2 : World} {L : List Nat} {p pm R : Nat} {ix : List Nat} {y : MS} {G : List Nat} (k : Kep w w1) (f : ∀ g ∈ R :: G, w.heap.size ≤ g) (s : ∀ b ∈ L, b < w1.heap.size ∧ b ∉ R :: G) (g : Goes w1 p pm R ix G y w2) : Mine w L p pm R ix y w2 ∧ Still L w1 w2 := by
  obtain ⟨G', m, pt, h⟩ := g
  have z := pt.size
  refine ⟨⟨G', m, k.put pt f, fun g hg => ?_, fun b hb => ⟨by have := (s b hb).1; omega, fun hm => ?_⟩⟩, fun b hb => ?_⟩
  · rcases List.mem_cons.1 hg with rfl | hg
    · exact f _ (by simp)
    · rcases h g hg with h | h
      · exact f g (by simp [h])
      · have := k.size; omega
  · have s1 := s b hb
    rcases List.mem_cons.1 hm with rfl | hm
    · exact s1.2 (by simp)
    · rcases h b hm with h | h
      · exact s1.2 (by simp [h])
      · omega
  · obtain ⟨o, ho⟩ : ∃ o, w1.heap[b]? = some o := ⟨_, Array.getElem?_eq_getElem (s b hb).1⟩
    rw [ho]; exact pt.keeps ho (s b hb).2
theorem Mine.at {w1 w2 : World} {L : List Nat} {b : Nat} {t : Sta} (h : Still L w1 w2) (hb : b ∈ L) (a : At w1 b t) : At w2 b t := (h b hb).trans a
theorem Mine.run {w w1 : World} {L : List Nat} {p pm R : Nat} {ix : List Nat} {x : MS} (h : Mine w L p pm R ix x w1) (ok : x.Ok) (hT : Tabs w) (n : Nat) (hn : n ≤ 4096) (rm : Room n x) :
    Calls Tryz.prog 15 #[.pointer (some ⟨p, 0, none⟩), .int .i64 n] w1 fun e w' => e = .returned (.int .i64 (runN ix n x)) ∧ Mine w L p pm R ix (runX ix n x) w' ∧ Still L w1 w' := by
  obtain ⟨G, m, k, f, s⟩ := h
  refine (mrun_any m ok (hT.grown k) n hn rm).mono ?_
  rintro e w' ⟨rfl, g⟩
  exact ⟨rfl, Mine.of k f s g⟩
theorem Mine.step {w w1 : World} {L : List Nat} {p pm R : Nat} {ix : List Nat} {x : MS} (h : Mine w L p pm R ix x w1) (ok : x.Ok) (hT : Tabs w) (rm : Room 1 x) :
    Calls Tryz.prog 22 #[.pointer (some ⟨p, 0, none⟩)] w1 fun e w' => e = .returned (.bool (!x.s.h)) ∧ Mine w L p pm R ix (stpX x ix) w' ∧ Still L w1 w' := by
  obtain ⟨G, m, k, f, s⟩ := h
  refine (mstep_any m ok rm (hT.grown k)).mono ?_
  rintro e w' ⟨rfl, g⟩
  exact ⟨rfl, Mine.of k f s g⟩
theorem Mine.take {w w1 : World} {L : List Nat} {p pm R : Nat} {ix : List Nat} {x : MS} (h : Mine w L p pm R ix x w1) (ok : x.Ok) (rm : Room 1 x) :
    Calls Tryz.prog 23 #[.pointer (some ⟨p, 0, none⟩)] w1 fun e w' => e = .returned (.bool (takB x)) ∧ Mine w L p pm R ix (takX x) w' ∧ Still L w1 w' := by
  obtain ⟨G, m, k, f, s⟩ := h
  refine (mtake_any m ok rm).mono ?_
  rintro e w' ⟨rfl, g⟩
  exact ⟨rfl, Mine.of k f s g⟩
theorem Mine.one {w w1 : World} {L : List Nat} {p pm R : Nat} {ix : List Nat} {x : MS} (h : Mine w L p pm R ix x w1) (ok : x.Ok) (hT : Tabs w) (rm : Room 1 x) :
    Calls Tryz.prog 24 #[.pointer (some ⟨p, 0, none⟩)] w1 fun e w' => e = .returned (.agg (fltV (oneV x ix))) ∧ Mine w L p pm R ix (oneX x ix) w' ∧ Still L w1 w' := by
  obtain ⟨G, m, k, f, s⟩ := h
  refine (mone_any m ok rm (hT.grown k)).mono ?_
  rintro e w' ⟨rfl, g⟩
  exact ⟨rfl, Mine.of k f s g⟩
theorem Mine.come {w w1 : World} {L : List Nat} {p pm R : Nat} {ix : List Nat} {x : MS} (h : Mine w L p pm R ix x w1) (ok : x.Ok) :
    Calls Tryz.prog 21 #[.pointer (some ⟨p, 0, none⟩)] w1 fun e w' => ∃ vc vw, e = .returned (.tuple #[vc, vw]) ∧ Mine w L p pm R ix (comX x ix) w' ∧ Still L w1 w' := by
  obtain ⟨G, m, k, f, s⟩ := h
  refine (mcome_any m ok).mono ?_
  rintro e w' ⟨vc, vw, Gc, Gw, rfl, _, _, g⟩
  exact ⟨vc, vw, rfl, Mine.of k f s g⟩
theorem Mine.state {w w1 : World} {L : List Nat} {p pm R : Nat} {ix : List Nat} {x : MS} (h : Mine w L p pm R ix x w1) :
    Calls Tryz.prog 16 #[.pointer (some ⟨p, 0, none⟩)] w1 fun e w' => e = .returned (.agg x.s.v) ∧ Kep w1 w' := by
  obtain ⟨G, m, k, f, s⟩ := h
  exact mstate_any m
theorem Mine.steps {w w1 : World} {L : List Nat} {p pm R : Nat} {ix : List Nat} {x : MS} (h : Mine w L p pm R ix x w1) :
    Calls Tryz.prog 17 #[.pointer (some ⟨p, 0, none⟩)] w1 fun e w' => e = .returned (.int .i64 x.n) ∧ w' = w1 := by
  obtain ⟨G, m, k, f, s⟩ := h
  exact msteps_any m
theorem Mine.notes {w w1 : World} {L : List Nat} {p pm R : Nat} {ix : List Nat} {x : MS} (h : Mine w L p pm R ix x w1) (hN : (x.N.length : Int) ≤ 5000000000) :
    Calls Tryz.prog 20 #[.pointer (some ⟨p, 0, none⟩)] w1 fun e w' => ∃ v, e = .returned v ∧ OwnT w1 w' v x.N ∧ Kep w1 w' := by
  obtain ⟨G, m, k, f, s⟩ := h
  exact mnotes_any m hN
theorem run_halt {x : MS} (ix : List Nat) (h : x.s.h = true) : ∀ n, runX ix n x = x ∧ runN ix n x = 0
  | 0 => ⟨rfl, rfl⟩
  | n + 1 => by
    have hs : stpX x ix = x := by unfold stpX; rw [h]; rfl
    refine ⟨?_, ?_⟩
    · show runX ix n (stpX x ix) = x
      rw [hs]; exact (run_halt ix h n).1
    · show (if x.s.h then 0 else _) = 0
      rw [h]; rfl
theorem tak_halt {x : MS} (h : x.s.h = true) : takX x = x ∧ takB x = false := by unfold takX takB; rw [h]; exact ⟨rfl, rfl⟩
theorem one_halt {x : MS} (ix : List Nat) (h : x.s.h = true) : oneX x ix = x ∧ oneV x ix = (0, 0) := by unfold oneX oneV; rw [h]; exact ⟨rfl, rfl⟩
end Go.Proofs.YtojoobonienhnaaGreatDoor
namespace Go.Proofs.YtojoobonienhnaaGreatDoor
open Go.RowKit Go.ChangeShapes Go.WideShapes Go.ChangeAt
set_option linter.unusedVariables false
theorem trod_five {H : Type} {enc : TypeId × Value → H} {P : Program} {w : World} {base : Nat} {spare : Nat → Bool} {held : Bool} {t : TypeId} {f0 f1 f2 f3 f4 : Field} {fuel : Nat} {cs : List Value} {x : DataW H × List MemPlace}
    (ht : P.underlying t = some (.struct #[f0, f1, f2, f3, f4])) (h : DataW.trod enc P w base spare held fuel t cs = some x) :
    ∃ y0 y1 y2 y3 y4 n, cs.length = P.cellsOf t ∧ DataW.trod enc P w base spare held n f0.type ((cs.drop f0.offset).take (P.cellsOf f0.type)) = some y0 ∧
      DataW.trod enc P w base spare held n f1.type ((cs.drop f1.offset).take (P.cellsOf f1.type)) = some y1 ∧ DataW.trod enc P w base spare held n f2.type ((cs.drop f2.offset).take (P.cellsOf f2.type)) = some y2 ∧
      DataW.trod enc P w base spare held n f3.type ((cs.drop f3.offset).take (P.cellsOf f3.type)) = some y3 ∧ DataW.trod enc P w base spare held n f4.type ((cs.drop f4.offset).take (P.cellsOf f4.type)) = some y4 := by
  obtain ⟨xs, n, _, rfl, hl, hlen, hf⟩ := DataW.trod_struct ht h
  match xs, hlen with
  | [y0, y1, y2, y3, y4], _ => exact ⟨y0, y1, y2, y3, y4, n, hl, by simpa using hf 0 f0 rfl, by simpa using hf 1 f1 rfl, by simpa using hf 2 f2 rfl, by simpa using hf 3 f3 rfl, by simpa using hf 4 f4 rfl⟩
theorem list19 {α : Type} (l : List α) (h : l.length = 19) : ∃ v0 v1 v2 v3 v4 v5 v6 v7 v8 v9 v10 v11 v12 v13 v14 v15 v16 v17 v18, l = [v0, v1, v2, v3, v4, v5, v6, v7, v8, v9, v10, v11, v12, v13, v14, v15, v16, v17, v18] := by
  match l, h with
  | [v0, v1, v2, v3, v4, v5, v6, v7, v8, v9, v10, v11, v12, v13, v14, v15, v16, v17, v18], _ => exact ⟨v0, v1, v2, v3, v4, v5, v6, v7, v8, v9, v10, v11, v12, v13, v14, v15, v16, v17, v18, rfl⟩
theorem list8 {α : Type} (l : List α) (h : l.length = 8) : ∃ a b c d e f g i, l = [a, b, c, d, e, f, g, i] := by
  match l, h with
  | [a, b, c, d, e, f, g, i], _ => exact ⟨a, b, c, d, e, f, g, i, rfl⟩
theorem arr_in {H : Type} {enc : TypeId × Value → H} {P : Program} {w : World} {base : Nat} {sp : Nat → Bool} {held : Bool} {t e : TypeId} {n fuel : Nat} {k : IntKind} {cs : List Value} {y : DataW H × List MemPlace} (ht : P.underlying t = some (.array n e)) (he : P.underlying e = some (.int k)) (hc : P.cellsOf e = 1) (hl : cs.length = n)
    (hf : DataW.trod enc P w base sp held fuel t cs = some y) : ∃ zs : List Int, zs.length = n ∧ cs = zs.map (Value.int k) ∧ ∀ z ∈ zs, (Lit.int k z).wf = true := by
  obtain ⟨xs, m, _, _, _, hxl, hx⟩ := DataW.trod_array ht hf
  have each : ∀ i, i < n → ∃ z : Int, cs[i]? = some (.int k z) ∧ (Lit.int k z).wf = true := by
    intro i hi
    have h1 := hx i hi
    rw [hc, List.getElem?_eq_getElem (by omega)] at h1
    obtain ⟨z, e1, _, q⟩ := DataW.trod_int he h1
    refine ⟨z, ?_, q⟩
    simp only [Nat.mul_one] at e1
    have := congrArg (fun l => l[0]?) e1
    simpa using this
  obtain ⟨zs, hzs⟩ : ∃ zs : List Int, zs.length = n ∧ ∀ i, i < n → ∃ z, zs[i]? = some z ∧ cs[i]? = some (.int k z) ∧ (Lit.int k z).wf = true := by
    refine ⟨(List.range n).map fun i => if hi : i < n then (each i hi).choose else 0, by simp, fun i hi => ⟨(each i hi).choose, by simp [hi], (each i hi).choose_spec⟩⟩
  refine ⟨zs, hzs.1, ?_, fun z hz => ?_⟩
  · apply List.ext_getElem?
    intro i
    by_cases hi : i < n
    · obtain ⟨z, e1, e2, _⟩ := hzs.2 i hi
      rw [e2, List.getElem?_map, e1]; rfl
    · rw [List.getElem?_eq_none (by omega), List.getElem?_eq_none (by rw [List.length_map]; omega)]
  · obtain ⟨i, hi, rfl⟩ := List.mem_iff_getElem.1 hz
    obtain ⟨z, e1, _, q⟩ := hzs.2 i (by omega)
    rw [List.getElem?_eq_getElem hi] at e1
    obtain rfl := Option.some.inj e1
    exact q
theorem getD_range (zs : List Int) (h : ∀ z ∈ zs, (Lit.int .u32 z).wf = true) (n : Nat) : 0 ≤ zs.getD n 0 ∧ zs.getD n 0 < 4294967296 := by
  rw [List.getD_eq_getElem?_getD]
  cases e : zs[n]? with
  | none => exact ⟨by decide, by decide⟩
  | some z =>
    have hz : z ∈ zs := List.mem_of_getElem? e
    have := bounds_u32 (h z hz)
    simp only [Option.getD_some]
    omega
theorem sta_of {H : Type} {enc : TypeId × Value → H} {w : World} {base : Nat} {sp : Nat → Bool} {held : Bool} {fuel : Nat} {cs : List Value} {y : DataW H × List MemPlace}
    (h : DataW.trod enc Tryz.prog w base sp held fuel 26 cs = some y) : ∃ s : Sta, s.Ok ∧ cs = s.v.toList := by
  obtain ⟨y0, y1, y2, y3, y4, n, hl, g0, g1, g2, g3, g4⟩ := trod_five Tryz.underlying26 h
  have c19 : Tryz.prog.cellsOf 26 = 19 := by kernel_rfl
  have c8 : Tryz.prog.cellsOf 24 = 8 := by kernel_rfl
  have c1 : Tryz.prog.cellsOf 23 = 1 := by kernel_rfl
  have cb : Tryz.prog.cellsOf 4 = 1 := by kernel_rfl
  rw [c19] at hl
  obtain ⟨v0, v1, v2, v3, v4, v5, v6, v7, v8, v9, v10, v11, v12, v13, v14, v15, v16, v17, v18, rfl⟩ := list19 cs hl
  rw [c8] at g0 g3
  rw [c1] at g1 g2
  rw [cb] at g4
  obtain ⟨zs, l0, e0, q0⟩ := arr_in Tryz.underlying24 Tryz.underlying23 c1 (by simp) g0
  obtain ⟨pc, e1, _, q1⟩ := DataW.trod_int Tryz.underlying23 g1
  obtain ⟨ps, e2, _, q2⟩ := DataW.trod_int Tryz.underlying23 g2
  obtain ⟨xs, l3, e3, q3⟩ := arr_in Tryz.underlying24 Tryz.underlying23 c1 (by simp) g3
  obtain ⟨hb, e4, _⟩ := DataW.trod_bool Tryz.underlying4 g4
  refine ⟨⟨fun k => zs.getD k 0, pc, ps, fun k => xs.getD k 0, hb⟩, ⟨getD_range zs q0, ?_, ?_, getD_range xs q3⟩, ?_⟩
  · have := bounds_u32 q1; exact ⟨by show 0 ≤ pc; omega, by show pc < _; omega⟩
  · have := bounds_u32 q2; exact ⟨by show 0 ≤ ps; omega, by show ps < _; omega⟩
  obtain ⟨a0, a1, a2, a3, a4, a5, a6, a7, rfl⟩ := list8 zs l0
  obtain ⟨b0, b1, b2, b3, b4, b5, b6, b7, rfl⟩ := list8 xs l3
  simp at e0 e1 e2 e3 e4
  simp [Sta.v, e0, e1, e2, e3, e4]
end Go.Proofs.YtojoobonienhnaaGreatDoor
namespace Go.Proofs.YtojoobonienhnaaGreatDoor
open Go.RowKit Go.WideShapes Go.ChangeShapes Go.ChangeAt
set_option linter.unusedVariables false
theorem gevs_one {H : Type} {enc : TypeId × Value → H} {w : World} {base : Nat} {sp : Nat → Bool} {held : Bool} {fuel : Nat} {v : Value} {y : DataW H × List MemPlace}
    (h : DataW.trod enc Tryz.prog w base sp held fuel 39 [v] = some y) : ∃ x l c E, v = .slice x l c ∧ EvRow w x l c E := by
  rcases Go.Deep.open_slice Tryz.underlying39 h with ⟨hcs, _⟩ | ⟨a, l, c, m, n, D, Pl, hcs, _⟩
  · obtain rfl : v = .slice none 0 0 := by simpa using hcs
    obtain ⟨E, hE⟩ := evs_of (x := none) (len := 0) (cap := 0) h
    exact ⟨_, _, _, E, rfl, hE⟩
  · obtain rfl : v = .slice (some a) l c := by simpa using hcs
    obtain ⟨E, hE⟩ := evs_of (x := some a) (len := l) (cap := c) h
    exact ⟨_, _, _, E, rfl, hE⟩
theorem gbsl_lies {w : World} {x : Option Addr} {l c : Nat} {zs : List Int} (h : BSl w x l c zs) : Lies w x (byt zs) := by
  rcases h.2.2.2.1 with rfl | ⟨b, off, e, hb, _, hc⟩
  · exact .inl rfl
  · refine .inr ⟨b, off, e, hb, fun j u hj => ?_⟩
    have hj' : j < zs.length := by have := (List.getElem?_eq_some_iff.1 hj).1; rw [byt_len] at this; exact this
    rw [hc j hj', ← hj, byt_at]
    simp [hj']
theorem gu8_of {a : Int} (h : (Lit.int .u8 a).wf = true) : 0 ≤ a ∧ a < 256 := by
  simp [Lit.wf, IntKind.min, IntKind.max, IntKind.signed, IntKind.bits] at h
  omega
theorem gi32_of {a : Int} (h : (Lit.int .i32 a).wf = true) : -2147483648 ≤ a ∧ a ≤ 2147483647 := by
  simp [Lit.wf, IntKind.min, IntKind.max, IntKind.signed, IntKind.bits] at h
  omega
theorem gu16_of {a : Int} (h : (Lit.int .u16 a).wf = true) : 0 ≤ a ∧ a < 65536 := by
  simp [Lit.wf, IntKind.min, IntKind.max, IntKind.signed, IntKind.bits] at h
  omega
theorem ginss_len : ∀ C : List In4, (inss C).length = C.length * 4
  | [] => rfl
  | i :: C => by
    have := ginss_len C
    unfold inss at this ⊢
    rw [List.flatMap_cons, List.length_append, this, List.length_cons]
    show 4 + _ = _
    omega
set_option maxHeartbeats 1000000 in
theorem gins_one {H : Type} {enc : TypeId × Value → H} {w : World} {base : Nat} {sp : Nat → Bool} {held : Bool} {fuel : Nat} {v : Value} {y : DataW H × List MemPlace}
    (h : DataW.trod enc Tryz.prog w base sp held fuel 37 [v] = some y) : ∃ x l c, ∃ C : List In4, v = .slice x l c ∧ C.length = l ∧ l ≤ c ∧ (c : Int) ≤ 9223372036854775807 ∧ Lies w x (inss C) ∧ ∀ i ∈ C, In4.Ok i := by
  rcases Go.Deep.open_slice Tryz.underlying37 h with ⟨hcs, _⟩ | ⟨a, l, c, m, n, D, Pl, hcs, _, hl, hm, hmm, hsp, hx⟩
  · obtain rfl : v = .slice none 0 0 := by simpa using hcs
    exact ⟨_, _, _, [], rfl, rfl, Nat.le_refl _, by decide, .inl rfl, by simp⟩
  · obtain rfl : v = .slice (some a) l c := by simpa using hcs
    have c4 : Tryz.prog.cellsOf 119 = 4 := by kernel_rfl
    have hlm : l ≤ m := by rw [hmm]; split <;> omega
    have each : ∀ i, ∃ q : In4, i < l → (∀ j, j < 4 → w.cell? ((a.add (i * 4)).add j) = (inV q)[j]?) ∧ In4.Ok q := by
      intro i
      by_cases hi : i < l
      · obtain ⟨cs, h1, h2⟩ := hx i (by omega)
        rw [c4] at h1
        obtain ⟨_, hlen, hcell⟩ := World.cells?_some h1
        obtain ⟨v0, v1, v2, v3, rfl⟩ := list4 cs hlen
        obtain ⟨y0, y1, y2, y3, k, _, _, g0, g1, g2, g3⟩ := Joins.trod_struct4 Tryz.underlying119 h2
        have c5 : Tryz.prog.cellsOf 5 = 1 := by kernel_rfl
        have c6 : Tryz.prog.cellsOf 21 = 1 := by kernel_rfl
        rw [c5] at g0 g1 g2
        rw [c6] at g3
        obtain ⟨z0, e0, _, q0⟩ := DataW.trod_int Tryz.underlying5 g0
        obtain ⟨z1, e1, _, q1⟩ := DataW.trod_int Tryz.underlying5 g1
        obtain ⟨z2, e2, _, q2⟩ := DataW.trod_int Tryz.underlying5 g2
        obtain ⟨z3, e3, _, q3⟩ := DataW.trod_int Tryz.underlying21 g3
        simp at e0 e1 e2 e3
        subst e0 e1 e2 e3
        exact ⟨(z0, z1, z2, z3), fun _ => ⟨fun j hj => by
          have := hcell j (by simpa using hj)
          rw [this]
          rfl, gu8_of q0, gu8_of q1, gu8_of q2, gi32_of q3⟩⟩
      · exact ⟨(0, 0, 0, 0), fun h => absurd h hi⟩
    obtain ⟨f, hf⟩ := Classical.axiomOfChoice each
    have okf : ∀ i ∈ (List.range l).map f, In4.Ok i := fun i hi => by
      obtain ⟨k, hk, rfl⟩ := List.mem_map.1 hi
      exact (hf k (List.mem_range.1 hk)).2
    refine ⟨_, _, _, (List.range l).map f, rfl, by simp, hl, by unfold maxLen at hm; omega, ?_, okf⟩
    rcases Nat.eq_zero_or_pos l with h0 | h0
    · subst h0
      exact .inl rfl
    · obtain ⟨b, off, s⟩ := a
      have hc0 := (hf 0 h0).1 0 (by omega)
      have hc1 : w.cell? (((⟨b, off, s⟩ : Addr).add (0 * 4)).add 0) = some (.int .u8 (f 0).1) := hc0
      have hs : s = none := by simp only [Addr.add] at hc1; exact no_spot hc1
      subst hs
      refine .inr ⟨b, off, rfl, World.block_lt_of_cell? w _ hc1, fun j u hj => ?_⟩
      have hlen : (inss ((List.range l).map f)).length = l * 4 := by rw [ginss_len]; simp
      have hjl : j < l * 4 := by rw [← hlen]; exact (List.getElem?_eq_some_iff.1 hj).1
      have hk : j / 4 < l := by omega
      have e := inss_at ((List.range l).map f) (j / 4) (f (j / 4)) (by simp [hk]) (j % 4) (by omega)
      rw [show j / 4 * 4 + j % 4 = j by omega, hj] at e
      have d := (hf (j / 4) hk).1 (j % 4) (by omega)
      rw [Addr.add_lit, Addr.add_lit, show off + j / 4 * 4 + j % 4 = off + j by omega] at d
      rw [d, ← e]
set_option maxRecDepth 100000 in
set_option maxHeartbeats 4000000 in
theorem open_gst {H : Type} {enc : TypeId × Value → H} {w : World} {r : Reach} {b0 base : Nat} {sp : Nat → Bool} {held : Bool} {v : Value} {d : DataW H} {p : List MemPlace} (hv : Value.okWide Tryz.prog w r b0 41 v) (h : DataW.Trod enc Tryz.prog w base sp held 41 v d p) :
    ∃ (fr : Int) (xi : Option Addr) (li ci : Nat) (Z : List Int) (xc : Option Addr) (lc cc : Nat) (C : List In4) (en : Int) (s : Sta) (xs : Option Addr) (ls cs : Nat) (E : List Ev) (xd : Option Addr) (ld cd : Nat) (D : List Int),
      v = .agg (gstV fr (.slice xi li ci) (.slice xc lc cc) en s (.slice xs ls cs) (.slice xd ld cd)) ∧ (-9223372036854775808 ≤ fr ∧ fr ≤ 9223372036854775807) ∧ GstIn w fr xi li ci Z xc lc cc C en s xs ls cs E xd ld cd D := by
  have ht := Tryz.underlying41
  have c1 : Tryz.prog.cellsOf 22 = 1 := by kernel_rfl
  have c2 : Tryz.prog.cellsOf 39 = 1 := by kernel_rfl
  have c3 : Tryz.prog.cellsOf 37 = 1 := by kernel_rfl
  have c4 : Tryz.prog.cellsOf 3 = 1 := by kernel_rfl
  have c5 : Tryz.prog.cellsOf 38 = 1 := by kernel_rfl
  have c6 : Tryz.prog.cellsOf 26 = 19 := by kernel_rfl
  have hn : Tryz.prog.cellsOf 41 = 25 := by kernel_rfl
  obtain ⟨cs, rfl, hsz⟩ := okWide_struct ht hv
  rw [hn] at hsz
  obtain ⟨fuel, hf⟩ := h
  obtain ⟨xs, nn, _, _, hl, hxl, hx⟩ := DataW.trod_struct ht hf
  have hxs : xs.length = 7 := hxl
  obtain ⟨L⟩ := cs
  have hL : L.length = 25 := hsz
  obtain ⟨T, hT, S, hS, R, hR, rfl⟩ : ∃ T, T.length = 4 ∧ ∃ S, S.length = 19 ∧ ∃ R, R.length = 2 ∧ L = T ++ (S ++ R) := ⟨L.take 4, by simp; omega, (L.drop 4).take 19, by simp; omega, (L.drop 4).drop 19, by simp; omega, by rw [List.take_append_drop, List.take_append_drop]⟩
  obtain ⟨v0, v1, v2, v3, rfl⟩ := list4 T hT
  obtain ⟨v5, v6, rfl⟩ := list2 R hR
  have hd : ∀ j, (([v0, v1, v2, v3] ++ (S ++ [v5, v6])).drop (23 + j)) = [v5, v6].drop j := fun j => by
    rw [show 23 + j = 4 + (19 + j) by omega, ← List.drop_drop, show ([v0, v1, v2, v3] ++ (S ++ [v5, v6])).drop 4 = S ++ [v5, v6] from rfl, ← List.drop_drop, List.drop_left' hS]
  have g0 : DataW.trod enc Tryz.prog w base sp held nn 3 ((([v0, v1, v2, v3] ++ (S ++ [v5, v6])).drop 0).take (Tryz.prog.cellsOf 3)) = xs[0]? := hx 0 _ rfl
  rw [c4, List.getElem?_eq_getElem (by omega)] at g0
  have g1 : DataW.trod enc Tryz.prog w base sp held nn 22 ((([v0, v1, v2, v3] ++ (S ++ [v5, v6])).drop 1).take (Tryz.prog.cellsOf 22)) = xs[1]? := hx 1 _ rfl
  rw [c1, List.getElem?_eq_getElem (by omega)] at g1
  have g2 : DataW.trod enc Tryz.prog w base sp held nn 37 ((([v0, v1, v2, v3] ++ (S ++ [v5, v6])).drop 2).take (Tryz.prog.cellsOf 37)) = xs[2]? := hx 2 _ rfl
  rw [c3, List.getElem?_eq_getElem (by omega)] at g2
  have g3 : DataW.trod enc Tryz.prog w base sp held nn 38 ((([v0, v1, v2, v3] ++ (S ++ [v5, v6])).drop 3).take (Tryz.prog.cellsOf 38)) = xs[3]? := hx 3 _ rfl
  rw [c5, List.getElem?_eq_getElem (by omega)] at g3
  have g4 : DataW.trod enc Tryz.prog w base sp held nn 26 ((([v0, v1, v2, v3] ++ (S ++ [v5, v6])).drop 4).take (Tryz.prog.cellsOf 26)) = xs[4]? := hx 4 _ rfl
  rw [c6, show ([v0, v1, v2, v3] ++ (S ++ [v5, v6])).drop 4 = S ++ [v5, v6] from rfl, List.take_left' hS, List.getElem?_eq_getElem (by omega)] at g4
  have g5 : DataW.trod enc Tryz.prog w base sp held nn 39 ((([v0, v1, v2, v3] ++ (S ++ [v5, v6])).drop (23 + 0)).take (Tryz.prog.cellsOf 39)) = xs[5]? := hx 5 _ rfl
  rw [c2, hd 0, List.getElem?_eq_getElem (by omega)] at g5
  have g6 : DataW.trod enc Tryz.prog w base sp held nn 22 ((([v0, v1, v2, v3] ++ (S ++ [v5, v6])).drop (23 + 1)).take (Tryz.prog.cellsOf 22)) = xs[6]? := hx 6 _ rfl
  rw [c1, hd 1, List.getElem?_eq_getElem (by omega)] at g6
  obtain ⟨fr, e0, _, q0⟩ := DataW.trod_int Tryz.underlying3 g0
  obtain ⟨xi, li, ci, Z, rfl, b1⟩ := bsl_of (v := v1) g1
  obtain ⟨xc, lc, cc, C, rfl, kl, kc, km, ki, ko⟩ := gins_one (v := v2) g2
  obtain ⟨en, e3, _, q3⟩ := DataW.trod_int Tryz.underlying38 g3
  obtain ⟨s, ok, es⟩ := sta_of g4
  obtain ⟨xe, le, ce, E, rfl, b5⟩ := gevs_one (v := v5) g5
  obtain ⟨xd, ld, cd, D, rfl, b6⟩ := bsl_of (v := v6) g6
  obtain rfl : v0 = .int .i64 fr := by simpa using e0
  obtain rfl : v3 = .int .u16 en := by simpa using e3
  subst es
  exact ⟨fr, xi, li, ci, Z, xc, lc, cc, C, en, s, xe, le, ce, E, xd, ld, cd, D, rfl, i64_of q0, ⟨b1.1, b1.2.1, b1.2.2.1, (gbsl_lies b1), b1.2.2.2.2, kl, kc, km, ki, ko, gu16_of q3, ok, ⟨b5.hl, b5.hle, b5.hmax, b5.lies, b6.1, b6.2.1, b6.2.2.1, (gbsl_lies b6)⟩, b5.byte, b6.2.2.2.2⟩⟩
end Go.Proofs.YtojoobonienhnaaGreatDoor
namespace Go.Proofs.YtojoobonienhnaaGreatDoor
open Go.RowKit
set_option linter.unusedVariables false
set_option linter.unusedSimpArgs false
theorem fields_same {P : Program} (w : World) (d : Nat) (xs : Array Value) : ∀ (fs : List Field), (∀ f ∈ fs, ∃ v, (Go.part f.type xs f.offset).run P w = .ok v w ∧ (Op.equalIn d f.type v v).run P w = .ok true w) → (Op.eqFields d xs xs fs).run P w = .ok true w
  | [], _ => by simp [Op.eqFields]
  | f :: fs, h => by
    obtain ⟨v, h1, h2⟩ := h f (by simp)
    have ih := fields_same w d xs fs (fun g hg => h g (by simp [hg]))
    simp only [Op.eqFields]
    split
    · simp only [Sem.run_bind, h1, h2, Result.andThen_ok, Bool.not_true, Bool.false_eq_true, if_false]
      exact ih
    · exact ih
theorem items_same {P : Program} (w : World) (d : Nat) (e : TypeId) (k : IntKind) (c : Nat) (xs : Array Value) (hu : P.underlying e = some (.int k)) : ∀ (is : List Nat), (∀ i ∈ is, ∃ a, (Go.part e xs (i * c)).run P w = .ok (.int k a) w) → (Op.eqItems (d + 1) e c xs xs is).run P w = .ok true w
  | [], _ => by simp [Op.eqItems]
  | i :: is, h => by
    obtain ⟨a, h1⟩ := h i (by simp)
    have ih := items_same w d e k c xs hu is (fun g hg => h g (by simp [hg]))
    simp only [Op.eqItems, Sem.run_bind, h1, Result.andThen_ok, run_equalIn_int w d e k k a a hu, beq_self_eq_true, Bool.not_true, Bool.false_eq_true, if_false]
    exact ih
theorem arr8_same (a0 a1 a2 a3 a4 a5 a6 a7 : Int) (w : World) : (Op.equalIn 9999 24 (.agg #[.int .u32 a0, .int .u32 a1, .int .u32 a2, .int .u32 a3, .int .u32 a4, .int .u32 a5, .int .u32 a6, .int .u32 a7]) (.agg #[.int .u32 a0, .int .u32 a1, .int .u32 a2, .int .u32 a3, .int .u32 a4, .int .u32 a5, .int .u32 a6, .int .u32 a7])).run Tryz.prog w = .ok true w := by
  obtain ⟨i, hi⟩ : ∃ i, Tryz.prog.info? 23 = some i := Option.isSome_iff_exists.1 (by kernel_rfl)
  have e := run_equalIn_array (P := Tryz.prog) w 9998 #[.int .u32 a0, .int .u32 a1, .int .u32 a2, .int .u32 a3, .int .u32 a4, .int .u32 a5, .int .u32 a6, .int .u32 a7] #[.int .u32 a0, .int .u32 a1, .int .u32 a2, .int .u32 a3, .int .u32 a4, .int .u32 a5, .int .u32 a6, .int .u32 a7] Tryz.underlying24 hi
  rw [e]
  refine items_same w 9997 23 .u32 _ _ Tryz.underlying23 _ (fun i hm => ?_)
  have hc : Tryz.prog.cellsOf 23 = 1 := by kernel_rfl
  rw [hc]
  have h8 : i < 8 := by simpa using hm
  rcases (by omega : i = 0 ∨ i = 1 ∨ i = 2 ∨ i = 3 ∨ i = 4 ∨ i = 5 ∨ i = 6 ∨ i = 7) with rfl | rfl | rfl | rfl | rfl | rfl | rfl | rfl
  · exact ⟨a0, by kernel_rfl⟩
  · exact ⟨a1, by kernel_rfl⟩
  · exact ⟨a2, by kernel_rfl⟩
  · exact ⟨a3, by kernel_rfl⟩
  · exact ⟨a4, by kernel_rfl⟩
  · exact ⟨a5, by kernel_rfl⟩
  · exact ⟨a6, by kernel_rfl⟩
  · exact ⟨a7, by kernel_rfl⟩
theorem sta_same (s : Sta) (w : World) : (Op.equalIn 10000 26 (.agg s.v) (.agg s.v)).run Tryz.prog w = .ok true w := by
  rw [run_equalIn_agg (P := Tryz.prog) w 9999 26 s.v s.v (by kernel_rfl) (by kernel_rfl)]
  refine fields_same w 9999 s.v _ (fun f hf => ?_)
  have hall : ((Tryz.prog.fieldsOf 26).toList.all fun f => (f.type == 24 && f.offset == 0) || (f.type == 23 && f.offset == 8) || (f.type == 23 && f.offset == 9) || (f.type == 24 && f.offset == 10) || (f.type == 4 && f.offset == 18)) = true := by kernel_rfl
  have h := List.all_eq_true.1 hall f hf
  simp only [Bool.or_eq_true, Bool.and_eq_true, beq_iff_eq] at h
  rcases h with (((⟨h1, h2⟩ | ⟨h1, h2⟩) | ⟨h1, h2⟩) | ⟨h1, h2⟩) | ⟨h1, h2⟩
  all_goals rw [h1, h2]
  · exact ⟨.agg #[.int .u32 (s.r 0), .int .u32 (s.r 1), .int .u32 (s.r 2), .int .u32 (s.r 3), .int .u32 (s.r 4), .int .u32 (s.r 5), .int .u32 (s.r 6), .int .u32 (s.r 7)], by kernel_rfl, arr8_same _ _ _ _ _ _ _ _ w⟩
  · exact ⟨.int .u32 s.pc, by kernel_rfl, by rw [run_equalIn_int w 9998 _ _ _ _ _ Tryz.underlying23]; simp⟩
  · exact ⟨.int .u32 s.ps, by kernel_rfl, by rw [run_equalIn_int w 9998 _ _ _ _ _ Tryz.underlying23]; simp⟩
  · exact ⟨.agg #[.int .u32 (s.c 0), .int .u32 (s.c 1), .int .u32 (s.c 2), .int .u32 (s.c 3), .int .u32 (s.c 4), .int .u32 (s.c 5), .int .u32 (s.c 6), .int .u32 (s.c 7)], by kernel_rfl, arr8_same _ _ _ _ _ _ _ _ w⟩
  · exact ⟨.bool s.h, by kernel_rfl, by rw [run_equalIn_bool' w 9998 _ _ _ Tryz.underlying4]; simp⟩
end Go.Proofs.YtojoobonienhnaaGreatDoor
