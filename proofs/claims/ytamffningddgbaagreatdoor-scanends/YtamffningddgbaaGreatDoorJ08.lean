/- Part of a proof. -/
import Derived.Deep.CutRange
import Derived.Deep.RegionHeld3
import Derived.Test.YtamffningddgbaaGreatDoorJ07
namespace Go.Proofs.YtamffningddgbaaGreatDoor
open Go.RowKit Go.WideShapes Go.ChangeShapes Go.ChangeAt
set_option linter.unusedVariables false
theorem gevs_one {H : Type} {enc : TypeId × Value → H} {w : World} {base : Nat} {sp : Nat → Bool} {held : Bool} {fuel : Nat} {v : Value} {y : DataW H × List MemPlace}
    (h : DataW.trod enc Tryz.prog w base sp held fuel 29 [v] = some y) : ∃ x l c E, v = .slice x l c ∧ EvRow w x l c E := by
  rcases Go.Deep.open_slice Tryz.underlying29 h with ⟨hcs, _⟩ | ⟨a, l, c, m, n, D, Pl, hcs, _⟩
  · obtain rfl : v = .slice none 0 0 := by simpa using hcs
    obtain ⟨E, hE⟩ := evs_of (x := none) (len := 0) (cap := 0) h
    exact ⟨_, _, _, E, rfl, hE⟩
  · obtain rfl : v = .slice (some a) l c := by simpa using hcs
    obtain ⟨E, hE⟩ := evs_of (x := some a) (len := l) (cap := c) h
    exact ⟨_, _, _, E, rfl, hE⟩
theorem gbsl_lies {w : World} {x : Option Addr} {l c : Nat} {zs : List Int} (h : BSl w x l c zs) : Lies w x (byt zs) := by
  rcases h.2.2.2.1 with rfl | ⟨b, off, e, hb, _, hc⟩
  · exact .inl rfl
  · refine .inr ⟨b, off, e, hb, fun j u hj => ?_⟩
    have hj' : j < zs.length := by have := (List.getElem?_eq_some_iff.1 hj).1; rw [byt_len] at this; exact this
    rw [hc j hj', ← hj, byt_at]
    simp [hj']
theorem gu8_of {a : Int} (h : (Lit.int .u8 a).wf = true) : 0 ≤ a ∧ a < 256 := by
  simp [Lit.wf, IntKind.min, IntKind.max, IntKind.signed, IntKind.bits] at h
  omega
theorem gi32_of {a : Int} (h : (Lit.int .i32 a).wf = true) : -2147483648 ≤ a ∧ a ≤ 2147483647 := by
  simp [Lit.wf, IntKind.min, IntKind.max, IntKind.signed, IntKind.bits] at h
  omega
theorem gu16_of {a : Int} (h : (Lit.int .u16 a).wf = true) : 0 ≤ a ∧ a < 65536 := by
  simp [Lit.wf, IntKind.min, IntKind.max, IntKind.signed, IntKind.bits] at h
  omega
theorem ginss_len : ∀ C : List In4, (inss C).length = C.length * 4
  | [] => rfl
  | i :: C => by
    have := ginss_len C
    unfold inss at this ⊢
    rw [List.flatMap_cons, List.length_append, this, List.length_cons]
    show 4 + _ = _
    omega
set_option maxHeartbeats 1000000 in
theorem gins_one {H : Type} {enc : TypeId × Value → H} {w : World} {base : Nat} {sp : Nat → Bool} {held : Bool} {fuel : Nat} {v : Value} {y : DataW H × List MemPlace}
    (h : DataW.trod enc Tryz.prog w base sp held fuel 23 [v] = some y) : ∃ x l c, ∃ C : List In4, v = .slice x l c ∧ C.length = l ∧ l ≤ c ∧ (c : Int) ≤ 9223372036854775807 ∧ Lies w x (inss C) ∧ ∀ i ∈ C, In4.Ok i := by
  rcases Go.Deep.open_slice Tryz.underlying23 h with ⟨hcs, _⟩ | ⟨a, l, c, m, n, D, Pl, hcs, _, hl, hm, hmm, hsp, hx⟩
  · obtain rfl : v = .slice none 0 0 := by simpa using hcs
    exact ⟨_, _, _, [], rfl, rfl, Nat.le_refl _, by decide, .inl rfl, by simp⟩
  · obtain rfl : v = .slice (some a) l c := by simpa using hcs
    have c4 : Tryz.prog.cellsOf 53 = 4 := by kernel_rfl
    have hlm : l ≤ m := by rw [hmm]; split <;> omega
    have each : ∀ i, ∃ q : In4, i < l → (∀ j, j < 4 → w.cell? ((a.add (i * 4)).add j) = (inV q)[j]?) ∧ In4.Ok q := by
      intro i
      by_cases hi : i < l
      · obtain ⟨cs, h1, h2⟩ := hx i (by omega)
        rw [c4] at h1
        obtain ⟨_, hlen, hcell⟩ := World.cells?_some h1
        obtain ⟨v0, v1, v2, v3, rfl⟩ := list4 cs hlen
        obtain ⟨y0, y1, y2, y3, k, _, _, g0, g1, g2, g3⟩ := Joins.trod_struct4 Tryz.underlying53 h2
        have c5 : Tryz.prog.cellsOf 5 = 1 := by kernel_rfl
        have c6 : Tryz.prog.cellsOf 21 = 1 := by kernel_rfl
        rw [c5] at g0 g1 g2
        rw [c6] at g3
        obtain ⟨z0, e0, _, q0⟩ := DataW.trod_int Tryz.underlying5 g0
        obtain ⟨z1, e1, _, q1⟩ := DataW.trod_int Tryz.underlying5 g1
        obtain ⟨z2, e2, _, q2⟩ := DataW.trod_int Tryz.underlying5 g2
        obtain ⟨z3, e3, _, q3⟩ := DataW.trod_int Tryz.underlying21 g3
        simp at e0 e1 e2 e3
        subst e0 e1 e2 e3
        exact ⟨(z0, z1, z2, z3), fun _ => ⟨fun j hj => by
          have := hcell j (by simpa using hj)
          rw [this]
          rfl, gu8_of q0, gu8_of q1, gu8_of q2, gi32_of q3⟩⟩
      · exact ⟨(0, 0, 0, 0), fun h => absurd h hi⟩
    obtain ⟨f, hf⟩ := Classical.axiomOfChoice each
    have okf : ∀ i ∈ (List.range l).map f, In4.Ok i := fun i hi => by
      obtain ⟨k, hk, rfl⟩ := List.mem_map.1 hi
      exact (hf k (List.mem_range.1 hk)).2
    refine ⟨_, _, _, (List.range l).map f, rfl, by simp, hl, by unfold maxLen at hm; omega, ?_, okf⟩
    rcases Nat.eq_zero_or_pos l with h0 | h0
    · subst h0
      exact .inl rfl
    · obtain ⟨b, off, s⟩ := a
      have hc0 := (hf 0 h0).1 0 (by omega)
      have hc1 : w.cell? (((⟨b, off, s⟩ : Addr).add (0 * 4)).add 0) = some (.int .u8 (f 0).1) := hc0
      have hs : s = none := by simp only [Addr.add] at hc1; exact no_spot hc1
      subst hs
      refine .inr ⟨b, off, rfl, World.block_lt_of_cell? w _ hc1, fun j u hj => ?_⟩
      have hlen : (inss ((List.range l).map f)).length = l * 4 := by rw [ginss_len]; simp
      have hjl : j < l * 4 := by rw [← hlen]; exact (List.getElem?_eq_some_iff.1 hj).1
      have hk : j / 4 < l := by omega
      have e := inss_at ((List.range l).map f) (j / 4) (f (j / 4)) (by simp [hk]) (j % 4) (by omega)
      rw [show j / 4 * 4 + j % 4 = j by omega, hj] at e
      have d := (hf (j / 4) hk).1 (j % 4) (by omega)
      rw [Addr.add_lit, Addr.add_lit, show off + j / 4 * 4 + j % 4 = off + j by omega] at d
      rw [d, ← e]
set_option maxRecDepth 100000 in
set_option maxHeartbeats 4000000 in
theorem open_gst {H : Type} {enc : TypeId × Value → H} {w : World} {r : Reach} {b0 base : Nat} {sp : Nat → Bool} {held : Bool} {v : Value} {d : DataW H} {p : List MemPlace} (hv : Value.okWide Tryz.prog w r b0 31 v) (h : DataW.Trod enc Tryz.prog w base sp held 31 v d p) :
    ∃ (fr : Int) (xi : Option Addr) (li ci : Nat) (Z : List Int) (xc : Option Addr) (lc cc : Nat) (C : List In4) (en : Int) (s : Sta) (xs : Option Addr) (ls cs : Nat) (E : List Ev) (xd : Option Addr) (ld cd : Nat) (D : List Int),
      v = .agg (gstV fr (.slice xi li ci) (.slice xc lc cc) en s (.slice xs ls cs) (.slice xd ld cd)) ∧ (-9223372036854775808 ≤ fr ∧ fr ≤ 9223372036854775807) ∧ GstIn w fr xi li ci Z xc lc cc C en s xs ls cs E xd ld cd D := by
  have ht := Tryz.underlying31
  have c1 : Tryz.prog.cellsOf 22 = 1 := by kernel_rfl
  have c2 : Tryz.prog.cellsOf 29 = 1 := by kernel_rfl
  have c3 : Tryz.prog.cellsOf 23 = 1 := by kernel_rfl
  have c4 : Tryz.prog.cellsOf 3 = 1 := by kernel_rfl
  have c5 : Tryz.prog.cellsOf 24 = 1 := by kernel_rfl
  have c6 : Tryz.prog.cellsOf 28 = 19 := by kernel_rfl
  have hn : Tryz.prog.cellsOf 31 = 25 := by kernel_rfl
  obtain ⟨cs, rfl, hsz⟩ := okWide_struct ht hv
  rw [hn] at hsz
  obtain ⟨fuel, hf⟩ := h
  obtain ⟨xs, nn, _, _, hl, hxl, hx⟩ := DataW.trod_struct ht hf
  have hxs : xs.length = 7 := hxl
  obtain ⟨L⟩ := cs
  have hL : L.length = 25 := hsz
  obtain ⟨T, hT, S, hS, R, hR, rfl⟩ : ∃ T, T.length = 4 ∧ ∃ S, S.length = 19 ∧ ∃ R, R.length = 2 ∧ L = T ++ (S ++ R) := ⟨L.take 4, by simp; omega, (L.drop 4).take 19, by simp; omega, (L.drop 4).drop 19, by simp; omega, by rw [List.take_append_drop, List.take_append_drop]⟩
  obtain ⟨v0, v1, v2, v3, rfl⟩ := list4 T hT
  obtain ⟨v5, v6, rfl⟩ := list2 R hR
  have hd : ∀ j, (([v0, v1, v2, v3] ++ (S ++ [v5, v6])).drop (23 + j)) = [v5, v6].drop j := fun j => by
    rw [show 23 + j = 4 + (19 + j) by omega, ← List.drop_drop, show ([v0, v1, v2, v3] ++ (S ++ [v5, v6])).drop 4 = S ++ [v5, v6] from rfl, ← List.drop_drop, List.drop_left' hS]
  have g0 : DataW.trod enc Tryz.prog w base sp held nn 3 ((([v0, v1, v2, v3] ++ (S ++ [v5, v6])).drop 0).take (Tryz.prog.cellsOf 3)) = xs[0]? := hx 0 _ rfl
  rw [c4, List.getElem?_eq_getElem (by omega)] at g0
  have g1 : DataW.trod enc Tryz.prog w base sp held nn 22 ((([v0, v1, v2, v3] ++ (S ++ [v5, v6])).drop 1).take (Tryz.prog.cellsOf 22)) = xs[1]? := hx 1 _ rfl
  rw [c1, List.getElem?_eq_getElem (by omega)] at g1
  have g2 : DataW.trod enc Tryz.prog w base sp held nn 23 ((([v0, v1, v2, v3] ++ (S ++ [v5, v6])).drop 2).take (Tryz.prog.cellsOf 23)) = xs[2]? := hx 2 _ rfl
  rw [c3, List.getElem?_eq_getElem (by omega)] at g2
  have g3 : DataW.trod enc Tryz.prog w base sp held nn 24 ((([v0, v1, v2, v3] ++ (S ++ [v5, v6])).drop 3).take (Tryz.prog.cellsOf 24)) = xs[3]? := hx 3 _ rfl
  rw [c5, List.getElem?_eq_getElem (by omega)] at g3
  have g4 : DataW.trod enc Tryz.prog w base sp held nn 28 ((([v0, v1, v2, v3] ++ (S ++ [v5, v6])).drop 4).take (Tryz.prog.cellsOf 28)) = xs[4]? := hx 4 _ rfl
  rw [c6, show ([v0, v1, v2, v3] ++ (S ++ [v5, v6])).drop 4 = S ++ [v5, v6] from rfl, List.take_left' hS, List.getElem?_eq_getElem (by omega)] at g4
  have g5 : DataW.trod enc Tryz.prog w base sp held nn 29 ((([v0, v1, v2, v3] ++ (S ++ [v5, v6])).drop (23 + 0)).take (Tryz.prog.cellsOf 29)) = xs[5]? := hx 5 _ rfl
  rw [c2, hd 0, List.getElem?_eq_getElem (by omega)] at g5
  have g6 : DataW.trod enc Tryz.prog w base sp held nn 22 ((([v0, v1, v2, v3] ++ (S ++ [v5, v6])).drop (23 + 1)).take (Tryz.prog.cellsOf 22)) = xs[6]? := hx 6 _ rfl
  rw [c1, hd 1, List.getElem?_eq_getElem (by omega)] at g6
  obtain ⟨fr, e0, _, q0⟩ := DataW.trod_int Tryz.underlying3 g0
  obtain ⟨xi, li, ci, Z, rfl, b1⟩ := bsl_of (v := v1) g1
  obtain ⟨xc, lc, cc, C, rfl, kl, kc, km, ki, ko⟩ := gins_one (v := v2) g2
  obtain ⟨en, e3, _, q3⟩ := DataW.trod_int Tryz.underlying24 g3
  obtain ⟨s, ok, es⟩ := sta_of g4
  obtain ⟨xe, le, ce, E, rfl, b5⟩ := gevs_one (v := v5) g5
  obtain ⟨xd, ld, cd, D, rfl, b6⟩ := bsl_of (v := v6) g6
  obtain rfl : v0 = .int .i64 fr := by simpa using e0
  obtain rfl : v3 = .int .u16 en := by simpa using e3
  subst es
  exact ⟨fr, xi, li, ci, Z, xc, lc, cc, C, en, s, xe, le, ce, E, xd, ld, cd, D, rfl, i64_of q0, ⟨b1.1, b1.2.1, b1.2.2.1, (gbsl_lies b1), b1.2.2.2.2, kl, kc, km, ki, ko, gu16_of q3, ok, ⟨b5.hl, b5.hle, b5.hmax, b5.lies, b6.1, b6.2.1, b6.2.2.1, (gbsl_lies b6)⟩, b5.byte, b6.2.2.2.2⟩⟩
end Go.Proofs.YtamffningddgbaaGreatDoor
namespace Go.Proofs.YtamffningddgbaaGreatDoor
open Go.RowKit
set_option linter.unusedVariables false
set_option linter.unusedSimpArgs false
structure Two (w : World) (v : Value) (R n : Nat) (x : Option Addr) (Rb : Nat) (B : List Int) : Prop where
  ram : Ram w v R (List.range n)
  row : RowB w R B
  ref : Refd w x Rb B
  len : B.length = 64 * n
  byts : Byts B
  ne : R ≠ Rb
  le : n ≤ 512
  off : Off w v [R, Rb]
  lR : R < w.heap.size
  lRb : Rb < w.heap.size
theorem not_row {w : World} {b : Nat} {C : List Int} (h : RowB w b C) (hC : C ≠ []) {cs : Array Value} {t : TypeId} (hb : w.heap[b]? = some (.cells cs t (0, 0))) (x : Option Addr) (n c : Nat) : cs[0]? ≠ some (.slice x n c) := by
  rw [h hC] at hb
  obtain ⟨rfl, _⟩ : (byt C).toArray = cs ∧ 5 = t := by simpa using hb
  rcases C with _ | ⟨z, C⟩
  · exact absurd rfl hC
  · simp [byt]
theorem nm2 {a R Rb : Nat} (h1 : a ≠ R) (h2 : a ≠ Rb) : a ∉ [R, Rb] := by simp [h1, h2]
theorem off_of {w : World} {v : Value} {R Rb : Nat} {ix : List Nat} {C : List Int} (hr : Ram w v R ix) (hb : RowB w Rb C) (hC : C ≠ []) : Off w v [R, Rb] := by
  intro p e
  subst e
  rcases hr with ⟨_, h⟩ | ⟨_, q, e, hp, n⟩ | ⟨q, F, e, hp, hF, n1, n2, hn⟩
  · simp at h
  · simp at e; subst e
    refine ⟨nm2 n fun e => ?_, fun F a b hc => ?_⟩
    · subst e; exact not_row hb hC hp none 0 0 rfl
    · rw [cell_of_block hp] at hc; simp at hc
  · simp at e; subst e
    refine ⟨nm2 n1 fun e => ?_, fun F' a b hc => ?_⟩
    · subst e; exact not_row hb hC hp _ _ _ rfl
    · rw [cell_of_block hp] at hc
      have e2 : F = F' := by have := hc; simp at this; exact this.1
      subst e2
      refine nm2 n2 fun e => ?_
      subst e
      refine not_row hb hC hF (some ⟨R, 64 * ix.getD 0 0, none⟩) 64 64 ?_
      rcases ix with _ | ⟨i, ix⟩
      · exact absurd rfl hn
      · simp [frs]
theorem off_tag {w : World} {v : Value} {R b : Nat} {ix : List Nat} (hr : Ram w v R ix) {cs : Array Value} {t : TypeId} {fr : Nat × Nat} (hb : w.heap[b]? = some (.cells cs t fr)) (h1 : t ≠ 154) (h2 : t ≠ 22) : Off w v [b] := by
  intro p e
  subst e
  rcases hr with ⟨_, h⟩ | ⟨_, q, e, hp, n⟩ | ⟨q, F, e, hp, hF, n1, n2, hn⟩
  · simp at h
  · simp at e; subst e
    refine ⟨fun e => ?_, fun F a b hc => ?_⟩
    · simp at e; subst e; rw [hp] at hb; simp at hb; exact h1 hb.2.1.symm
    · rw [cell_of_block hp] at hc; simp at hc
  · simp at e; subst e
    refine ⟨fun e => ?_, fun F' a b hc => ?_⟩
    · simp at e; subst e; rw [hp] at hb; simp at hb; exact h1 hb.2.1.symm
    · rw [cell_of_block hp] at hc
      have e2 : F = F' := by have := hc; simp at this; exact this.1
      subst e2
      intro e
      simp at e; subst e; rw [hF] at hb; simp at hb; exact h2 hb.2.1.symm
theorem results_tc {P : Program} {fn : Func} {u p : Tmp} {ty : TypeId} (h : fn.results = #[.tmp u, .cell p ty]) (tmps : Array Value) (w : World) (g : Nat) (t : TypeId) (cs : Array Value) (fr : Nat × Nat) (d : TypeDesc)
    (hp : tmps.getD p undef = .pointer (some ⟨g, 0, none⟩)) (hg : w.heap[g]? = some (.cells cs t fr))
    (hu : P.underlying ty = some d) (hd : (match d with | .struct _ | .array _ _ => true | _ => false) = true) (hi : (P.info? ty).map (·.size) = some cs.size) :
    (results fn tmps).run P w = .ok (.tuple #[tmps.getD u undef, .agg cs]) w := by
  have hp' : tmps[p]?.getD undef = .pointer (some ⟨g, 0, none⟩) := by simpa using hp
  simp [results, h, hp', asAddr, run_loadVar_row w g t ty cs fr d hg hu hd hi]
theorem size_ref18 : (Tryz.prog.info? 34).map (·.size) = some 1 := by kernel_rfl
theorem splice_all {B Z : List Int} (h : Z.length = B.length) : splice B 0 Z = Z := by unfold splice; simp [h]
set_option maxHeartbeats 4000000 in
set_option maxRecDepth 100000 in
theorem made18_any {w : World} {fr : Int} {xi : Option Addr} {li ci : Nat} {Z : List Int} {xc : Option Addr} {lc cc : Nat} {C : List In4} {en : Int} {s : Sta} {xs : Option Addr} {ls cs : Nat} {E : List Ev} {xd : Option Addr} {ld cd : Nat} {D : List Int} (I : GstIn w fr xi li ci Z xc lc cc C en s xs ls cs E xd ld cd D) (hfr : -9223372036854775808 ≤ fr ∧ fr ≤ 9223372036854775807) :
    Calls Tryz.prog 7 #[.agg (gstV fr (.slice xi li ci) (.slice xc lc cc) en s (.slice xs ls cs) (.slice xd ld cd))] w fun e w' => ∃ p R Rb : Nat, e = .returned (.tuple #[.pointer (some ⟨p, 0, none⟩), refV (some ⟨Rb, 0, none⟩) (64 * nFr fr)]) ∧
      Two w' (.pointer (some ⟨p, 0, none⟩)) R (nFr fr) (some ⟨Rb, 0, none⟩) Rb (gstL fr Z C en) ∧ Kep w w' ∧ w.heap.size ≤ R ∧ w.heap.size ≤ Rb := by
  obtain ⟨V, hV⟩ : ∃ V, Hid (gstV fr (.slice xi li ci) (.slice xc lc cc) en s (.slice xs ls cs) (.slice xd ld cd) = V) := ⟨_, rfl⟩
  have VZ : Hid ((Tryz.prog.info? 31).map (·.size) = some V.size) := by rw [Hid, ← hV.out]; kernel_rfl
  have HL : Hid (∀ w', Kep w w' → Calls Tryz.prog 15 #[.agg V] w' fun e w'' => ∃ rb, e = .returned (.tuple #[.slice (some ⟨rb, 0, none⟩) (64 * nFr fr) (64 * nFr fr), .int .i64 (nFr fr)]) ∧ RowB w'' rb (gstL fr Z C en) ∧ Kep w' w'' ∧ w'.heap.size ≤ rb) := fun w' k => by rw [← hV.out]; exact laid_any (I.kep k) hfr
  have hn := nFr_range fr
  have hG : Hid (Byts (gstL fr Z C en)) := gstL_byts I.ib I.ko
  have hGl : Hid ((gstL fr Z C en).length = 64 * nFr fr) := gstL_len fr Z C en
  rw [hV.out]
  generalize gstL fr Z C en = G at *
  generalize nFr fr = n at *
  have n1 : (1 : Int) ≤ n := by omega
  have n2 : (n : Int) ≤ 24 := by omega
  have hGne : Hid (G ≠ []) := fun e => by have := hGl.out; rw [e] at this; simp at this; omega
  have HN : Hid (∀ w', Calls Tryz.prog 18 #[.int .i64 n] w' fun e w'' => ∃ p : Nat, e = .returned (.tuple #[.pointer (some ⟨p, 0, none⟩), .int .i64 0]) ∧ Own w' w'' (.pointer (some ⟨p, 0, none⟩)) w'.heap.size n (List.replicate (64 * n) 0)) := fun w' => new_any w' n (by omega) (by omega)
  have HR : Hid (∀ w', Calls Tryz.prog 16 #[.int .i64 n] w' fun e w'' => e = .returned (refV (some ⟨w'.heap.size + 1, 0, none⟩) (64 * n)) ∧ Kep w' w'' ∧ w''.heap[w'.heap.size + 1]? = some (.cells (byt (List.replicate (64 * n) 0)).toArray 5 (0, 0))) := fun w' => refNew_any w' n n1 (by omega)
  have HRF : Hid (∀ w' rb Rb, rb ≠ Rb → RowB w' rb G → w'.heap[Rb]? = some (.cells (byt (List.replicate (64 * n) 0)).toArray 5 (0, 0)) → Calls Tryz.prog 17 #[refV (some ⟨Rb, 0, none⟩) (64 * n), .int .u32 0, .slice (some ⟨rb, 0, none⟩) (64 * n) (64 * n)] w' fun e w'' => (∃ y, e = .returned (.bool y)) ∧ Put [Rb] w' w'' ∧ RowB w'' Rb G) := fun w' rb Rb hne hr hb => by
    have hz : (List.replicate (64 * n) (0 : Int)).length = 64 * n := by simp
    have hR : Refd w' (some ⟨Rb, 0, none⟩) Rb (List.replicate (64 * n) 0) := ⟨fun _ => hb, fun _ => rfl, by rw [hz]; omega⟩
    have hS : Src w' (some ⟨rb, 0, none⟩) G [Rb] := .inr ⟨rb, 0, rfl, hr.lt hGne.out, by simpa using hne, fun i hi => by
      rw [Nat.zero_add, cell_of_block (hr hGne.out)]; simp [byt, hi, List.getD]⟩
    have h := refFill_any w' (some ⟨Rb, 0, none⟩) Rb _ hR 0 (by decide) (some ⟨rb, 0, none⟩) G (64 * n) (64 * n) hGl.out (Nat.le_refl _) (by omega) hS
    rw [hz] at h
    refine h.mono ?_
    rintro e w'' ⟨rfl, p, r⟩
    rw [if_pos (by omega), splice_all (by rw [hz]; exact hGl.out)] at r
    exact ⟨⟨_, rfl⟩, p, r⟩
  have HF : Hid (∀ w' w'' rb p, Own w' w'' (.pointer (some ⟨p, 0, none⟩)) w'.heap.size n (List.replicate (64 * n) 0) → rb < w'.heap.size → RowB w'' rb G → Calls Tryz.prog 19 #[.pointer (some ⟨p, 0, none⟩), .int .u32 0, .slice (some ⟨rb, 0, none⟩) (64 * n) (64 * n)] w'' fun e w3 => e = .returned (.bool true) ∧ Put [w'.heap.size] w'' w3 ∧ Ram w3 (.pointer (some ⟨p, 0, none⟩)) w'.heap.size (List.range n) ∧ RowB w3 w'.heap.size G) := fun w' w'' rb p O hlt hr => by
    have hz : (List.replicate (64 * n) (0 : Int)).length = 64 * n := by simp
    have hS : Src w'' (some ⟨rb, 0, none⟩) G [w'.heap.size] := .inr ⟨rb, 0, rfl, hr.lt hGne.out, by simp; omega, fun i hi => by
      rw [Nat.zero_add, cell_of_block (hr hGne.out)]; simp [byt, hi, List.getD]⟩
    have h := fill_put w'' (.pointer (some ⟨p, 0, none⟩)) w'.heap.size (List.range n) _ O.ram (by simp; omega) O.row (fits_range hz) 0 (by decide) (some ⟨rb, 0, none⟩) G (64 * n) (64 * n) hGl.out (Nat.le_refl _) (by omega) hS
    refine h.mono ?_
    rintro e w3 ⟨rfl, p3, r3⟩
    have hlt : 0 + 64 * n ≤ 64 * (List.range n).length := by simp
    rw [if_pos hlt, layL_range G _ 0 hz (by have := hGl.out; omega), splice_all (by rw [hz]; exact hGl.out)] at r3
    exact ⟨by simp, p3, O.ram.put p3, r3⟩
  clear I hfr
  obtain ⟨W0, hW0⟩ : ∃ W, Hid ((w.alloc (.cells V 31)).alloc (.cells #[.slice none 0 0] 34) = W) := ⟨_, rfl⟩
  have B0 : Hid (W0.heap[w.heap.size]? = some (.cells V 31 (0, 0))) := by rw [← hW0.out]; exact ((Kep.refl _).alloc _).block (hat _ _ _ rfl)
  obtain ⟨i3, q3⟩ : ∃ i, Hid (i = w.heap.size + 1) := ⟨_, rfl⟩
  have B3 : Hid (W0.heap[i3]? = some (.cells #[.slice none 0 0] 34 (0, 0))) := by rw [← hW0.out, q3.out]; exact hat _ _ _ (by simp)
  have K0 : Hid (Kep w W0) := by rw [← hW0.out]; exact ((Kep.refl w).alloc _).alloc _
  go_enter Tryz.func7, Tryz.ntmps7
  go_upto_region 1 with fail
  rw [hW0.out, ← q3.out]
  refine wp_region_lit ?_
  refine wpList_load_row (by rfl) 31 _ (by rfl) w.heap.size (by rfl) 31 V (0, 0) _ B0.out Tryz.underlying31 rfl VZ.out ?_
  go_wp2_with fail
  refine (HL.out W0 K0.out).mono ?_
  rintro e w1 ⟨rb, rfl, rB, k1, lrb⟩
  have K1 := hidd (kep_trans K0.out k1)
  have RB1 := hidd rB
  have B31 := hidd (k1.block B3.out)
  have LB : Hid (w.heap.size ≤ rb ∧ rb < w1.heap.size) := ⟨by have := K0.out.size; omega, rB.lt hGne.out⟩
  clear k1 rB lrb HL
  go_wp2_with fail
  refine (HR.out w1).mono ?_
  rintro e w2 ⟨rfl, k2, b2⟩
  obtain ⟨Rb, qRb⟩ : ∃ i, Hid (i = w1.heap.size + 1) := ⟨_, rfl⟩
  rw [← qRb.out] at b2
  have K2 := hidd (kep_trans K1.out k2)
  have RB2 := hidd (RB1.out.kep k2)
  have BB2 := hidd b2
  have B32 := hidd (k2.block B31.out)
  have LB2 : Hid (rb < w2.heap.size ∧ w.heap.size < Rb ∧ rb ≠ Rb ∧ Rb < w2.heap.size) := by have := LB.out; have := K1.out.size; have := qRb.out; have := block_lt b2; have := k2.size; exact ⟨by omega, by omega, by omega, by omega⟩
  clear k2 b2 HR
  go_upto_region 3 with fail
  rw [← qRb.out]
  obtain ⟨W3, hW3⟩ : ∃ W, Hid (w2.alloc (.cells #[.slice (some ⟨Rb, 0, none⟩) (64 * n) (64 * n)] 34) = W) := ⟨_, rfl⟩
  obtain ⟨i6, q6⟩ : ∃ i, Hid (i = w2.heap.size) := ⟨_, rfl⟩
  rw [hW3.out, ← q6.out]
  have k3 : Kep w2 W3 := by rw [← hW3.out]; exact (Kep.refl _).alloc _
  have B63 : Hid (W3.heap[i6]? = some (.cells #[.slice (some ⟨Rb, 0, none⟩) (64 * n) (64 * n)] 34 (0, 0))) := by rw [← hW3.out, q6.out]; exact hat _ _ _ rfl
  have K3 := hidd (kep_trans K2.out k3)
  have RB3 := hidd (RB2.out.kep k3)
  have BB3 := hidd (k3.block BB2.out)
  have B33 := hidd (k3.block B32.out)
  have c6 : W3.cell? ⟨i6, 0, none⟩ = some (.slice (some ⟨Rb, 0, none⟩) (64 * n) (64 * n)) := cell_of_block B63.out
  clear k3
  go_wp2_with fail
  refine (HRF.out W3 rb Rb LB2.out.2.2.1 RB3.out BB3.out).mono ?_
  rintro e w4 ⟨⟨yy, rfl⟩, p4, r4⟩
  have K4 := hidd (K3.out.put p4 (by have := LB2.out; simp; omega))
  have RB4 := hidd (RB3.out.put p4 (by have := LB2.out; simp; omega))
  have BB4 := hidd r4
  have B34 := hidd (p4.keeps B33.out (by have := q3.out; have := qRb.out; have := K1.out.size; have := block_lt B31.out; simp; omega))
  have B64 := hidd (p4.keeps B63.out (by have := q6.out; have := LB2.out; simp; omega))
  have l4 := hidd p4.size
  clear c6 p4 r4 HRF
  go_wp2_with fail
  refine (HN.out w4).mono ?_
  rintro e w5 ⟨p, rfl, O⟩
  have O' := hidd O
  have RB5 := hidd (RB4.out.kep O.kep)
  have BB5 := hidd (BB4.out.kep O.kep)
  have B35 := hidd (O.kep.block B34.out)
  have B65 := hidd (O.kep.block B64.out)
  have hrb : rb < w4.heap.size := RB4.out.lt hGne.out
  have H5 := hidd (HF.out w4 w5 rb p O hrb RB5.out)
  have K5 := hidd (kep_trans K4.out O.kep)
  clear O HN HF hrb
  go_wp2_with fail
  refine H5.out.mono ?_
  rintro e w6 ⟨rfl, p6, ram6, row6⟩
  have lR : Hid (i3 < w4.heap.size ∧ i6 < w4.heap.size ∧ Rb < w4.heap.size ∧ w.heap.size ≤ w4.heap.size) := ⟨block_lt B34.out, block_lt B64.out, BB4.out.lt hGne.out, K4.out.size⟩
  have B36 := hidd (p6.keeps B35.out (by have := lR.out; simp; omega))
  have B66 := hidd (p6.keeps B65.out (by have := lR.out; simp; omega))
  have BB6 := hidd (BB5.out.put p6 (by have := lR.out; simp; omega))
  have K6 := hidd (K5.out.put p6 (by have := lR.out; simp; omega))
  have RM := hidd ram6
  have RW := hidd row6
  obtain ⟨R, qR⟩ : ∃ R, Hid (w4.heap.size = R) := ⟨_, rfl⟩
  rw [qR.out] at RM RW lR
  have c6 : w6.cell? ⟨i6, 0, none⟩ = some (.slice (some ⟨Rb, 0, none⟩) (64 * n) (64 * n)) := cell_of_block B66.out
  have c3 : w6.cell? ⟨i3, 0, none⟩ = some (.slice none 0 0) := cell_of_block B36.out
  have z3 := row_frozen B36.out 0
  clear p6 ram6 row6 H5
  go_wp2_with fail
  go_region
  go_wp2_with fail
  refine bodyPost_ret (v := .tuple #[.pointer (some ⟨p, 0, none⟩), refV (some ⟨Rb, 0, none⟩) (64 * n)]) (results_tc (u := 2) (p := 3) (ty := 34) rfl _ _ i3 34 #[.slice (some ⟨Rb, 0, none⟩) (64 * n) (64 * n)] (0, 0) _ rfl ?_ Tryz.underlying34 rfl size_ref18) rfl ⟨p, R, Rb, rfl, ?_, ?_, ?_, ?_⟩
  · exact (drew_heap _ _).trans ((heap_setCell_row B36.out _).trans rfl)
  · have PZ : Put [i3] w6 ((w6.setCell ⟨i3, 0, none⟩ (.slice (some ⟨Rb, 0, none⟩) (64 * n) (64 * n))).drew) := ((Put.refl _).setCell (by simp) _).drew
    have nR : R ∉ [i3] := by have := lR.out; simp; omega
    have nB : Rb ∉ [i3] := by have := q3.out; have := qRb.out; have := block_lt B31.out; simp; omega
    have ramZ : Ram _ _ R (List.range n) := RM.out.off PZ (off_tag RM.out B36.out (by decide) (by decide))
    have rowZ : RowB _ R G := RW.out.put PZ nR
    have refZ : RowB _ Rb G := BB6.out.put PZ nB
    exact ⟨ramZ, rowZ, ⟨refZ, fun _ => rfl, by have := hGl.out; omega⟩, hGl.out, hG.out, by have := lR.out; omega, by omega, off_of ramZ refZ hGne.out, rowZ.lt hGne.out, refZ.lt hGne.out⟩
  · exact (K6.out.setCell (by have := q3.out; show _ ≤ i3; omega) _).drew
  · exact lR.out.2.2.2
  · have := LB2.out; omega
theorem andN (a b : Nat) (ha : a < 4294967296) (hb : b < 4294967296) : bits .and .u32 (a : Int) (b : Int) = ((a &&& b : Nat) : Int) := u32_and_nat a b ha hb
theorem mask32 (x m : Nat) (hm : m < 32) : x &&& m = (x % 32) &&& m := by
  have h1 : x % 32 = x &&& 31 := (Nat.and_two_pow_sub_one_eq_mod x 5).symm
  have h2 : 31 &&& m = m := by rw [Nat.and_comm]; exact (Nat.and_two_pow_sub_one_eq_mod m 5).trans (Nat.mod_eq_of_lt hm)
  rw [h1, Nat.and_assoc, h2]
theorem bit_tab : ∀ r < 32, (r &&& 1) = r % 2 ∧ (r &&& 4) = 4 * (r / 4 % 2) ∧ (r &&& 8) = 8 * (r / 8 % 2) ∧ (r &&& 16) = 16 * (r / 16 % 2) := by decide
theorem and1 (x : Nat) (hx : x < 4294967296) : bits .and .u32 (x : Int) 1 = ((x % 2 : Nat) : Int) := by
  rw [show (1 : Int) = ((1 : Nat) : Int) from rfl, andN x 1 hx (by decide), mask32 x 1 (by decide), (bit_tab _ (Nat.mod_lt _ (by decide))).1]
  omega
theorem and4 (x : Nat) (hx : x < 4294967296) : bits .and .u32 (x : Int) 4 = ((4 * (x / 4 % 2) : Nat) : Int) := by
  rw [show (4 : Int) = ((4 : Nat) : Int) from rfl, andN x 4 hx (by decide), mask32 x 4 (by decide), (bit_tab _ (Nat.mod_lt _ (by decide))).2.1]
  omega
theorem down_nat (x : Nat) (hx : x < 4294967296) : x &&& 4294967232 = x - x % 64 := by
  have e1 : x - x % 64 = (x >>> 6) <<< 6 := by rw [Nat.shiftLeft_eq, Nat.shiftRight_eq_div_pow]; omega
  have e2 : 4294967232 = (2 ^ 26 - 1) <<< 6 := by decide
  rw [e1, e2]
  apply Nat.eq_of_testBit_eq
  intro i
  rw [Nat.testBit_and, Nat.testBit_shiftLeft, Nat.testBit_shiftLeft, Nat.testBit_shiftRight, Nat.testBit_two_pow_sub_one]
  by_cases h6 : 6 ≤ i
  · rw [show 6 + (i - 6) = i by omega]
    by_cases h32 : i < 32
    · simp [h6, show i - 6 < 26 by omega]
    · have : x.testBit i = false := Nat.testBit_lt_two_pow (Nat.lt_of_lt_of_le hx (Nat.pow_le_pow_right (n := 2) (by decide) (by omega : 32 ≤ i)))
      simp [this]
  · simp [show ¬ i ≥ 6 by omega]
theorem down64 (x : Nat) (hx : x < 4294967296) : bits .andNot .u32 (x : Int) 63 = ((x - x % 64 : Nat) : Int) := by
  rw [show (63 : Int) = ((63 : Nat) : Int) from rfl, u32_andNot_nat x 63 hx (by decide), show 4294967295 - 63 = 4294967232 from rfl, down_nat x hx]
def joinN (x y : Nat) : Nat := (x % 2) * (y % 2) + 2 * ((x / 2 % 2) * (y / 2 % 2)) + 4 * ((x / 4 % 2) * (y / 4 % 2)) + 8 * (if x / 8 % 2 = 1 ∨ y / 8 % 2 = 1 then 1 else 0) + 16 * (y / 16 % 2)
theorem join_tab : ∀ x < 32, ∀ y < 32, ((x &&& y) &&& 7) ||| ((x ||| y) &&& 8) ||| (y &&& 16) = joinN x y := by decide +kernel
theorem joinN_mod (x y : Nat) : joinN (x % 32) (y % 32) = joinN x y := by
  unfold joinN
  have e : ∀ z : Nat, z % 32 % 2 = z % 2 ∧ z % 32 / 2 % 2 = z / 2 % 2 ∧ z % 32 / 4 % 2 = z / 4 % 2 ∧ z % 32 / 8 % 2 = z / 8 % 2 ∧ z % 32 / 16 % 2 = z / 16 % 2 := fun z => by omega
  rw [(e x).1, (e x).2.1, (e x).2.2.1, (e x).2.2.2.1, (e y).1, (e y).2.1, (e y).2.2.1, (e y).2.2.2.1, (e y).2.2.2.2]
theorem wjoin_nat (x y : Nat) : ((x &&& y) &&& 7) ||| ((x ||| y) &&& 8) ||| (y &&& 16) = joinN x y := by
  rw [← joinN_mod, ← join_tab _ (Nat.mod_lt _ (by decide)) _ (Nat.mod_lt _ (by decide))]
  have h31 : ∀ z : Nat, z % 32 = z &&& 31 := fun z => (Nat.and_two_pow_sub_one_eq_mod z 5).symm
  rw [mask32 (x &&& y) 7 (by decide), mask32 (x ||| y) 8 (by decide), mask32 y 16 (by decide)]
  rw [show (x &&& y) % 32 = (x % 32) &&& (y % 32) from Nat.and_mod_two_pow (n := 5), show (x ||| y) % 32 = (x % 32) ||| (y % 32) from Nat.or_mod_two_pow (n := 5)]
theorem joins32 (x y : Nat) (hx : x < 4294967296) (hy : y < 4294967296) :
    bits .or .u32 (bits .or .u32 (bits .and .u32 (bits .and .u32 (bits .and .u32 4294967295 x) y) 7) (bits .and .u32 (bits .or .u32 (bits .or .u32 0 x) y) 8)) (bits .and .u32 y 16) = ((joinN x y : Nat) : Int) := by
  have a1 : 4294967295 &&& x = x := by rw [Nat.and_comm]; exact (Nat.and_two_pow_sub_one_eq_mod x 32).trans (Nat.mod_eq_of_lt hx)
  have c1 : x &&& y < 4294967296 := Nat.and_lt_two_pow (n := 32) _ hy
  have c2 : x ||| y < 4294967296 := Nat.or_lt_two_pow (n := 32) hx hy
  have c3 : (x &&& y) &&& 7 < 4294967296 := Nat.and_lt_two_pow (n := 32) _ (by decide)
  have c4 : (x ||| y) &&& 8 < 4294967296 := Nat.and_lt_two_pow (n := 32) _ (by decide)
  have c5 : y &&& 16 < 4294967296 := Nat.and_lt_two_pow (n := 32) _ (by decide)
  have c6 : (x &&& y) &&& 7 ||| (x ||| y) &&& 8 < 4294967296 := Nat.or_lt_two_pow (n := 32) c3 c4
  rw [show (4294967295 : Int) = ((4294967295 : Nat) : Int) from rfl, show (7 : Int) = ((7 : Nat) : Int) from rfl, show (8 : Int) = ((8 : Nat) : Int) from rfl, show (16 : Int) = ((16 : Nat) : Int) from rfl, show (0 : Int) = ((0 : Nat) : Int) from rfl,
    u32_and_nat _ _ (by decide) hx, a1, u32_and_nat _ _ hx hy, u32_and_nat _ _ c1 (by decide), u32_or_nat _ _ (by decide) hx, Nat.zero_or, u32_or_nat _ _ hx hy, u32_and_nat _ _ c2 (by decide), u32_and_nat _ _ hy (by decide), u32_or_nat _ _ c3 c4, u32_or_nat _ _ c6 c5, wjoin_nat]
theorem dirPart_any (w : World) (va : Nat) (ha : (va : Int) < 4294967296) :
    Calls Tryz.prog 88 #[.int .u32 va] w fun e w' => e = .returned (.int .i64 ((va / 1024 : Nat) : Int)) ∧ w' = w := by
  go_enter Tryz.func88, Tryz.ntmps88
  go_wp2
  go_ret
  exact ⟨ret_int (by omega), rfl⟩
theorem base_any (w : World) (a : Nat) (ha : (a : Int) < 4294967296) :
    Calls Tryz.prog 90 #[.int .u32 a] w fun e w' => e = .returned (.int .u32 ((a - a % 64 : Nat) : Int)) ∧ w' = w := by
  have hd := down64 a (by omega)
  go_enter Tryz.func90, Tryz.ntmps90
  go_wp2
  go_ret
  exact ⟨ret_int (by omega), rfl⟩
theorem framenum_any (w : World) (a : Nat) (ha : (a : Int) < 4294967296) :
    Calls Tryz.prog 94 #[.int .u32 a] w fun e w' => e = .returned (.int .i64 ((a / 64 : Nat) : Int)) ∧ w' = w := by
  go_enter Tryz.func94, Tryz.ntmps94
  go_wp2
  go_ret
  exact ⟨ret_int (by omega), rfl⟩
theorem within_any (w : World) (v : Value) (R : Nat) (ix : List Nat) (h : Ram w v R ix) (hix : (ix.length : Int) ≤ 512) (a : Nat) (ha : (a : Int) < 4294967296) :
    Calls Tryz.prog 92 #[v, .int .u32 a] w fun e w' => e = .returned (.bool (decide (a < 64 * ix.length))) ∧ w' = w := by
  have hc : Hid (Calls Tryz.prog 45 #[v] w fun e w' => e = .returned (.int .u32 (64 * ix.length)) ∧ w' = w) := msize_any w v R ix h hix
  clear h
  go_enter Tryz.func92, Tryz.ntmps92
  go_wp2_with (go_at_call 45; refine hc.out.mono ?_; rintro e w1 ⟨rfl, rfl⟩)
  go_ret
  exact ⟨ret_bool (decide_eq_decide.2 (by omega)), rfl⟩
theorem size_arr2 : (Tryz.prog.info? 55).map (·.size) = some 2 := by kernel_rfl
theorem picks_any (w : World) (va : Nat) (ha : (va : Int) < 4294967296) :
    Calls Tryz.prog 89 #[.int .u32 va] w fun e w' => e = .returned (.agg #[.int .u32 ((va / 1024 : Nat) : Int), .int .u32 ((va / 64 % 16 : Nat) : Int)]) ∧ w' = w.alloc (.cells #[.int .u32 ((va / 1024 : Nat) : Int), .int .u32 ((va / 64 % 16 : Nat) : Int)] 55) := by
  have hc : Hid (∀ w, Calls Tryz.prog 88 #[.int .u32 va] w fun e w' => e = .returned (.int .i64 ((va / 1024 : Nat) : Int)) ∧ w' = w) := fun w => dirPart_any w va ha
  go_enter Tryz.func89, Tryz.ntmps89
  go_wp2_with (go_at_call 88; refine (hc.out _).mono ?_; rintro e w1 ⟨rfl, rfl⟩)
  have e1 : ((va / 1024 : Nat) : Int) = (va : Int) / 1024 := by omega
  have e2 : ((va / 64 % 16 : Nat) : Int) = (va : Int) / 64 % 16 := by omega
  rw [e1, e2]
  exact bodyPost_ret (results1 rfl _ _ w.heap.size 55 #[.int .u32 ((va : Int) / 1024), .int .u32 ((va : Int) / 64 % 16)] (0, 0) _ rfl (hat _ _ _ rfl) Tryz.underlying55 rfl size_arr2) rfl ⟨rfl, rfl⟩
theorem join2_any (w : World) (b : Nat) (x y : Nat) (hx : x < 4294967296) (hy : y < 4294967296) (c0 : w.cell? ⟨b, 0, none⟩ = some (.int .u32 x)) (c1 : w.cell? ⟨b, 1, none⟩ = some (.int .u32 y)) :
    Calls Tryz.prog 93 #[.slice (some ⟨b, 0, none⟩) 2 2] w fun e w' => e = .returned (.int .u32 (joinN x y)) ∧ w' = w := by
  have H : Hid (_ = _) := joins32 x y hx hy
  go_enter Tryz.func93, Tryz.ntmps93
  go_wp2
  go_rounds 3
  go_ret
  exact ⟨by rw [← H.out]; rfl, rfl⟩
end Go.Proofs.YtamffningddgbaaGreatDoor
