/- Part of a proof. -/
import Derived.Deep.Slices
import Derived.Lib.SmallJoins
import Derived.OpenShut
import Derived.ChangeKeysEq
import Derived.Deep.RegionHeld3
import Derived.Test.YtojoobonienhnaaGreatDoorJ48
namespace Go.Proofs.YtojoobonienhnaaGreatDoor
open Go.RowKit
set_option linter.unusedVariables false
set_option linter.unusedSimpArgs false
theorem byts_nil : Byts [] := fun b hb => by simp at hb
theorem z7 : (0 : Int) ≤ 0 ∧ (0 : Int) ≤ 7 := by decide
theorem ds0_ok {E : List Ev} {Z : List Int} (h : errI E Z = 0) (hE : ∀ e ∈ E, 0 ≤ e.2.2 ∧ e.2.2 < 256) (hZ : Byts Z) : (ds0 E Z).Ok := by
  obtain ⟨h1, h2, h3, h4⟩ := errI_ok h
  refine ⟨z7, z7, by simp [ds0], byts_nil, h2, h4, hZ, z32, z32, z32, z32, .inr ⟨.inl rfl, rfl, rfl, rfl⟩, fun e he => ⟨?_, hE e he⟩⟩
  cases hw : wrongB e with
  | false => rfl
  | true => rw [List.any_eq_false] at h3; exact absurd hw (h3 e he)
end Go.Proofs.YtojoobonienhnaaGreatDoor
namespace Go.Proofs.YtojoobonienhnaaGreatDoor
open Go.RowKit Go.WideShapes Go.ChangeShapes Go.ChangeAt
set_option linter.unusedVariables false
theorem byts_of {zs : List Int} (h : ∀ n ∈ zs, (Lit.int .u8 n).wf = true) : Byts zs := by
  intro n hn
  have := h n hn
  simp [Lit.wf, IntKind.min, IntKind.max, IntKind.signed, IntKind.bits] at this; omega
def BSl (w : World) (x : Option Addr) (l c : Nat) (zs : List Int) : Prop := zs.length = l ∧ l ≤ c ∧ (c : Int) ≤ 9223372036854775807 ∧ Src w x zs [] ∧ Byts zs
theorem bsl_of {H : Type} {enc : TypeId × Value → H} {w : World} {base : Nat} {sp : Nat → Bool} {held : Bool} {fuel : Nat} {v : Value} {y : DataW H × List MemPlace}
    (h : DataW.trod enc Tryz.prog w base sp held fuel 22 [v] = some y) : ∃ (x : Option Addr) (l c : Nat) (zs : List Int), v = .slice x l c ∧ BSl w x l c zs := by
  rcases open_ints Tryz.underlying22 Tryz.underlying5 (by kernel_rfl) h with ⟨hcs, _⟩ | ⟨a, l, c, zs, hcs, _, hl, hm, hz, _, hcell, hwz⟩
  · simp at hcs
    exact ⟨none, 0, 0, [], hcs, rfl, Nat.le_refl _, by omega, .inl rfl, fun b hb => by simp at hb⟩
  · simp at hcs
    have hzl : l ≤ zs.length := by rw [hz]; split <;> omega
    refine ⟨some a, l, c, zs.take l, hcs, by simp; omega, hl, by unfold maxLen at hm; omega, ?_, fun b hb => byts_of hwz b (List.take_subset _ _ hb)⟩
    rcases Nat.eq_zero_or_pos l with rfl | hpos
    · exact .inl (by simp)
    right
    obtain ⟨b, off, s⟩ := a
    have h0 := hcell 0 (by omega)
    have hs : s = none := no_spot h0
    subst hs
    refine ⟨b, off, rfl, World.block_lt_of_cell? w _ h0, by simp, fun i hi => ?_⟩
    have hil : i < l := by simp at hi; omega
    have := hcell i (by omega)
    rw [Addr.add_lit] at this
    rw [this]
    simp [List.getD, hil]
end Go.Proofs.YtojoobonienhnaaGreatDoor
namespace Go.Proofs.YtojoobonienhnaaGreatDoor
open Go.RowKit Go.WideShapes Go.ChangeShapes Go.ChangeAt
set_option linter.unusedVariables false
theorem trod_struct3 {H : Type} {enc : TypeId × Value → H} {P : Program} {w : World} {base : Nat} {spare : Nat → Bool} {held : Bool} {t : TypeId} {f0 f1 f2 : Field} {fuel : Nat} {cs : List Value} {x : DataW H × List MemPlace}
    (ht : P.underlying t = some (.struct #[f0, f1, f2])) (h : DataW.trod enc P w base spare held fuel t cs = some x) :
    ∃ y0 y1 y2 n, cs.length = P.cellsOf t ∧ DataW.trod enc P w base spare held n f0.type ((cs.drop f0.offset).take (P.cellsOf f0.type)) = some y0 ∧
      DataW.trod enc P w base spare held n f1.type ((cs.drop f1.offset).take (P.cellsOf f1.type)) = some y1 ∧ DataW.trod enc P w base spare held n f2.type ((cs.drop f2.offset).take (P.cellsOf f2.type)) = some y2 := by
  obtain ⟨xs, n, _, rfl, hl, hlen, hf⟩ := DataW.trod_struct ht h
  match xs, hlen with
  | [y0, y1, y2], _ => exact ⟨y0, y1, y2, n, hl, by simpa using hf 0 f0 rfl, by simpa using hf 1 f1 rfl, by simpa using hf 2 f2 rfl⟩
theorem vu8_of {a : Int} (h : (Lit.int .u8 a).wf = true) : 0 ≤ a ∧ a < 256 := by
  simp [Lit.wf, IntKind.min, IntKind.max, IntKind.signed, IntKind.bits] at h; omega
theorem rows3 {α : Type} (cells : α → List Value) (h3 : ∀ a, (cells a).length = 3) {w : World} {b off len : Nat} (each : ∀ i, i < len → ∃ a : α, ∀ j, j < 3 → w.cell? ⟨b, off + i * 3 + j, none⟩ = (cells a)[j]?) (good : α → Prop) (hg : ∀ i, (hi : i < len) → ∃ a : α, (∀ j, j < 3 → w.cell? ⟨b, off + i * 3 + j, none⟩ = (cells a)[j]?) ∧ good a) :
    ∃ es : List α, es.length = len ∧ (∀ a ∈ es, good a) ∧ ∀ j u, (es.flatMap cells)[j]? = some u → w.cell? ⟨b, off + j, none⟩ = some u := by
  induction len with
  | zero => exact ⟨[], rfl, by simp, by simp⟩
  | succ n ih =>
    obtain ⟨es, h1, h2, h4⟩ := ih (fun i hi => each i (by omega)) (fun i hi => hg i (by omega))
    obtain ⟨a, ha, hga⟩ := hg n (by omega)
    have hfl : (es.flatMap cells).length = n * 3 := by
      rw [← h1]; clear h1 h2 h4 ha hg ih each
      induction es with
      | nil => rfl
      | cons x xs ih => simp only [List.flatMap_cons, List.length_append, List.length_cons, ih, h3]; omega
    refine ⟨es ++ [a], by simp [h1], fun x hx => ?_, fun j u hj => ?_⟩
    · rcases List.mem_append.1 hx with h | h
      · exact h2 x h
      · simp at h; subst h; exact hga
    · rw [List.flatMap_append, List.flatMap_cons, List.flatMap_nil, List.append_nil] at hj
      by_cases hlt : j < n * 3
      · rw [List.getElem?_append_left (by omega)] at hj; exact h4 j u hj
      · rw [List.getElem?_append_right (by omega), hfl] at hj
        have hj3 : j - n * 3 < 3 := by have := (List.getElem?_eq_some_iff.1 hj).1; rw [h3] at this; exact this
        have := ha (j - n * 3) hj3
        rw [hj, Nat.add_assoc, show n * 3 + (j - n * 3) = j by omega] at this
        exact this
theorem ev_of {H : Type} {enc : TypeId × Value → H} {w : World} {base : Nat} {sp : Nat → Bool} {held : Bool} {fuel : Nat} {cs : List Value} {y : DataW H × List MemPlace}
    (h : DataW.trod enc Tryz.prog w base sp held fuel 76 cs = some y) : ∃ e : Ev, cs = evV e ∧ 0 ≤ e.2.2 ∧ e.2.2 < 256 := by
  obtain ⟨y0, y1, y2, n, hl, g0, g1, g2⟩ := trod_struct3 Tryz.underlying76 h
  have cE : Tryz.prog.cellsOf 76 = 3 := by kernel_rfl
  have c3 : Tryz.prog.cellsOf 3 = 1 := by kernel_rfl
  have c5 : Tryz.prog.cellsOf 5 = 1 := by kernel_rfl
  rw [cE] at hl
  obtain ⟨v0, v1, v2, rfl⟩ := list3 cs hl
  rw [c3] at g0 g1
  rw [c5] at g2
  obtain ⟨a, e0, _, q0⟩ := DataW.trod_int Tryz.underlying3 g0
  obtain ⟨k, e1, _, q1⟩ := DataW.trod_int Tryz.underlying3 g1
  obtain ⟨b, e2, _, q2⟩ := DataW.trod_int Tryz.underlying5 g2
  simp at e0 e1 e2
  subst e0 e1 e2
  exact ⟨(a, k, b), rfl, vu8_of q2⟩
structure EvRow (w : World) (x : Option Addr) (len cap : Nat) (E : List Ev) : Prop where
  hl : E.length = len
  hle : len ≤ cap
  hmax : (cap : Int) ≤ 9223372036854775807
  lies : Lies w x (evs E)
  byte : ∀ e ∈ E, 0 ≤ e.2.2 ∧ e.2.2 < 256
theorem evs_of {H : Type} {enc : TypeId × Value → H} {w : World} {base : Nat} {sp : Nat → Bool} {held : Bool} {fuel : Nat} {x : Option Addr} {len cap : Nat} {y : DataW H × List MemPlace}
    (h : DataW.trod enc Tryz.prog w base sp held fuel 39 (Value.slice x len cap).cells.toList = some y) : ∃ E, EvRow w x len cap E := by
  rcases Go.Deep.open_slice Tryz.underlying39 h with ⟨hcs, _⟩ | ⟨a, l, c, m, n, D, Pl, hcs, _, hl, hm, hmm, _, hx⟩
  · simp [Value.cells] at hcs
    obtain ⟨rfl, rfl, rfl⟩ := hcs
    exact ⟨[], rfl, Nat.le_refl _, by decide, .inl rfl, by simp⟩
  · simp [Value.cells] at hcs
    obtain ⟨rfl, rfl, rfl⟩ := hcs
    have c3 : Tryz.prog.cellsOf 76 = 3 := by kernel_rfl
    have hlm : len ≤ m := by rw [hmm]; split <;> omega
    have hm' : (cap : Int) ≤ 9223372036854775807 := by unfold maxLen at hm; omega
    rcases Nat.eq_zero_or_pos len with h0 | h0
    · exact ⟨[], h0.symm, hl, hm', .inl rfl, by simp⟩
    obtain ⟨b, off, s⟩ := a
    have each0 : ∀ i, i < len → ∃ e : Ev, (∀ j, j < 3 → w.cell? (((⟨b, off, s⟩ : Addr).add (i * 3)).add j) = (evV e)[j]?) ∧ (0 ≤ e.2.2 ∧ e.2.2 < 256) := by
      intro i hi
      obtain ⟨cs, h1, h2⟩ := hx i (by omega)
      rw [c3] at h1
      obtain ⟨_, hlen, hcell⟩ := World.cells?_some h1
      obtain ⟨e, rfl, hs⟩ := ev_of h2
      exact ⟨e, fun j hj => by rw [hcell j hj], hs⟩
    obtain ⟨e0, hc0, _⟩ := each0 0 h0
    have hc1 : w.cell? (((⟨b, off, s⟩ : Addr).add (0 * 3)).add 0) = some (.int .i64 e0.1) := hc0 0 (by omega)
    have hs : s = none := by simp only [Addr.add] at hc1; exact no_spot hc1
    subst hs
    have each : ∀ i, i < len → ∃ e : Ev, (∀ j, j < 3 → w.cell? ⟨b, off + i * 3 + j, none⟩ = (evV e)[j]?) ∧ (0 ≤ e.2.2 ∧ e.2.2 < 256) := fun i hi => by
      obtain ⟨e, h1, h2⟩ := each0 i hi
      exact ⟨e, fun j hj => by have := h1 j hj; rw [Addr.add_lit, Addr.add_lit] at this; exact this, h2⟩
    obtain ⟨E, r1, r2, r3⟩ := rows3 evV (fun _ => rfl) (fun i hi => (each i hi).imp fun _ h => h.1) _ each
    exact ⟨E, r1, hl, hm', .inr ⟨b, off, rfl, World.block_lt_of_cell? w _ hc1, r3⟩, r2⟩
end Go.Proofs.YtojoobonienhnaaGreatDoor
namespace Go.Proofs.YtojoobonienhnaaGreatDoor
open Go.RowKit
set_option linter.unusedVariables false
set_option linter.unusedSimpArgs false
theorem any_take {α : Type} (f : α → Bool) (E : List α) (k : Nat) (h : (E.take k).any f = true) : E.any f = true := by
  rw [List.any_eq_true] at h ⊢
  obtain ⟨y, hy, h2⟩ := h
  exact ⟨y, List.mem_of_mem_take hy, h2⟩
set_option maxHeartbeats 2000000 in
theorem error_any (w : World) (x : Option Addr) (n cap : Nat) (E : List Ev) (hE : EvRow w x n cap E) (y : Option Addr) (m c : Nat) (Z : List Int) (hz : Z.length = m) (hmc : m ≤ c) (hmax : (c : Int) ≤ 9223372036854775807) :
    Calls Tryz.prog 39 #[.slice x n cap, .slice y m c] w fun e w' => e = .returned (.int .i64 (errI E Z)) ∧ Kep w w' := by
  have hl := hE.hl
  have hnc := hE.hle
  have hcm := hE.hmax
  by_cases h1 : 64 < n
  · have t1 : decide ((64 : Int) < n) = true := decide_eq_true (by omega)
    have ev : Hid (errI E Z = 3) := by unfold Hid errI; rw [if_pos (by omega)]
    rw [ev.out]
    clear hE
    go_enter Tryz.func39, Tryz.ntmps39
    go_wp2_with fail
    go_ret
    exact ⟨rfl, Kep.refl _⟩
  have t1 : decide ((64 : Int) < n) = false := decide_eq_false (by omega)
  by_cases h2 : 2048 < m
  · have t2 : decide ((2048 : Int) < m) = true := decide_eq_true (by omega)
    have ev : Hid (errI E Z = 3) := by unfold Hid errI; rw [if_pos (by omega)]
    rw [ev.out]
    clear hE
    go_enter Tryz.func39, Tryz.ntmps39
    go_wp2_with fail
    go_ret
    exact ⟨rfl, Kep.refl _⟩
  have t2 : decide ((2048 : Int) < m) = false := decide_eq_false (by omega)
  have ev : Hid (errI E Z = if E.any wrongB = true ∨ m % 64 ≠ 0 then 2 else 0) := by unfold Hid errI; rw [if_neg (by omega), hz]
  rw [ev.out]
  obtain ⟨r, hr⟩ : ∃ r : Int, Hid (r = if E.any wrongB = true ∨ m % 64 ≠ 0 then 2 else 0) := ⟨_, rfl⟩
  rw [← hr.out]
  have h' : Hid (EvRow w x n cap E) := hE
  have hl' : Hid (E.length = n) := hl
  have hn64 : (n : Int) ≤ 64 := by omega
  have hn2 : (n : Int) ≤ cap := by omega
  have hm2 : (m : Int) ≤ 2048 := by omega
  clear hE hl hz h1 h2 ev
  go_enter Tryz.func39, Tryz.ntmps39
  go_wp2_with fail
  go_loopw [5, 6] (fun i _ wr => ∃ k : Nat, (k : Int) ≤ n ∧ i = .int .i64 k ∧ Hid (Kep w wr) ∧ Hid ((E.take k).any wrongB = false)) (fun i _ _ => n - (intOf i).toNat)
  case atStart => exact ⟨0, by omega, rfl, Kep.refl _, by simp [Hid]⟩
  case round =>
    obtain ⟨k, hk, rfl, K, hw⟩ := hrel
    by_cases hlt : k < n
    · have hlt' : (k : Int) < n := by omega
      have hln := hl'.out
      obtain ⟨e, he⟩ : ∃ e, E[k]? = some e := ⟨_, List.getElem?_eq_getElem (by omega)⟩
      rcases (h'.out.lies.kep K.out) with h0 | ⟨b, off, rfl, hb, hcell⟩
      · have := evs_len E; rw [h0] at this; simp at this; omega
      obtain ⟨ea, eb, ec⟩ := e
      have c0 : wr.cell? ⟨b, off + k * 3, none⟩ = some (.int .i64 ea) := hcell _ _ (by have := evs_at E k _ he 0 (by omega); simpa [evV] using this)
      have c1 : wr.cell? ⟨b, off + k * 3 + 1, none⟩ = some (.int .i64 eb) := by rw [Nat.add_assoc]; exact hcell _ _ (by have := evs_at E k _ he 1 (by omega); simpa [evV] using this)
      have c2 : wr.cell? ⟨b, off + k * 3 + 2, none⟩ = some (.int .u8 ec) := by rw [Nat.add_assoc]; exact hcell _ _ (by have := evs_at E k _ he 2 (by omega); simpa [evV] using this)
      have hstep : Hid ((E.take (k + 1)).any wrongB = ((E.take k).any wrongB || wrongB (ea, eb, ec))) := by
        rw [Hid, List.take_add_one, he]; simp
      have KA : Hid (Kep w (wr.alloc (.cells #[.int .i64 ea, .int .i64 eb, .int .u8 ec] 76))) := K.out.alloc _
      clear hcell he hln
      rcases (by omega : eb < 0 ∨ (0 ≤ eb ∧ 2 < eb) ∨ (0 ≤ eb ∧ eb ≤ 2 ∧ ea < 0) ∨ (0 ≤ eb ∧ eb ≤ 2 ∧ 0 ≤ ea ∧ 1073741824 < ea) ∨ (0 ≤ eb ∧ eb ≤ 2 ∧ 0 ≤ ea ∧ ea ≤ 1073741824 ∧ eb ≠ 1 ∧ ec ≠ 0) ∨ (0 ≤ eb ∧ eb ≤ 2 ∧ 0 ≤ ea ∧ ea ≤ 1073741824 ∧ eb ≠ 1 ∧ ec = 0) ∨ (0 ≤ eb ∧ eb ≤ 2 ∧ 0 ≤ ea ∧ ea ≤ 1073741824 ∧ eb = 1)) with g1 | ⟨g1, g2⟩ | ⟨g1, g2, g3⟩ | ⟨g1, g2, g3, g4⟩ | ⟨g1, g2, g3, g4, g5, g6⟩ | ⟨g1, g2, g3, g4, g5, g6⟩ | ⟨g1, g2, g3, g4, g5⟩
      · have hwr : Hid (wrongB (ea, eb, ec) = true) := by unfold Hid wrongB; simp; omega
        go_wp2_with fail
        go_ret
        refine ⟨ret_int ?_, KA.out⟩
        rw [hr.out, if_pos (.inl (any_take wrongB E (k + 1) (by rw [hstep.out, hwr.out]; simp)))]
      · have hwr : Hid (wrongB (ea, eb, ec) = true) := by unfold Hid wrongB; simp; omega
        go_wp2_with fail
        go_ret
        refine ⟨ret_int ?_, KA.out⟩
        rw [hr.out, if_pos (.inl (any_take wrongB E (k + 1) (by rw [hstep.out, hwr.out]; simp)))]
      · have hwr : Hid (wrongB (ea, eb, ec) = true) := by unfold Hid wrongB; simp; omega
        go_wp2_with fail
        go_ret
        refine ⟨ret_int ?_, KA.out⟩
        rw [hr.out, if_pos (.inl (any_take wrongB E (k + 1) (by rw [hstep.out, hwr.out]; simp)))]
      · have hwr : Hid (wrongB (ea, eb, ec) = true) := by unfold Hid wrongB; simp; omega
        go_wp2_with fail
        go_ret
        refine ⟨ret_int ?_, KA.out⟩
        rw [hr.out, if_pos (.inl (any_take wrongB E (k + 1) (by rw [hstep.out, hwr.out]; simp)))]
      · have hwr : Hid (wrongB (ea, eb, ec) = true) := by unfold Hid wrongB; simp; omega
        have t5 : (eb != 1) = true := by simp; omega
        have t6 : (ec != 0) = true := by simp; omega
        clear g5 g6
        go_wp2_with fail
        go_ret
        refine ⟨ret_int ?_, KA.out⟩
        rw [hr.out, if_pos (.inl (any_take wrongB E (k + 1) (by rw [hstep.out, hwr.out]; simp)))]
      · have hwr : Hid (wrongB (ea, eb, ec) = false) := by unfold Hid wrongB; simp; omega
        have t5 : (eb != 1) = true := by simp; omega
        have t6 : (ec != 0) = false := by simp; omega
        clear g5 g6
        go_wp2_with fail
        go_roundw
        case rel => exact ⟨k + 1, by omega, by go_num, KA, by rw [Hid, hstep.out, hw.out, hwr.out]; rfl⟩
        case measure => simp [intOf]; omega
      · have hwr : Hid (wrongB (ea, eb, ec) = false) := by unfold Hid wrongB; simp; omega
        have t5 : (eb != 1) = false := by simp; omega
        clear g5
        go_wp2_with fail
        go_roundw
        case rel => exact ⟨k + 1, by omega, by go_num, KA, by rw [Hid, hstep.out, hw.out, hwr.out]; rfl⟩
        case measure => simp [intOf]; omega
    · have hall : Hid (E.any wrongB = false) := by
        have := hw.out
        rw [List.take_of_length_le (by have := hl'.out; omega)] at this
        exact this
      by_cases h6 : m % 64 = 0
      · have t3 : ((m : Int) % 64 != 0) = false := by simp; omega
        go_wp2_with fail
        go_ret
        exact ⟨ret_int (by rw [hr.out, if_neg (by rw [hall.out]; simp [h6])]), K.out⟩
      · have t3 : ((m : Int) % 64 != 0) = true := by simp; omega
        go_wp2_with fail
        go_ret
        exact ⟨ret_int (by rw [hr.out, if_pos (.inr h6)]), K.out⟩
theorem evrow_of {w : World} {x : Option Addr} {n cap : Nat} {E : List Ev} {y : Option Addr} {m c : Nat} {D : List Int} (h : ScrD w x n cap E y m c D) (hev : ∀ e ∈ E, 0 ≤ e.2.2 ∧ e.2.2 < 256) : EvRow w x n cap E := ⟨h.el, h.ec, h.em, h.ei, hev⟩
theorem psB_is (ps : Int) (h : 0 ≤ ps ∧ ps < 4294967296) : ((ps.tdiv 8).tmod 2 == 1 || decide (256 ≤ ps)) = !psB ps := by
  rw [Int.tdiv_eq_ediv_of_nonneg h.1, Int.tmod_eq_emod_of_nonneg (by omega)]
  unfold psB
  rw [Bool.eq_iff_iff]
  simp only [Bool.or_eq_true, beq_iff_eq, decide_eq_true_eq, Bool.not_eq_true', decide_eq_false_iff_not]
  omega
set_option maxHeartbeats 2000000 in
theorem rerr_any {w : World} (n : Int) {xi : Option Addr} {li ci : Nat} (hlc : li ≤ ci) (hmax : (ci : Int) ≤ 9223372036854775807) (s : Sta) (ok : s.Ok) {x : Option Addr} {ne cap : Nat} {E : List Ev} {y : Option Addr} {m c : Nat} {D : List Int} (I : ScrD w x ne cap E y m c D) (hev : ∀ e ∈ E, 0 ≤ e.2.2 ∧ e.2.2 < 256) :
    Calls Tryz.prog 10 #[.int .i64 n, .slice xi li ci, .agg s.v, .slice x ne cap, .slice y m c] w fun e w' => e = .returned (.int .i64 (errM n li s.ps E D)) ∧ Kep w w' := by
  have HE : Hid (∀ w', Kep w w' → Calls Tryz.prog 39 #[.slice x ne cap, .slice y m c] w' fun e w'' => e = .returned (.int .i64 (errI E D)) ∧ Kep w' w'') := fun w' k => by
    have J := I.kep k
    exact error_any w' x ne cap E (evrow_of J hev) y m c D J.zl J.zc J.zm
  have hp := ok.ps
  have A := hidd (show At (w.alloc (.cells s.v 26)) w.heap.size s from hat _ _ _ rfl)
  have K := hidd ((Kep.refl w).alloc (.cells s.v 26))
  have cp := A.out.ps
  have pb := psB_is s.ps hp
  have em : Hid (errM n li s.ps E D = if n < 1 ∨ 64 < n then 2 else if n * 64 < li then 3 else if psB s.ps = false then 2 else errI E D) := rfl
  rw [em.out]
  obtain ⟨V, hV⟩ : ∃ V, Hid (s.v = V) := ⟨_, rfl⟩
  rw [hV.out] at cp K ⊢
  obtain ⟨b, hb⟩ : ∃ b, Hid (psB s.ps = b) := ⟨_, rfl⟩
  rw [hb.out] at pb ⊢
  clear hb em
  generalize s.ps = ps at cp pb hp
  clear A I hV ok
  by_cases h1 : n < 1 ∨ 64 < n
  · rw [if_pos h1]
    have t1 : (decide (n < 1) || decide (64 < n)) = true := by rcases h1 with h | h <;> simp [h]
    clear cp pb
    go_enter Tryz.func10, Tryz.ntmps10
    rcases h1 with h | h
    · have t1 : decide (n < 1) = true := decide_eq_true h
      go_wp2_with fail
      go_ret
      exact ⟨rfl, K.out⟩
    · have t1 : decide (n < 1) = false := decide_eq_false (by omega)
      have t2 : decide (64 < n) = true := decide_eq_true h
      go_wp2_with fail
      go_ret
      exact ⟨rfl, K.out⟩
  rw [if_neg h1]
  have h11 : 1 ≤ n := by omega
  have h12 : n ≤ 64 := by omega
  have t1 : decide (n < 1) = false := decide_eq_false (by omega)
  have t2 : decide (64 < n) = false := decide_eq_false (by omega)
  clear h1
  by_cases h3 : n * 64 < li
  · rw [if_pos h3]
    clear cp pb
    go_enter Tryz.func10, Tryz.ntmps10
    go_wp2_with fail
    go_ret
    exact ⟨rfl, K.out⟩
  rw [if_neg h3]
  cases b with
  | false =>
    rw [if_pos rfl]
    have pb' : ps / 8 % 2 = 1 ∨ 256 ≤ ps := by
      rw [Int.tdiv_eq_ediv_of_nonneg hp.1, Int.tmod_eq_emod_of_nonneg (by omega)] at pb
      simpa using pb
    clear pb
    by_cases h5 : ps / 8 % 2 = 1
    · go_enter Tryz.func10, Tryz.ntmps10
      go_wp2_with fail
      go_ret
      exact ⟨rfl, K.out⟩
    · have h6 : 256 ≤ ps := by omega
      have h7 : ps / 8 % 2 = 0 := by omega
      clear h5 pb'
      go_enter Tryz.func10, Tryz.ntmps10
      go_wp2_with fail
      go_ret
      exact ⟨rfl, K.out⟩
  | true =>
    have h6 : ps < 256 := by simp at pb; omega
    have h7 : ps / 8 % 2 = 0 := by
      rw [Int.tdiv_eq_ediv_of_nonneg hp.1, Int.tmod_eq_emod_of_nonneg (by omega)] at pb
      simp at pb; omega
    clear pb
    have K' := K.out
    rw [if_neg (by simp)]
    go_enter Tryz.func10, Tryz.ntmps10
    go_wp2_with (go_at_call 39; refine (HE.out _ (by assumption)).mono ?_; rintro e w1 ⟨rfl, k1⟩; have K1 := hidd k1; clear k1)
    go_ret
    exact ⟨rfl, kep_trans K.out K1.out⟩
abbrev rdC (s : DS) (vS : Value) (c : Nat) (k f t : Int) (vq vo vd : Value) : Array Value := #[vS, .int .i64 c, .int .u32 s.b, .int .u32 s.m, vq, vo, vd, .int .u32 s.n, .int .u32 s.a, .int .u32 s.s, .int .u32 k, .int .u32 f, .int .u32 t]
structure RDAt (w : World) (p : Nat) (s : DS) (vS : Value) (E0 : List Ev) (c : Nat) (k f t : Int) (vq vo vd : Value) (Fq Fo Fd : List Nat) : Prop where
  box : w.heap[p]? = some (.cells (rdC s vS c k f t vq vo vd) 88 (0, 0))
  q : Sli w 5 1 vq s.Q.length (byt s.Q) Fq
  o : Sli w 5 1 vo s.O.length (byt s.O) Fo
  d : Sli w 5 1 vd s.D.length (byt s.D) Fd
  E : s.E = E0.drop c
  lc : c ≤ E0.length
  cmd : s.s = 1 → k = s.k ∧ f = s.f ∧ t = s.t
  pq : p ∉ Fq
  po : p ∉ Fo
  pd : p ∉ Fd
  qo : ∀ g ∈ Fq, g ∉ Fo
  qd : ∀ g ∈ Fq, g ∉ Fd
  od : ∀ g ∈ Fo, g ∉ Fd
def RDv (w : World) (p : Nat) (s : DS) (vS : Value) (E0 : List Ev) (F : List Nat) : Prop := ∃ c k f t vq vo vd Fq Fo Fd, RDAt w p s vS E0 c k f t vq vo vd Fq Fo Fd ∧ F = p :: (Fq ++ (Fo ++ Fd))
theorem RDAt.put {w w' : World} {p : Nat} {s : DS} {vS : Value} {E0 : List Ev} {c : Nat} {k f t : Int} {vq vo vd : Value} {Fq Fo Fd l : List Nat} (h : RDAt w p s vS E0 c k f t vq vo vd Fq Fo Fd) (P : Put l w w') (hl : ∀ g ∈ p :: (Fq ++ (Fo ++ Fd)), g ∉ l) : RDAt w' p s vS E0 c k f t vq vo vd Fq Fo Fd :=
  ⟨P.keeps h.box (hl p (by simp)), h.q.put P fun g hg => hl g (by simp [hg]), h.o.put P fun g hg => hl g (by simp [hg]), h.d.put P fun g hg => hl g (by simp [hg]), h.E, h.lc, h.cmd, h.pq, h.po, h.pd, h.qo, h.qd, h.od⟩
theorem RDv.put {w w' : World} {p : Nat} {s : DS} {vS : Value} {E0 : List Ev} {F l : List Nat} (h : RDv w p s vS E0 F) (P : Put l w w') (hl : ∀ g ∈ F, g ∉ l) : RDv w' p s vS E0 F := by
  obtain ⟨c, k, f, t, vq, vo, vd, Fq, Fo, Fd, h, rfl⟩ := h
  exact ⟨c, k, f, t, vq, vo, vd, Fq, Fo, Fd, h.put P hl, rfl⟩
theorem RDv.kep {w w' : World} {p : Nat} {s : DS} {vS : Value} {E0 : List Ev} {F : List Nat} (h : RDv w p s vS E0 F) (K : Kep w w') : RDv w' p s vS E0 F := h.put (l := []) (Put.of_kep K) (by simp)
theorem RDv.lt {w : World} {p : Nat} {s : DS} {vS : Value} {E0 : List Ev} {F : List Nat} (h : RDv w p s vS E0 F) : ∀ g ∈ F, g < w.heap.size := by
  obtain ⟨c, k, f, t, vq, vo, vd, Fq, Fo, Fd, h, rfl⟩ := h
  intro g hg
  simp only [List.mem_cons, List.mem_append] at hg
  rcases hg with rfl | hg | hg | hg
  · exact block_lt h.box
  · exact h.q.lt g hg
  · exact h.o.lt g hg
  · exact h.d.lt g hg
theorem own_grow {w wr : World} {x : Int} {k : Nat} {v : Value} {xs : List Value} (O : wr.ownsRow w.heap.size 5 1 v k xs) : (wr.alloc (.cells #[.int .u8 x] 5)).ownsRow w.heap.size 5 1 v k xs := (Soft.of_kep (B := 0) ((Kep.refl wr).alloc _)).owns O
set_option maxHeartbeats 1000000 in
theorem rnew11_any (w : World) (xS : Option Addr) (cS : Nat) (E0 : List Ev) (x1 : Option Addr) (c1 : Nat) (Z : List Int) (hn : (Z.length : Int) ≤ 2048) (hc : Z.length ≤ c1) (hl : Lies w x1 (byt Z)) :
    Calls Tryz.prog 42 #[.slice xS E0.length cS, .slice x1 Z.length c1] w fun e w' => ∃ p F, e = .returned (.pointer (some ⟨p, 0, none⟩)) ∧ RDv w' p (ds0 E0 Z) (.slice xS E0.length cS) E0 F ∧ Kep w w' ∧ ∀ g ∈ F, w.heap.size ≤ g := by
  obtain ⟨i0, hi, hz0, hz1, hz2⟩ := info_parts vinfo_u8
  have hl' : Hid (Lies w x1 (byt Z)) := hl
  have hc' : (Z.length : Int) ≤ c1 := by omega
  obtain ⟨n, hZ⟩ : ∃ n, Hid (n = Z.length) := ⟨_, rfl⟩
  obtain ⟨nS, hE⟩ : ∃ n, Hid (n = E0.length) := ⟨_, rfl⟩
  rw [← hZ.out, ← hE.out]
  rw [← hZ.out] at hn hc'
  clear hl hc
  go_enter Tryz.func42, Tryz.ntmps42
  go_wp2_with fail
  go_loopw [5, 6] (fun a i wr => ∃ k : Nat, (k : Int) ≤ n ∧ i = .int .i64 k ∧ Hid (Kep w wr) ∧ Hid (wr.ownsRow w.heap.size 5 1 a k (byt (Z.take k)))) (fun _ i _ => n - (intOf i).toNat)
  case atStart => exact ⟨0, by omega, rfl, Kep.refl _, World.ownsRow_nil _ _ _ _⟩
  case round =>
    obtain ⟨k, hk, rfl, K, O⟩ := hrel
    by_cases hlt : k < n
    · have hlt' : (k : Int) < n := by omega
      have hlen := hZ.out
      obtain ⟨x, hx⟩ : ∃ x, Z[k]? = some x := ⟨_, List.getElem?_eq_getElem (by omega)⟩
      rcases (hl'.out.kep K.out) with h0 | ⟨b, off, rfl, hb, hcell⟩
      · have := congrArg List.length h0; rw [byt_len] at this; simp only [List.length_nil] at this; omega
      have cx : wr.cell? ⟨b, off + k, none⟩ = some (.int .u8 x) := hcell k _ (by rw [byt_at, hx]; rfl)
      obtain ⟨xa, ca, rfl⟩ := owns_form O.out
      have hnx : Hid (byt (Z.take (k + 1)) = byt (Z.take k) ++ [.int .u8 x]) := by rw [Hid, List.take_add_one, hx]; simp [byt]
      have oB : Hid ((wr.alloc (.cells #[.int .u8 x] 5)).ownsRow w.heap.size 5 1 (.slice xa k ca) k (byt (Z.take k))) := own_grow O.out
      have sB : Hid (w.heap.size ≤ (wr.alloc (.cells #[.int .u8 x] 5)).heap.size) := by have := K.out.size; rw [Hid, World.size_alloc]; omega
      clear hcell hlen hx hlt
      go_wp2_with (at_builtin; refine wpList_append_own _ rfl (.tmp 13) (.tmp 18) 22 rfl w.heap.size 5 i0 _ 1 1 Tryz.underlying22 hi hz0 hz1 hz2 rfl (by decide) _ k (byt (Z.take k)) rfl oB.out ⟨wr.heap.size, 0, none⟩ 1 1 [.int .u8 x] rfl rfl cell_news (by simp [Value.oneCell']) (by unfold maxLen; omega) (by omega) sB.out ?_; intro v' w1 hown hgrow _; have hown' : Hid _ := hown; have hgrow' : Hid _ := hgrow; clear hown hgrow)
      go_roundw
      case rel =>
        refine ⟨k + 1, by omega, by go_num, (kep_trans K.out ((Kep.refl wr).alloc _)).by hgrow'.out (fun b e => (World.ownsRow.lt oB.out b e).1), ?_⟩
        rw [Hid, hnx.out]; exact hown'.out
      case measure => simp [intOf]; omega
    · obtain ⟨xa, ca, rfl⟩ := owns_form O.out
      clear hl'
      go_wp2_with fail
      go_ret
      obtain ⟨G, s1, s2⟩ := Sli.of_owns O.out
      have hkn : k = n := by omega
      rw [List.take_of_length_le (by have := hZ.out; omega)] at s1
      have kA : Kep wr (wr.alloc (.cells (rdC (ds0 E0 Z) (.slice xS nS cS) 0 0 0 0 (.slice none 0 0) (.slice none 0 0) (.slice xa k ca)) 88)) := (Kep.refl _).alloc _
      have hG : wr.heap.size ∉ G := fun hm => by have := s1.lt _ hm; omega
      refine ⟨wr.heap.size, wr.heap.size :: ([] ++ ([] ++ G)), rfl, ⟨0, 0, 0, 0, _, _, _, [], [], G, ⟨hat _ _ _ rfl, Sli.nil _ _ _, Sli.nil _ _ _, ?_, by simp [ds0], by omega, by simp [ds0], by simp, by simp, hG, by simp, by simp, by simp⟩, rfl⟩, kep_trans K.out kA, ?_⟩
      · have := s1.kep kA
        show Sli _ 5 1 _ Z.length (byt Z) G
        rw [← hZ.out, ← hkn]; exact this
      · intro g hg
        simp at hg
        rcases hg with rfl | hg
        · exact K.out.size
        · exact s2 g hg
def RBx (w : World) (q : Nat) (vd vr : Value) (s : Sta) (n : Int) (vn : Value) : Prop := w.heap[q]? = some (.cells (mchV vd vr s n vn) 86 (0, 0))
abbrev rsl (Rb n : Nat) : Value := .slice (some ⟨Rb, 0, none⟩) n n
structure RMAt (w : World) (q Rb : Nat) (x : MS) (vS : Value) (E0 : List Ev) (d : Nat) (vn : Value) (Fd Fn : List Nat) : Prop where
  box : RBx w q (mpt d) (rsl Rb x.B.length) x.s x.n vn
  dev : RDv w d x.d vS E0 Fd
  nts : Sli w 94 4 vn x.N.length (nts x.N) Fn
  row : RowB w Rb x.B
  max : (x.B.length : Int) ≤ 32768
  far : Rb ∉ q :: (Fd ++ Fn)
  pd : q ∉ Fd
  pn : q ∉ Fn
  dn : ∀ g ∈ Fd, g ∉ Fn
  lo : ∀ g ∈ Rb :: (q :: (Fd ++ Fn)), 2 ≤ g
def RMach (w : World) (q Rb : Nat) (x : MS) (vS : Value) (E0 : List Ev) (G : List Nat) : Prop := ∃ d vn Fd Fn, RMAt w q Rb x vS E0 d vn Fd Fn ∧ G = q :: (Fd ++ Fn)
end Go.Proofs.YtojoobonienhnaaGreatDoor
