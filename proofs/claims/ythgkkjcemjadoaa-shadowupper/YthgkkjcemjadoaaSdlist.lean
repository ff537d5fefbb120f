/- The pages of a shadow, by a range over a function: the iterator. -/
import Derived.Test.YthgkkjcemjadoaaSdwipe
import Derived.Test.YthgkkjcemjadoaaVrange
import Derived.Test.YthgkkjcemjadoaaVreg
import Derived.Shelf.Abstract
import Derived.Great.BuildSlice
import Derived.Maps.AppendAt
import Derived.OwnWalk
import Derived.OwnWalkIn
namespace Go.Proofs.Ythgkkjcemjadoaa
open Go.RowKit Go.Shelf Go.Great
set_option linter.unusedVariables false
set_option linter.unusedSimpArgs false
attribute [local go_sem] Oper.semAt_some

theorem info_u32 : (Try.prog.info? 34).map (fun i => (i.zero, i.size, i.bytes)) = some (some (.int .u32 0), 1, 4) := by kernel_rfl
theorem u32_one (a : Int) : ∀ u ∈ ([.int .u32 a] : List Value), u.oneCell' = true := by simp [Value.oneCell']
/-- At x lie the words l. -/
def LU (w : World) (x : Option Addr) (l : List Nat) : Prop := l = [] ∨ ∃ R, x = some ⟨R, 0, none⟩ ∧ R < w.heap.size ∧ ∀ k, k < l.length → w.cell? ⟨R, k, none⟩ = some (.int .u32 (l.getD k 0 : Nat))
theorem LU.kep {w w' : World} {x : Option Addr} {l : List Nat} (h : LU w x l) (k : Kep w w') : LU w' x l := by
  rcases h with h | ⟨R, e, hR, hc⟩
  · exact .inl h
  · exact .inr ⟨R, e, k.lt hR, fun j hj => (k.cell hR).trans (hc j hj)⟩
theorem LU.of_owns {w : World} {base : Nat} {v : Value} {l : List Nat} (h : w.ownsRow base 34 1 v l.length (u32s l)) : ∃ (x : Option Addr) (cap : Nat), v = .slice x l.length cap ∧ LU w x l := by
  rcases h with ⟨h0, ⟨hv, hn0⟩ | ⟨g, cap, cur, hv, hb, hg, h1, h2, h3, h4⟩⟩
  · refine ⟨none, 0, ?_, .inl (List.length_eq_zero_iff.1 hn0)⟩
    rw [hv, hn0]
  · refine ⟨_, cap, hv, .inr ⟨g, rfl, block_lt hg, fun k hk => ?_⟩⟩
    rw [cell_of_block hg]
    rw [Nat.mul_one] at h4
    have h5 : (u32s l)[k]? = cur.toList[k]? := by rw [← h4, List.getElem?_take_of_lt hk]
    rw [u32s_at hk] at h5
    simpa using h5.symm
theorem ownU_base {w : World} {base : Nat} {e : TypeId} {size n g : Nat} {v : Value} {xs : List Value} (h : w.ownsRow base e size v n xs) (hg : v.ownBlock = some g) : base ≤ g := by
  rcases h.2 with ⟨rfl, _⟩ | ⟨g', cap, cur, rfl, hb, _⟩
  · simp [Value.ownBlock] at hg
  · simp [Value.ownBlock] at hg; omega
theorem Soft.cells {B : Nat} {W W' : World} (h : Soft B W W') {g : Nat} {cs : Array Value} {t : TypeId} {fr : Nat × Nat} (hg : W.heap[g]? = some (.cells cs t fr)) : W'.heap[g]? = some (.cells cs t fr) := by
  obtain ⟨l, hp, hl⟩ := h
  refine hp.keeps hg fun hm => ?_
  obtain ⟨_, o, ho, hc⟩ := hl g hm
  rw [hg] at ho; cases ho; cases hc
theorem Soft.kept {B : Nat} {w W W' : World} (h : Soft B W W') (k : Kep w W) (hB : w.heap.size ≤ B) : Kep w W' := by
  obtain ⟨l, hp, hl⟩ := h
  exact k.put hp fun g hg => Nat.le_trans hB (hl g hg).1
theorem Soft.owns {B : Nat} {W W' : World} (h : Soft B W W') {base : Nat} {e : TypeId} {z : Nat} {v : Value} {n : Nat} {xs : List Value} (ho : W.ownsRow base e z v n xs) : W'.ownsRow base e z v n xs :=
  ⟨ho.1, ho.2.imp id fun ⟨g, cap, cur, h1, h2, h3, r⟩ => ⟨g, cap, cur, h1, h2, h.cells h3, r⟩⟩
theorem Soft.boxed {B : Nat} {W W' : World} (h : Soft B W W') {g : Nat} {t : TypeId} {v : Value} (hg : Boxed W g t v) : Boxed W' g t v := Soft.cells h hg

/-- The pages' addresses, of the first i entries. -/
def nz (E : List Nat) (i : Nat) : List Nat := ((List.range i).filter (fun j => E.getD j 0 != 0)).map (64 * ·)
theorem nz_yes {E : List Nat} {i : Nat} (h : E.getD i 0 ≠ 0) : nz E (i + 1) = nz E i ++ [64 * i] := by
  have e : (E.getD i 0 != 0) = true := by simpa using h
  unfold nz
  rw [List.range_succ, List.filter_append, List.filter_cons, if_pos e, List.filter_nil, List.map_append]
  rfl
theorem nz_no {E : List Nat} {i : Nat} (h : E.getD i 0 = 0) : nz E (i + 1) = nz E i := by
  have e : ¬ (E.getD i 0 != 0) = true := by rw [h]; decide
  unfold nz
  rw [List.range_succ, List.filter_append, List.filter_cons, if_neg e, List.filter_nil, List.append_nil]
theorem nz_len (E : List Nat) (i : Nat) : (nz E i).length ≤ i := by
  unfold nz; rw [List.length_map]; exact Nat.le_trans (List.length_filter_le _ _) (by simp)
/-- The pages s are told so far: the list's box lies at w's end, the shadow's pointer's behind it. -/
def ListU (w : World) (p : Nat) (s : List Nat) (W : World) : Prop :=
  (∃ v, Boxed W w.heap.size 23 v ∧ W.ownsRow w.heap.size 34 1 v s.length (u32s s)) ∧ Kep w W ∧ Boxed W (w.heap.size + 1) 25 (.pointer (some ⟨p, 0, none⟩)) ∧ s.length ≤ 512
theorem ListU.soft {w : World} {p : Nat} {s : List Nat} {W W' : World} (h : ListU w p s W) {B : Nat} (hB : w.heap.size ≤ B) (k : Soft B W W') : ListU w p s W' := by
  obtain ⟨⟨v, h1, h2⟩, h3, h4, h5⟩ := h
  exact ⟨⟨v, k.boxed h1, k.owns h2⟩, k.kept h3 hB, k.boxed h4, h5⟩
theorem listu_push {w W2 : World} {p : Nat} {s : List Nat} {y : Nat} {v : Value} (h1 : Boxed W2 w.heap.size 23 v) (h2 : W2.ownsRow w.heap.size 34 1 v s.length (u32s s)) (h3 : Kep w W2) (h4 : Boxed W2 (w.heap.size + 1) 25 (.pointer (some ⟨p, 0, none⟩))) (hs : s.length < 512)
    {g c : Nat} {w' : World} (hown : w'.ownsRow w.heap.size 34 1 (.slice (some ⟨g, 0, none⟩) (s.length + 1) c) (s.length + 1) (u32s s ++ [.int .u32 y])) (hgrow : (W2.alloc (.cells #[.int .u32 y] 34)).grownBy w' v.ownBlock) :
    w'.cell? ⟨w.heap.size, 0, none⟩ = some v ∧ w'.frozen? ⟨w.heap.size, 0, none⟩ = false ∧ ∀ B, KeepsFrom B W2 (w'.setCell ⟨w.heap.size, 0, none⟩ (.slice (some ⟨g, 0, none⟩) (s.length + 1) c)) ∧ ListU w p (s ++ [y]) (w'.setCell ⟨w.heap.size, 0, none⟩ (.slice (some ⟨g, 0, none⟩) (s.length + 1) c)) := by
  have kA : Kep W2 (W2.alloc (.cells #[.int .u32 y] 34)) := (Kep.refl _).alloc _
  have hoA : (W2.alloc (.cells #[.int .u32 y] 34)).ownsRow w.heap.size 34 1 v s.length (u32s s) := (Soft.of_kep (B := 0) kA).owns h2
  have b1' : Boxed w' w.heap.size 23 v := (show Boxed (W2.alloc (.cells #[.int .u32 y] 34)) w.heap.size 23 v from kA.block h1).kept hgrow ((show Boxed (W2.alloc (.cells #[.int .u32 y] 34)) w.heap.size 23 v from kA.block h1).not_row (by decide) hoA)
  have b4' := (show Boxed (W2.alloc (.cells #[.int .u32 y] 34)) _ _ _ from kA.block h4).kept hgrow ((show Boxed (W2.alloc (.cells #[.int .u32 y] 34)) _ _ _ from kA.block h4).not_row (by decide) hoA)
  have kW : Kep w w' := (kep_trans h3 kA).by hgrow (fun k e => ownU_base hoA e)
  have hsz : (s ++ [y]).length = s.length + 1 := by simp
  refine ⟨b1'.cell, b1'.frozen, fun B => ⟨?_, ⟨_, b1'.set _, ?_⟩, kW.setCell (a := ⟨w.heap.size, 0, none⟩) (Nat.le_refl _) _, b4'.other (by omega) _, by omega⟩⟩
  · refine KeepsFrom.trans ?_ ((KeepsOthers.setCell _ _ _ : KeepsOthers w' (w'.setCell ⟨w.heap.size, 0, none⟩ (.slice (some ⟨g, 0, none⟩) (s.length + 1) c))).from B)
    refine KeepsFrom.trans (KeepsFrom.of_put (Put.of_kep (l := []) kA) (by simp)) ?_
    refine KeepsFrom.of_put (Put.of_grown (l := v.ownBlock.toList) hgrow (fun k e => by simp [e])) ?_
    intro b hb _
    rcases hoA.2 with ⟨rfl, _⟩ | ⟨g', cap', cur, rfl, _, hgb, _⟩
    · simp [Value.ownBlock] at hb
    · simp [Value.ownBlock] at hb; subst hb; exact ⟨_, _, _, hgb⟩
  · rw [hsz, ← u32s_app]
    exact hown.kept (grownBy_setCell' w' w.heap.size _) (.inr (b1'.not_row (by decide) hown).symm)
/-- A row loaded out of the midst of a block, in a body that is walked in its place. -/
theorem wpListIn_load_mid {Fc : Fence} {n : Nat} {P : Program} {w : World} {ops : Array Oper} {rest : List Oper} {o : Oper} {a : Act} {Q : Exit → Act → World → Prop} (hgd : o.guard = none) (ty : TypeId) (x : Operand) (ho : o.op = .load ty x)
    (b off : Nat) (hx : a.eval x = .pointer (some ⟨b, off, none⟩)) (cs : List Value) (d : TypeDesc) (hc : w.rangeAt b off cs) (hu : P.underlying ty = some d) (hd : d.isRow = true) (hi : (P.info? ty).map (·.size) = some cs.length)
    (h : wpListIn Fc n P ops Q rest (a.put o.dst (.agg cs.toArray)) w) : wpListIn Fc n P ops Q (o :: rest) a w := by
  refine wpListIn_plain hgd fun K hK' => ?_
  unfold Oper.wpIn
  refine ⟨?_, ?_⟩
  · simp [Oper.about, ho]
  · rw [Oper.semAt_plain Fc _ _ (by rw [ho]; intro c hc'; cases hc')]
    simp only [execOp, ho, hx, Instr.loadAt, Instr.sureAddr, Sem.run_bind, Sem.run_pure, Result.andThen_ok, run_loadVar_mid w b off ty cs d hc hu hd hi]
    exact hK' _ _ h
/-- A table's entries. -/
def tk (E : List Nat) (k : Nat) : List Nat := (E.drop (16 * k)).take 16
theorem tk_len {E : List Nat} {k : Nat} (hE : E.length = 512) (hk : k < 32) : (tk E k).length = 16 := by simp [tk, hE]; omega
theorem tk_at {E : List Nat} {k j : Nat} (hj : j < 16) : (tk E k).getD j 0 = E.getD (16 * k + j) 0 := by
  simp only [tk, List.getD_eq_getElem?_getD, List.getElem?_take_of_lt hj, List.getElem?_drop]
theorem ShAt.tab {w : World} {p : Nat} {v : Value} {q d : Nat} {s : SD} {F : List Nat} (h : ShAt w p v q d s F) {k : Nat} (hk : k < 32) : w.rangeAt p (35 + k * 16) (u32s (tk s.E k)) := by
  intro j u hj
  have hl := tk_len h.lE hk
  have hj2 : j < 16 := by have := (List.getElem?_eq_some_iff.1 hj).1; rw [u32s_len, hl] at this; exact this
  rw [u32s_at (by rw [hl]; exact hj2), tk_at hj2] at hj
  cases hj
  rw [show 35 + k * 16 + j = 35 + (16 * k + j) by omega]
  exact h.cE (by omega)

set_option maxRecDepth 100000 in
set_option maxHeartbeats 4000000 in
theorem pages1_in (d l p q dd : Nat) (v : Value) (sd : SD) (F : List Nat) (hd : 1 ≤ d) (Bs B0 : Nat)
    (I : List Nat → World → Prop) (hI1 : ∀ s W, I s W → W.cell? ⟨Bs, 0, none⟩ = some (.pointer (some ⟨p, 0, none⟩)) ∧ ShAt W p v q dd sd F)
    (J : List Nat → World → Prop) (Jm : List Nat → Nat → World → Prop) (W : World) (hJ : ∀ s W, J s W → I s W) (hJm : ∀ s y W W', J s W → KeepsFrom B0 W W' → (∃ i, s = nz sd.E i ∧ y = 64 * i ∧ i < 512 ∧ sd.E.getD i 0 ≠ 0 ∧ I s W') → Jm s y W')
    (hY : ∀ s y W, Jm s y W → YieldAt Fence.wide (d - 1) Try.prog l #[.int .u32 (y : Nat)] W fun e W' => e = .returned (.bool true) ∧ J (s ++ [y]) W') (h0 : J [] W) :
    CallsIn Fence.wide d Try.prog 59 (#[.func (.yield l) #[] #[]] ++ #[.pointer (some ⟨Bs, 0, none⟩)]) W fun e W' => (∃ v, e = .returned v) ∧ ∃ s, s = nz sd.E 512 ∧ J s W' := by
  have hJ' : Hid _ := hJ
  have hJm' : Hid _ := hJm
  have hY' : Hid _ := hY
  have hI1' : Hid _ := hI1
  have h0' : Hid (J [] W) := h0
  clear hJ hJm hY hI1 h0
  refine callsIn_of_wp Try.func59 rfl trivial ?_ rfl
  simp only [Try.ntmps59, List.size_toArray, List.length_cons, List.length_nil, Nat.reduceAdd, Nat.reduceSub, Array.replicate_succ, Array.replicate_zero, List.push_toArray, List.append_toArray, List.nil_append, List.cons_append]
  gi_wp2_with fail
  gi_loopw [6] (fun i wr => ∃ k : Nat, (k : Int) ≤ 32 ∧ i = .int .i64 (k : Int) ∧ Hid (J (nz sd.E (16 * k)) wr)) (fun i _ => 32 - (intOf i).toNat)
  case atStart => exact ⟨0, by omega, rfl, h0'.out⟩
  case round =>
    obtain ⟨k, hk, rfl, hJk⟩ := hrel
    by_cases hlt : (k : Int) < 32
    · have hk32 : k < 32 := by omega
      obtain ⟨cb, SA⟩ := hI1'.out _ wr (hJ'.out _ wr hJk.out)
      have hr := SA.tab hk32
      have hl16 := tk_len SA.lE hk32
      have hsz : (Try.prog.info? 87).map (·.size) = some (u32s (tk sd.E k)).length := by rw [u32s_len, hl16]; kernel_rfl
      have hix : Hid (∀ j : Nat, j < 16 → ∀ w, (Instr.index 87 (.agg (u32s (tk sd.E k)).toArray) (.int .i64 j)).run Try.prog w = .ok (.int .u32 (sd.E.getD (16 * k + j) 0 : Nat)) w) := fun j hj w => by
        rw [← tk_at hj]
        exact index_u32 Try.underlying87 (tk sd.E k) hl16 j hj w
      clear SA hl16
      generalize u32s (tk sd.E k) = Y at hr hsz hix
      gi_wp2_with (refine wpListIn_load_mid (by rfl) 87 _ (by rfl) p (35 + k * 16) (by rfl) Y _ hr Try.underlying87 rfl hsz ?_)
      clear hr hsz cb
      gi_loopw [15] (fun i wx => ∃ j : Nat, (j : Int) ≤ 16 ∧ i = .int .i64 (j : Int) ∧ Hid (J (nz sd.E (16 * k + j)) wx)) (fun i _ => 16 - (intOf i).toNat)
      case atStart => exact ⟨0, by omega, rfl, hJk.out⟩
      case round =>
        obtain ⟨j, hj, rfl, hJj⟩ := hrel
        by_cases hjt : (j : Int) < 16
        · have hixj := hix.out j (by omega)
          obtain ⟨y, hy⟩ : ∃ y : Nat, Hid (y = 64 * (16 * k + j)) := ⟨_, rfl⟩
          have hyk : (k : Int) * 1024 + (j : Int) * 64 = (y : Int) := by have := hy.out; omega
          have hyb : (y : Int) < 32768 := by omega
          generalize hee : sd.E.getD (16 * k + j) 0 = e at hixj
          have hee' : Hid (sd.E.getD (16 * k + j) 0 = e) := hee
          clear hee
          by_cases he : e = 0
          · have he0 : ((e : Int) != 0) = false := by simp; omega
            have he' : Hid (e = 0) := he
            clear he hyk hyb
            gi_wp2_with fail
            refine ⟨(fun f hf => (by cases hf)), ?_⟩
            gi_wp2_with fail
            go_roundw
            case rel => exact ⟨j + 1, by omega, by go_num, by rw [Hid, ← Nat.add_assoc, nz_no (hee'.out.trans he'.out)]; exact hJj.out⟩
            case measure => simp [intOf]; omega
          · have he0 : ((e : Int) != 0) = true := by simp; omega
            obtain ⟨fn, tmps, assign, body, hyy, hR⟩ := hY'.out _ y wr (hJm'.out _ y wr _ hJj.out (KeepsFrom.refl _ _) ⟨16 * k + j, rfl, hy.out, by omega, (fun h => he (hee'.out.symm.trans h)), hJ'.out _ _ hJj.out⟩)
            gi_wp2_with fail
            refine hR.mono ?_
            rintro e2 W3 ⟨rfl, hJ3⟩
            have hJ3' : Hid (J (nz sd.E (16 * k + (j + 1))) W3) := by rw [Hid, ← Nat.add_assoc, nz_yes (fun h => he (hee'.out.symm.trans h)), ← hy.out]; exact hJ3
            clear hJ3 hR hyy
            gi_wp2_with fail
            go_roundw
            case rel => exact ⟨j + 1, by omega, by go_num, hJ3'⟩
            case measure => simp [intOf]; omega
        · obtain rfl : j = 16 := by omega
          have hJk2 : Hid (J (nz sd.E (16 * (k + 1))) wr) := by rw [Hid, show 16 * (k + 1) = 16 * k + 16 by omega]; exact hJj.out
          gi_wp2_with fail
          go_roundw
          case rel => exact ⟨k + 1, by omega, by go_num, hJk2⟩
          case measure => simp [intOf]; omega
    · gi_wp2_with fail
      go_end0
      obtain rfl : k = 32 := by omega
      exact ⟨⟨_, rfl⟩, hJk.out⟩
end Go.Proofs.Ythgkkjcemjadoaa
