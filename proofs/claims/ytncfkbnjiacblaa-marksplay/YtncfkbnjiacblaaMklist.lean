/- Lists of frames that bear a mark: a range over a function. -/
import Derived.Test.YtncfkbnjiacblaaMknew
import Derived.Test.YtncfkbnjiacblaaVrange
import Derived.Test.YtncfkbnjiacblaaVreg
import Derived.Shelf.Abstract
import Derived.Great.BuildSlice
import Derived.Maps.AppendAt
import Derived.OwnWalk
import Derived.OwnWalkIn
namespace Go.Proofs.Ytncfkbnjiacblaa
open Go.RowKit Go.Shelf Go.Great
set_option linter.unusedVariables false
set_option linter.unusedSimpArgs false
attribute [local go_sem] Oper.semAt_some

def ints (l : List Int) : List Value := l.map (Value.int .i64)
theorem ints_len (l : List Int) : (ints l).length = l.length := by simp [ints]
theorem ints_at {l : List Int} {k : Nat} (h : k < l.length) : (ints l)[k]? = some (.int .i64 (l.getD k 0)) := by simp [ints, h, List.getD]
theorem ints_app (l : List Int) (a : Int) : ints l ++ [.int .i64 a] = ints (l ++ [a]) := by simp [ints]
theorem ints_one (a : Int) : ∀ u ∈ ([.int .i64 a] : List Value), u.oneCell' = true := by simp [Value.oneCell']
theorem info_i64 : (Try.prog.info? 3).map (fun i => (i.zero, i.size, i.bytes)) = some (some (.int .i64 0), 1, 8) := by kernel_rfl
/-- At x lie the numbers l. -/
def LI (w : World) (x : Option Addr) (l : List Int) : Prop := l = [] ∨ ∃ R, x = some ⟨R, 0, none⟩ ∧ R < w.heap.size ∧ ∀ k, k < l.length → w.cell? ⟨R, k, none⟩ = some (.int .i64 (l.getD k 0))
theorem LI.kep {w w' : World} {x : Option Addr} {l : List Int} (h : LI w x l) (k : Kep w w') : LI w' x l := by
  rcases h with h | ⟨R, e, hR, hc⟩
  · exact .inl h
  · exact .inr ⟨R, e, k.lt hR, fun j hj => (k.cell hR).trans (hc j hj)⟩
theorem LI.of_owns {w : World} {base : Nat} {v : Value} {l : List Int} (h : w.ownsRow base 3 1 v l.length (ints l)) : ∃ (x : Option Addr) (cap : Nat), v = .slice x l.length cap ∧ LI w x l := by
  rcases h with ⟨h0, ⟨hv, hn0⟩ | ⟨g, cap, cur, hv, hb, hg, h1, h2, h3, h4⟩⟩
  · refine ⟨none, 0, ?_, .inl (List.length_eq_zero_iff.1 hn0)⟩
    rw [hv, hn0]
  · refine ⟨_, cap, hv, .inr ⟨g, rfl, block_lt hg, fun k hk => ?_⟩⟩
    rw [cell_of_block hg]
    rw [Nat.mul_one] at h4
    have h5 : (ints l)[k]? = cur.toList[k]? := by rw [← h4, List.getElem?_take_of_lt hk]
    rw [ints_at hk] at h5
    simpa using h5.symm
theorem own_base {w : World} {base : Nat} {e : TypeId} {size n g : Nat} {v : Value} {xs : List Value} (h : w.ownsRow base e size v n xs) (hg : v.ownBlock = some g) : base ≤ g := by
  rcases h.2 with ⟨rfl, _⟩ | ⟨g', cap, cur, rfl, hb, _⟩
  · simp [Value.ownBlock] at hg
  · simp [Value.ownBlock] at hg; omega
theorem Soft.cells {B : Nat} {W W' : World} (h : Soft B W W') {g : Nat} {cs : Array Value} {t : TypeId} {fr : Nat × Nat} (hg : W.heap[g]? = some (.cells cs t fr)) : W'.heap[g]? = some (.cells cs t fr) := by
  obtain ⟨l, hp, hl⟩ := h
  refine hp.keeps hg fun hm => ?_
  obtain ⟨_, o, ho, hc⟩ := hl g hm
  rw [hg] at ho; cases ho; cases hc
theorem Soft.kept {B : Nat} {w W W' : World} (h : Soft B W W') (k : Kep w W) (hB : w.heap.size ≤ B) : Kep w W' := by
  obtain ⟨l, hp, hl⟩ := h
  exact k.put hp fun g hg => Nat.le_trans hB (hl g hg).1
theorem Soft.owns {B : Nat} {W W' : World} (h : Soft B W W') {base : Nat} {e : TypeId} {z : Nat} {v : Value} {n : Nat} {xs : List Value} (ho : W.ownsRow base e z v n xs) : W'.ownsRow base e z v n xs :=
  ⟨ho.1, ho.2.imp id fun ⟨g, cap, cur, h1, h2, h3, r⟩ => ⟨g, cap, cur, h1, h2, h.cells h3, r⟩⟩
theorem Soft.boxed {B : Nat} {W W' : World} (h : Soft B W W') {g : Nat} {t : TypeId} {v : Value} (hg : Boxed W g t v) : Boxed W' g t v := Soft.cells h hg

/-- The frames s are told so far: the list's box lies at w's end, the set's behind it. -/
def ListI (w : World) (x : Option Addr) (n : Nat) (s : List Int) (W : World) : Prop :=
  (∃ v, Boxed W w.heap.size 39 v ∧ W.ownsRow w.heap.size 3 1 v s.length (ints s)) ∧ Kep w W ∧ Boxed W (w.heap.size + 1) 44 (.slice x n n) ∧ s.length ≤ 512
theorem ListI.soft {w : World} {x : Option Addr} {n : Nat} {s : List Int} {W W' : World} (h : ListI w x n s W) {B : Nat} (hB : w.heap.size ≤ B) (k : Soft B W W') : ListI w x n s W' := by
  obtain ⟨⟨v, h1, h2⟩, h3, h4, h5⟩ := h
  exact ⟨⟨v, k.boxed h1, k.owns h2⟩, k.kept h3 hB, k.boxed h4, h5⟩
theorem Put.of_grown {w w' : World} {row : Option Nat} {l : List Nat} (h : w.grownBy w' row) (hl : ∀ k, row = some k → k ∈ l) : Put l w w' :=
  ⟨h.os, h.tape, h.output, h.size, fun k hk hn => h.block k hk fun e => hn (hl k e.symm)⟩
theorem list_push {w W2 : World} {x : Option Addr} {n : Nat} {s : List Int} {y : Int} {v : Value} (h1 : Boxed W2 w.heap.size 39 v) (h2 : W2.ownsRow w.heap.size 3 1 v s.length (ints s)) (h3 : Kep w W2) (h4 : Boxed W2 (w.heap.size + 1) 44 (.slice x n n)) (hs : s.length < 512)
    {g c : Nat} {w' : World} (hown : w'.ownsRow w.heap.size 3 1 (.slice (some ⟨g, 0, none⟩) (s.length + 1) c) (s.length + 1) (ints s ++ [.int .i64 y])) (hgrow : (W2.alloc (.cells #[.int .i64 y] 3)).grownBy w' v.ownBlock) :
    w'.cell? ⟨w.heap.size, 0, none⟩ = some v ∧ w'.frozen? ⟨w.heap.size, 0, none⟩ = false ∧ ∀ B, KeepsFrom B W2 (w'.setCell ⟨w.heap.size, 0, none⟩ (.slice (some ⟨g, 0, none⟩) (s.length + 1) c)) ∧ ListI w x n (s ++ [y]) (w'.setCell ⟨w.heap.size, 0, none⟩ (.slice (some ⟨g, 0, none⟩) (s.length + 1) c)) := by
  have kA : Kep W2 (W2.alloc (.cells #[.int .i64 y] 3)) := (Kep.refl _).alloc _
  have hoA : (W2.alloc (.cells #[.int .i64 y] 3)).ownsRow w.heap.size 3 1 v s.length (ints s) := (Soft.of_kep (B := 0) kA).owns h2
  have b1' : Boxed w' w.heap.size 39 v := (show Boxed (W2.alloc (.cells #[.int .i64 y] 3)) w.heap.size 39 v from kA.block h1).kept hgrow ((show Boxed (W2.alloc (.cells #[.int .i64 y] 3)) w.heap.size 39 v from kA.block h1).not_row (by decide) hoA)
  have b4' := (show Boxed (W2.alloc (.cells #[.int .i64 y] 3)) _ _ _ from kA.block h4).kept hgrow ((show Boxed (W2.alloc (.cells #[.int .i64 y] 3)) _ _ _ from kA.block h4).not_row (by decide) hoA)
  have kW : Kep w w' := (kep_trans h3 kA).by hgrow (fun k e => own_base hoA e)
  have hsz : (s ++ [y]).length = s.length + 1 := by simp
  refine ⟨b1'.cell, b1'.frozen, fun B => ⟨?_, ⟨_, b1'.set _, ?_⟩, kW.setCell (a := ⟨w.heap.size, 0, none⟩) (Nat.le_refl _) _, b4'.other (by omega) _, by omega⟩⟩
  · refine KeepsFrom.trans ?_ ((KeepsOthers.setCell _ _ _ : KeepsOthers w' (w'.setCell ⟨w.heap.size, 0, none⟩ (.slice (some ⟨g, 0, none⟩) (s.length + 1) c))).from B)
    refine KeepsFrom.trans (KeepsFrom.of_put (Put.of_kep (l := []) kA) (by simp)) ?_
    refine KeepsFrom.of_put (Put.of_grown (l := v.ownBlock.toList) hgrow (fun k e => by simp [e])) ?_
    intro b hb _
    rcases hoA.2 with ⟨rfl, _⟩ | ⟨g', cap', cur, rfl, _, hgb, _⟩
    · simp [Value.ownBlock] at hb
    · simp [Value.ownBlock] at hb; subst hb; exact ⟨_, _, _, hgb⟩
  · rw [hsz, ← ints_app]
    exact hown.kept (grownBy_setCell' w' w.heap.size _) (.inr (b1'.not_row (by decide) hown).symm)

set_option maxRecDepth 100000 in
set_option maxHeartbeats 4000000 in
theorem frames1_in (d l n : Nat) (hd : 1 ≤ d) (L : List Bool) (hn : L.length = n) (hmax : (n : Int) ≤ 512) (Bs B0 : Nat) (x : Option Addr)
    (I : List Int → World → Prop) (hI1 : ∀ s W, I s W → W.cell? ⟨Bs, 0, none⟩ = some (.slice x n n) ∧ SetAt W x L)
    (J : List Int → World → Prop) (Jm : List Int → Nat → World → Prop) (W : World) (hJ : ∀ s W, J s W → I s W) (hJm : ∀ s y W W', J s W → KeepsFrom B0 W W' → (s = frs L y ∧ y < n ∧ L.getD y false = true ∧ I s W') → Jm s y W')
    (hY : ∀ s y W, Jm s y W → YieldAt Fence.wide (d - 1) Try.prog l #[.int .i64 (y : Nat)] W fun e W' => e = .returned (.bool true) ∧ J (s ++ [(y : Int)]) W') (h0 : J [] W) :
    CallsIn Fence.wide d Try.prog 25 (#[.func (.yield l) #[] #[]] ++ #[.pointer (some ⟨Bs, 0, none⟩)]) W fun e W' => (∃ v, e = .returned v) ∧ ∃ s, s = frs L n ∧ J s W' := by
  have hJ' : Hid _ := hJ
  have hJm' : Hid _ := hJm
  have hY' : Hid _ := hY
  have hI1' : Hid _ := hI1
  have h0' : Hid (J [] W) := h0
  have hn' : Hid (L.length = n) := hn
  have c00 := (hI1 _ _ (hJ _ _ h0)).1
  clear hJ hJm hY hI1 h0 hn
  refine callsIn_of_wp Try.func25 rfl trivial ?_ rfl
  simp only [Try.ntmps25, List.size_toArray, List.length_cons, List.length_nil, Nat.reduceAdd, Nat.reduceSub, Array.replicate_succ, Array.replicate_zero, List.push_toArray, List.append_toArray, List.nil_append, List.cons_append]
  gi_wp2_with fail
  gi_loopw [7] (fun i wr => ∃ k : Nat, (k : Int) ≤ n ∧ i = .int .i64 (k : Int) ∧ Hid (J (frs L k) wr)) (fun i _ => n - (intOf i).toNat)
  case atStart => exact ⟨0, by omega, rfl, h0'.out⟩
  case round =>
    obtain ⟨k, hk, rfl, hJk⟩ := hrel
    by_cases hlt : k < n
    · have hlt' : (k : Int) < n := by omega
      obtain ⟨b, rfl, hc, hb⟩ := (hI1'.out _ wr (hJ'.out _ wr hJk.out)).2.at (k := k) (by rw [hn'.out]; exact hlt)
      generalize hu : L.getD k false = u at hc
      have hu' : Hid (L.getD k false = u) := hu
      clear hu
      cases u
      · gi_wp2_with fail
        refine ⟨(fun f hf => (by cases hf)), ?_⟩
        gi_wp2_with fail
        go_roundw
        case rel => exact ⟨k + 1, by omega, by go_num, by rw [Hid, frs_no hu'.out]; exact hJk.out⟩
        case measure => simp [intOf]; omega
      · obtain ⟨fn, tmps, assign, body, hy, hR⟩ := hY'.out _ k wr (hJm'.out _ k wr _ hJk.out (KeepsFrom.refl _ _) ⟨rfl, hlt, hu'.out, hJ'.out _ _ hJk.out⟩)
        gi_wp2_with fail
        refine hR.mono ?_
        rintro e W3 ⟨rfl, hJ3⟩
        have hJ3' : Hid (J (frs L (k + 1)) W3) := by rw [Hid, frs_yes hu'.out]; exact hJ3
        clear hJ3 hR hy
        gi_wp2_with fail
        go_roundw
        case rel => exact ⟨k + 1, by omega, by go_num, hJ3'⟩
        case measure => simp [intOf]; omega
    · gi_wp2_with fail
      go_end0
      obtain rfl : k = n := by omega
      exact ⟨⟨_, rfl⟩, _, rfl, hJk.out⟩
end Go.Proofs.Ytncfkbnjiacblaa
