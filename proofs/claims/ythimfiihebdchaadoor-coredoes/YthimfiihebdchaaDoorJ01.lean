/- Part of a proof. -/
import Derived.Test.YthimfiihebdchaaDoorChecked
import Derived.WalkKit
import Derived.Handy
import Derived.OpenShut
import Derived.LaidLaws
import Derived.MakeChecks
import Derived.Deep.QuietTactic
import Derived.BigQuiet
import Derived.Test.YthimfiihebdchaaDoorRows
import Derived.Laws.IdiomCopy
import Derived.Deep.Slices
import Derived.Lib.SmallJoins
namespace Go.Proofs.YthimfiihebdchaaDoor
open Go.RowKit
set_option linter.unusedVariables false
set_option linter.unusedSimpArgs false
theorem jA {α : Type _} {xs : List α} {i : Nat} (h : i < xs.toArray.size) : xs.toArray[i] = xs[i]'(by simpa using h) := List.getElem_toArray h
theorem jB {α : Type _} {a : α} {l : List α} {h : 0 < (a :: l).length} : (a :: l)[0] = a := rfl
theorem jC {α : Type _} {a : α} {l : List α} {i : Nat} {h : i + 1 < (a :: l).length} : (a :: l)[i + 1] = l[i]'(Nat.lt_of_succ_lt_succ h) := rfl
theorem jD {α : Type _} {l : List α} {i : Nat} {a : α} : l.toArray.setIfInBounds i a = (l.set i a).toArray := List.setIfInBounds_toArray ..
theorem jE {α : Type _} {x : α} {xs : List α} {a : α} : (x :: xs).set 0 a = a :: xs := rfl
theorem jF {α : Type _} {x : α} {xs : List α} {i : Nat} {a : α} : (x :: xs).set (i + 1) a = x :: xs.set i a := rfl
abbrev z19 : Array Value := #[.int .u32 0, .int .u32 0, .int .u32 0, .int .u32 0, .int .u32 0, .int .u32 0, .int .u32 0, .int .u32 0, .int .u32 0, .int .u32 0, .int .u32 0, .int .u32 0, .int .u32 0, .int .u32 0, .int .u32 0, .int .u32 0, .int .u32 0, .int .u32 0, .bool false]
def flatN {H : Type} : Nat → DataW H → List Value
  | 0, _ => []
  | n + 1, d => match d with
    | .lit (.int k z) => [.int k z]
    | .lit (.bool b) => [.bool b]
    | .agg ds => ds.flatMap (flatN n)
    | _ => []
def contig {α : Type} (off size : α → Nat) : List α → Nat → Nat → Bool
  | [], o, e => o == e
  | a :: r, o, e => off a == o && contig off size r (o + size a) e
theorem pieces {H α : Type} (g : DataW H → List Value) (off size : α → Nat) (f : α → Option (DataW H × List MemPlace)) (cs : List Value) : ∀ (l : List α) (xs : List (DataW H × List MemPlace)) (o : Nat),
    (∀ a ∈ l, ∀ x, f a = some x → (cs.drop (off a)).take (size a) = g x.1) → contig off size l o cs.length = true → l.mapM f = some xs → cs.drop o = (xs.map (·.1)).flatMap g
  | [], xs, o, _, hc, hm => by
    simp only [contig, beq_iff_eq] at hc
    simp only [List.mapM_nil, Option.pure_def, Option.some.injEq] at hm
    subst hm; subst hc
    simp
  | a :: l, xs, o, hf, hc, hm => by
    simp only [contig, Bool.and_eq_true, beq_iff_eq] at hc
    simp only [List.mapM_cons, Option.bind_eq_bind, Option.bind_eq_some_iff, Option.pure_def, Option.some.injEq] at hm
    obtain ⟨b, hb, r', hr', rfl⟩ := hm
    have h1 := hf a (by simp) b hb
    have h2 := pieces g off size f cs l r' _ (fun x hx => hf x (by simp [hx])) hc.2 hr'
    rw [hc.1] at h1
    simp only [List.map_cons, List.flatMap_cons]
    rw [← h1, ← h2, ← List.drop_drop]
    exact (List.take_append_drop _ _).symm
def layoutB (P : Program) : Nat → TypeId → Bool
  | 0, _ => false
  | n + 1, t => match P.underlying t with
    | some .bool => true
    | some (.int _) => true
    | some (.struct fs) => contig (fun f : Field => f.offset) (fun f => P.cellsOf f.type) fs.toList 0 (P.cellsOf t) && fs.toList.all fun f => layoutB P n f.type
    | some (.array m e) => contig (fun i => i * P.cellsOf e) (fun _ => P.cellsOf e) (List.range m) 0 (P.cellsOf t) && layoutB P n e
    | _ => false
theorem cells_of_flat {H : Type} {enc : TypeId × Value → H} {P : Program} {w : World} {base : Nat} {sp : Nat → Bool} {held : Bool} : ∀ (n : Nat) {t : TypeId} {fuel : Nat} {cs : List Value} {x : DataW H × List MemPlace},
    layoutB P n t = true → DataW.trod enc P w base sp held fuel t cs = some x → cs = flatN n x.1
  | 0, t, fuel, cs, x, hl, h => by simp [layoutB] at hl
  | n + 1, t, fuel, cs, x, hl, h => by
    unfold layoutB at hl
    split at hl
    · rename_i hu
      obtain ⟨b, rfl, rfl⟩ := DataW.trod_bool hu h
      rfl
    · rename_i k hu
      obtain ⟨b, rfl, rfl, _⟩ := DataW.trod_int hu h
      rfl
    · rename_i fs hu
      simp only [Bool.and_eq_true, List.all_eq_true] at hl
      cases fuel with
      | zero => simp [DataW.trod] at h
      | succ fuel =>
        simp only [DataW.trod, hu] at h
        split at h
        · rename_i hlen
          obtain ⟨xs, hm, rfl⟩ := Option.map_eq_some_iff.1 h
          have := pieces (flatN n) (fun f : Field => f.offset) (fun f => P.cellsOf f.type) _ cs fs.toList xs 0 (fun f hf y hy => cells_of_flat n (hl.2 f hf) hy) (by rw [hlen]; exact hl.1) hm
          simpa [flatN] using this
        · cases h
    · rename_i m e hu
      simp only [Bool.and_eq_true] at hl
      cases fuel with
      | zero => simp [DataW.trod] at h
      | succ fuel =>
        simp only [DataW.trod, hu] at h
        split at h
        · rename_i hlen
          obtain ⟨xs, hm, rfl⟩ := Option.map_eq_some_iff.1 h
          have := pieces (flatN n) (fun i => i * P.cellsOf e) (fun _ => P.cellsOf e) _ cs (List.range m) xs 0 (fun i _ y hy => cells_of_flat n hl.2 hy) (by rw [hlen]; exact hl.1) hm
          simpa [flatN] using this
        · cases h
    · cases hl
theorem laid_block {P : Program} {W : World} {name : String} {d : DataW Unit} {rest : List (String × DataW Unit)} {g : Nat} {t : TypeId} (n : Nat) (cs : Array Value)
    (hg : P.globalNamed name = some g) (hty : (P.globals[g]?).map (·.type) = some t) (hl : layoutB P n t = true) (hf : flatN n d = cs.toList) (hne : 0 < cs.size)
    (h : laidMet P ((name, d) :: rest) W) : ∃ t', W.heap[g]? = some (.cells cs t' (0, 0)) := by
  obtain ⟨ps, ⟨g', t', c, fuel, p, q, hg', ht', hvar, hd, _, rfl⟩, _, hz⟩ := h
  obtain rfl := Option.some.inj (hg.symm.trans hg')
  obtain rfl := Option.some.inj (hty.symm.trans ht')
  have hc := cells_of_flat n hl hd
  simp only at hc
  rw [hf] at hc
  have hc' : c = cs := Array.toList_inj.1 hc
  subst hc'
  simp only [World.var?, hg, Option.bind_some] at hvar
  split at hvar
  · rename_i c1 t1 f1 hh
    obtain rfl := Option.some.inj hvar
    obtain ⟨⟨c2, t2, h2⟩, _⟩ := hz g 0 (by simp [MemPlace.row]; exact Or.inl hne)
    rw [hh] at h2
    simp only [Option.some.injEq, Obj.cells.injEq] at h2
    exact ⟨t1, by rw [hh, h2.2.2]⟩
  · cases hvar
theorem laid_rest {P : Program} {W : World} {x : String × DataW Unit} {rest : List (String × DataW Unit)} (h : laidMet P (x :: rest) W) : laidMet P rest W := by
  obtain ⟨ps, ⟨g', t', c, fuel, p, q, hg', ht', hvar, hd, hr, rfl⟩, hn, hz⟩ := h
  exact ⟨q, hr, (List.nodup_append.1 hn).2.1, fun b off hm => hz b off (List.mem_append_right _ hm)⟩
def Kep (W w' : World) : Prop := Below W.heap.size W w'
theorem Kep.refl (w : World) : Kep w w := Below.refl _ _
theorem Kep.size {W w' : World} (h : Kep W w') : W.heap.size ≤ w'.heap.size := Below.size h
theorem kep_trans {a b c : World} (h : Kep a b) (k : Kep b c) : Kep a c := Below.trans h (Below.mono k h.size)
theorem Kep.alloc {W w' : World} (h : Kep W w') (o : Obj) : Kep W (w'.alloc o) := Below.alloc h h.size o
theorem Kep.drew {W w' : World} (h : Kep W w') : Kep W w'.drew := Below.drew h
theorem Kep.setCell {W w' : World} (h : Kep W w') {a : Addr} (ha : W.heap.size ≤ a.block) (v : Value) : Kep W (w'.setCell a v) := Below.setCell h ha v
theorem Kep.setRow {W w' : World} (h : Kep W w') (g : Nat) (cs : Array Value) (hg : W.heap.size ≤ g) : Kep W (w'.setRow g cs) :=
  have h' : Below W.heap.size W w' := h
  ⟨h'.os, h'.tape, h'.output, by have := h'.size; simpa using this, fun k hk => (setRow_other w' g k cs (by omega)).trans (h'.block k hk)⟩
theorem Kep.drewN {W w' : World} (h : Kep W w') (n : Nat) : Kep W (w'.drewN n) :=
  have h' : Below W.heap.size W w' := h
  ⟨h'.os, h'.tape, h'.output, h'.size, fun k hk => h'.block k hk⟩
theorem Kep.cell {W w' : World} (h : Kep W w') {b o : Nat} (hb : b < W.heap.size) : w'.cell? ⟨b, o, none⟩ = W.cell? ⟨b, o, none⟩ := Below.cell h (p := ⟨b, o, none⟩) hb
theorem Kep.block {W w' : World} (h : Kep W w') {b : Nat} {x : Obj} (hb : W.heap[b]? = some x) : w'.heap[b]? = some x := by
  have hlt : b < W.heap.size := by
    rcases Nat.lt_or_ge b W.heap.size with h | h
    · exact h
    · rw [Array.getElem?_eq_none h] at hb; cases hb
  exact (Below.block h b hlt).trans hb
theorem cell_of_block {w : World} {b i : Nat} {cs : Array Value} {t : TypeId} {fr : Nat × Nat} (h : w.heap[b]? = some (.cells cs t fr)) : w.cell? ⟨b, i, none⟩ = cs[i]? := by
  simp [World.cell?, h]
theorem cell_old {w : World} {o : Obj} {b i : Nat} (h : b < w.heap.size) : (w.alloc o).cell? ⟨b, i, none⟩ = w.cell? ⟨b, i, none⟩ := by simp only [World.cell?, World.alloc, Array.getElem?_push_lt h, Array.getElem?_eq_getElem h]
theorem ret_int {k : IntKind} {a b : Int} (h : a = b) : Ending.returned (.int k a) = .returned (.int k b) := by rw [h]
theorem ret_bool {a b : Bool} (h : a = b) : Ending.returned (.bool a) = .returned (.bool b) := by rw [h]
def sLo (k : Nat) : Int := [0, 16, 32, 33, 48, 56, 58, 64, 73, 80, 96, 98, 112, 113].getD k 0
def sHi (k : Nat) : Int := [3, 31, 32, 33, 55, 57, 58, 72, 74, 80, 97, 101, 112, 113].getD k 0
def sRow (k : Nat) : Nat := [1, 3, 9, 5, 6, 2, 3, 7, 2, 4, 2, 3, 4, 8].getD k 0
def sHost (k : Nat) : Bool := [false, false, false, false, false, false, false, false, false, false, false, false, true, true].getD k false
def f0 (r : Nat) : Int := [0, 1, 1, 1, 1, 1, 1, 1, 1, 1].getD r 0
def f1 (r : Nat) : Int := [0, 0, 7, 7, 0, 7, 7, 0, 0, 7].getD r 0
def f2 (r : Nat) : Int := [0, 0, 0, 7, 0, 0, 7, 0, 0, 0].getD r 0
def f3 (r : Nat) : Int := [0, 0, 0, 0, 1, 1, 1, 2, 2, 4].getD r 0
def f4 (r : Nat) : Int := [0, 0, 0, 0, 0, 1, 1, 1, 0, 1].getD r 0
def spanA (k : Nat) : Array Value := #[.int .u8 (sLo k), .int .u8 (sHi k), .int .u8 (sRow k), .bool (sHost k)]
def formA (r : Nat) : Array Value := #[.int .u8 (f0 r), .int .u8 (f1 r), .int .u8 (f2 r), .int .u8 (f3 r), .int .u8 (f4 r)]
def spansC : Array Value := ((List.range 14).flatMap fun k => (spanA k).toList).toArray
def formsC : Array Value := ((List.range 10).flatMap fun r => (formA r).toList).toArray
def Tabs (w : World) : Prop := (∃ t, w.heap[0]? = some (.cells formsC t (0, 0))) ∧ ∃ t, w.heap[1]? = some (.cells spansC t (0, 0))
theorem Tabs.grown {w w' : World} (h : Tabs w) (g : Kep w w') : Tabs w' := by
  obtain ⟨⟨t, h0⟩, t1, h1⟩ := h
  exact ⟨⟨t, g.block h0⟩, t1, g.block h1⟩
theorem formsC_at (r j : Nat) (hr : r < 10) (hj : j < 5) : formsC[r * 5 + j]? = (formA r)[j]? := by
  have h : ∀ r, r < 10 → ∀ j, j < 5 → formsC[r * 5 + j]? = (formA r)[j]? := by
    intro r hr j hj
    rcases (by omega : r = 0 ∨ r = 1 ∨ r = 2 ∨ r = 3 ∨ r = 4 ∨ r = 5 ∨ r = 6 ∨ r = 7 ∨ r = 8 ∨ r = 9) with rfl | rfl | rfl | rfl | rfl | rfl | rfl | rfl | rfl | rfl <;>
      rcases (by omega : j = 0 ∨ j = 1 ∨ j = 2 ∨ j = 3 ∨ j = 4) with rfl | rfl | rfl | rfl | rfl <;> rfl
  exact h r hr j hj
theorem Tabs.form {w : World} (h : Tabs w) (r : Nat) (hr : r < 10) : w.cell? ⟨0, r * 5, none⟩ = some (.int .u8 (f0 r)) ∧ w.cell? ⟨0, r * 5 + 1, none⟩ = some (.int .u8 (f1 r)) ∧
    w.cell? ⟨0, r * 5 + 2, none⟩ = some (.int .u8 (f2 r)) ∧ w.cell? ⟨0, r * 5 + 3, none⟩ = some (.int .u8 (f3 r)) ∧ w.cell? ⟨0, r * 5 + 4, none⟩ = some (.int .u8 (f4 r)) := by
  obtain ⟨⟨t, h0⟩, _⟩ := h
  refine ⟨?_, ?_, ?_, ?_, ?_⟩
  · rw [cell_of_block h0]; exact formsC_at r 0 hr (by decide)
  · rw [cell_of_block h0]; exact formsC_at r 1 hr (by decide)
  · rw [cell_of_block h0]; exact formsC_at r 2 hr (by decide)
  · rw [cell_of_block h0]; exact formsC_at r 3 hr (by decide)
  · rw [cell_of_block h0]; exact formsC_at r 4 hr (by decide)
theorem tabs_size {w : World} (h : Tabs w) : 0 < w.heap.size ∧ 1 < w.heap.size := by
  obtain ⟨⟨t, h0⟩, t1, h1⟩ := h
  have a : 0 < w.heap.size := by
    rcases Nat.lt_or_ge 0 w.heap.size with h | h
    · exact h
    · rw [Array.getElem?_eq_none h] at h0; cases h0
  have b : 1 < w.heap.size := by
    rcases Nat.lt_or_ge 1 w.heap.size with h | h
    · exact h
    · rw [Array.getElem?_eq_none h] at h1; cases h1
  omega
theorem sRow_lt : ∀ k, k < 14 → sRow k < 10 := by decide
def matchB (k : Nat) (op : Int) (host : Bool) : Bool := (decide (sLo k ≤ op) && decide (op ≤ sHi k)) && (host || !sHost k)
def rowOf (op : Int) (host : Bool) : Nat :=
  if op = 0 ∨ op = 1 ∨ op = 2 ∨ op = 3 then 1 else
  if (16 ≤ op ∧ op ≤ 31) ∨ op = 58 ∨ op = 98 ∨ op = 99 ∨ op = 100 ∨ op = 101 then 3 else
  if op = 73 ∨ op = 74 ∨ op = 56 ∨ op = 57 ∨ op = 96 ∨ op = 97 then 2 else
  if op = 80 ∨ (op = 112 ∧ host = true) then 4 else
  if op = 33 then 5 else
  if 48 ≤ op ∧ op ≤ 55 then 6 else
  if 64 ≤ op ∧ op ≤ 72 then 7 else
  if op = 113 ∧ host = true then 8 else
  if op = 32 then 9 else 0
theorem rowOf_lt (op : Int) (host : Bool) : rowOf op host < 10 := by unfold rowOf; (repeat' split) <;> decide
theorem row_hit_all : ∀ n : Nat, n < 256 → ∀ host : Bool, ∀ k : Nat, k < 14 → matchB k n host = true → rowOf n host = sRow k := by decide +kernel
theorem row_miss_all : ∀ n : Nat, n < 256 → ∀ host : Bool, (∀ k : Nat, k < 14 → matchB k n host = false) → rowOf n host = 0 := by decide +kernel
theorem row_hit (op : Int) (h0 : 0 ≤ op) (h1 : op < 256) (host : Bool) (k : Nat) (hk : k < 14) (h : matchB k op host = true) : rowOf op host = sRow k := by
  obtain ⟨n, rfl⟩ : ∃ n : Nat, op = n := ⟨op.toNat, by omega⟩
  exact row_hit_all n (by omega) host k hk h
theorem row_miss (op : Int) (h0 : 0 ≤ op) (h1 : op < 256) (host : Bool) (h : ∀ k : Nat, k < 14 → matchB k op host = false) : rowOf op host = 0 := by
  obtain ⟨n, rfl⟩ : ∃ n : Nat, op = n := ⟨op.toNat, by omega⟩
  exact row_miss_all n (by omega) host h
theorem tabs_of_laid {W : World} (h : laidMetH Tryd.prog [("mummer/isa.forms", Rows.laid_mummer_isa_forms), ("mummer/isa.spans", Rows.laid_mummer_isa_spans)] W) : Tabs W := by
  rw [MakeChecks.laidMetH_plain _ _ _ (by kernel_rfl)] at h
  refine ⟨laid_block 4 formsC (show Tryd.prog.globalNamed "mummer/isa.forms" = some 0 by kernel_rfl) (show (Tryd.prog.globals[0]?).map (·.type) = some 103 by kernel_rfl) (by kernel_rfl) (by kernel_rfl) (by rw [show formsC.size = 50 from by kernel_rfl]; decide) h,
    laid_block 4 spansC (show Tryd.prog.globalNamed "mummer/isa.spans" = some 1 by kernel_rfl) (show (Tryd.prog.globals[1]?).map (·.type) = some 119 by kernel_rfl) (by kernel_rfl) (by kernel_rfl) (by rw [show spansC.size = 56 from by kernel_rfl]; decide) (laid_rest h)⟩
structure Put (l : List Nat) (w w' : World) : Prop where
  os : w'.os = w.os
  tape : w'.tape = w.tape
  output : w'.output = w.output
  size : w.heap.size ≤ w'.heap.size
  block : ∀ k, k < w.heap.size → k ∉ l → w'.heap[k]? = w.heap[k]?
theorem Put.refl {l : List Nat} (w : World) : Put l w w := ⟨rfl, rfl, rfl, Nat.le_refl _, fun _ _ _ => rfl⟩
theorem Put.trans {l : List Nat} {a b c : World} (h : Put l a b) (k : Put l b c) : Put l a c :=
  ⟨k.os.trans h.os, k.tape.trans h.tape, k.output.trans h.output, Nat.le_trans h.size k.size, fun i hi h1 => (k.block i (Nat.lt_of_lt_of_le hi h.size) h1).trans (h.block i hi h1)⟩
theorem Put.of_kep {l : List Nat} {a b : World} (h : Kep a b) : Put l a b :=
  have h' : Below a.heap.size a b := h
  ⟨h'.os, h'.tape, h'.output, h'.size, fun k hk _ => h'.block k hk⟩
theorem Kep.put {l : List Nat} {W w w' : World} (h : Kep W w) (k : Put l w w') (hl : ∀ b ∈ l, W.heap.size ≤ b) : Kep W w' :=
  have h' : Below W.heap.size W w := h
  ⟨k.os.trans h'.os, k.tape.trans h'.tape, k.output.trans h'.output, Nat.le_trans h'.size k.size, fun i hi => (k.block i (Nat.lt_of_lt_of_le hi h'.size) (fun hm => by have := hl i hm; omega)).trans (h'.block i hi)⟩
theorem Put.drew {l : List Nat} {a b : World} (h : Put l a b) : Put l a b.drew := ⟨h.os, h.tape, h.output, h.size, h.block⟩
theorem Put.drewN {l : List Nat} {a b : World} (h : Put l a b) (n : Nat) : Put l a (b.drewN n) := ⟨h.os, h.tape, h.output, h.size, h.block⟩
theorem Put.setCell {l : List Nat} {a b : World} (h : Put l a b) {p : Addr} (hp : p.block ∈ l) (v : Value) : Put l a (b.setCell p v) := by
  refine ⟨h.os, h.tape, h.output, by simpa using h.size, fun k hk h1 => ?_⟩
  rw [heap_setCell_other _ _ _ _ (by intro e; exact h1 (e ▸ hp))]
  exact h.block k hk h1
theorem Put.keeps {l : List Nat} {a b : World} (h : Put l a b) {k : Nat} {x : Obj} (hx : a.heap[k]? = some x) (hk : k ∉ l) : b.heap[k]? = some x := by
  have hlt : k < a.heap.size := by
    rcases Nat.lt_or_ge k a.heap.size with h | h
    · exact h
    · rw [Array.getElem?_eq_none h] at hx; cases hx
  exact (h.block k hlt hk).trans hx
theorem block_lt {w : World} {b : Nat} {x : Obj} (h : w.heap[b]? = some x) : b < w.heap.size := by
  rcases Nat.lt_or_ge b w.heap.size with h' | h'
  · exact h'
  · rw [Array.getElem?_eq_none h'] at h; cases h
theorem heap_setCell_row {w : World} {R k : Nat} {cs : Array Value} {t : TypeId} (h : w.heap[R]? = some (.cells cs t (0, 0))) (v : Value) : (w.setCell ⟨R, k, none⟩ v).heap[R]? = some (.cells (cs.setIfInBounds k v) t (0, 0)) := by
  simp [World.setCell, Array.getElem?_modify, h]
theorem hat (W : World) (o : Obj) (n : Nat) (h : n = W.heap.size) : (W.alloc o).heap[n]? = some o := by subst h; exact heap_alloc_new W o
theorem hsk (W : World) (o : Obj) (n : Nat) (h : n < W.heap.size) : (W.alloc o).heap[n]? = W.heap[n]? := by simp only [World.alloc, Array.getElem?_push_lt h, Array.getElem?_eq_getElem h]
theorem Put.alloc {l : List Nat} {a b : World} (h : Put l a b) (o : Obj) : Put l a (b.alloc o) :=
  h.trans (Put.of_kep ((Kep.refl _).alloc o))
end Go.Proofs.YthimfiihebdchaaDoor
namespace Go.Proofs.YthimfiihebdchaaDoor
open Go.RowKit Go.WideShapes Go.ChangeShapes Go.ChangeAt
set_option linter.unusedVariables false
end Go.Proofs.YthimfiihebdchaaDoor
namespace Go.Proofs.YthimfiihebdchaaDoor
open Go.RowKit
set_option linter.unusedVariables false
set_option linter.unusedSimpArgs false
structure Sta where
  r : Nat → Int
  pc : Int
  ps : Int
  c : Nat → Int
  h : Bool
def Sta.v (s : Sta) : Array Value := #[.int .u32 (s.r 0), .int .u32 (s.r 1), .int .u32 (s.r 2), .int .u32 (s.r 3), .int .u32 (s.r 4), .int .u32 (s.r 5), .int .u32 (s.r 6), .int .u32 (s.r 7), .int .u32 s.pc, .int .u32 s.ps,
  .int .u32 (s.c 0), .int .u32 (s.c 1), .int .u32 (s.c 2), .int .u32 (s.c 3), .int .u32 (s.c 4), .int .u32 (s.c 5), .int .u32 (s.c 6), .int .u32 (s.c 7), .bool s.h]
def up (r : Nat → Int) (a : Nat) (x : Int) : Nat → Int := fun n => if n = a then x else r n
def Sta.reg (s : Sta) (a : Nat) (x : Int) : Sta := { s with r := up s.r a x }
def Sta.go (s : Sta) (x : Int) : Sta := { s with pc := x }
def Sta.mark (s : Sta) (x : Int) : Sta := { s with ps := x }
structure Sta.Ok (s : Sta) : Prop where
  r : ∀ n, 0 ≤ s.r n ∧ s.r n < 4294967296
  pc : 0 ≤ s.pc ∧ s.pc < 4294967296
  ps : 0 ≤ s.ps ∧ s.ps < 4294967296
  c : ∀ n, 0 ≤ s.c n ∧ s.c n < 4294967296
theorem eight {p : Nat → Prop} (h : p 0 ∧ p 1 ∧ p 2 ∧ p 3 ∧ p 4 ∧ p 5 ∧ p 6 ∧ p 7) (a : Nat) (ha : a < 8) : p a := by
  obtain ⟨h0, h1, h2, h3, h4, h5, h6, h7⟩ := h
  rcases (by omega : a = 0 ∨ a = 1 ∨ a = 2 ∨ a = 3 ∨ a = 4 ∨ a = 5 ∨ a = 6 ∨ a = 7) with rfl | rfl | rfl | rfl | rfl | rfl | rfl | rfl <;> assumption
theorem v_size (s : Sta) : s.v.size = 19 := rfl
theorem v_reg (s : Sta) (a : Nat) (ha : a < 8) : s.v[a]? = some (.int .u32 (s.r a)) :=
  eight (p := fun a => s.v[a]? = some (.int .u32 (s.r a))) ⟨rfl, rfl, rfl, rfl, rfl, rfl, rfl, rfl⟩ a ha
theorem v_pc (s : Sta) : s.v[8]? = some (.int .u32 s.pc) := rfl
theorem v_ps (s : Sta) : s.v[9]? = some (.int .u32 s.ps) := rfl
theorem v_set (s : Sta) (a : Nat) (ha : a < 8) (x : Int) : s.v.setIfInBounds a (.int .u32 x) = (s.reg a x).v :=
  eight (p := fun a => s.v.setIfInBounds a (.int .u32 x) = (s.reg a x).v) ⟨rfl, rfl, rfl, rfl, rfl, rfl, rfl, rfl⟩ a ha
theorem v_go (s : Sta) (x : Int) : s.v.setIfInBounds 8 (.int .u32 x) = (s.go x).v := rfl
theorem v_mark (s : Sta) (x : Int) : s.v.setIfInBounds 9 (.int .u32 x) = (s.mark x).v := rfl
def At (w : World) (p : Nat) (s : Sta) : Prop := w.heap[p]? = some (.cells s.v 25 (0, 0))
theorem At.reg {w : World} {p : Nat} {s : Sta} (h : At w p s) (a : Nat) (ha : a < 8) : w.cell? ⟨p, a, none⟩ = some (.int .u32 (s.r a)) := (cell_of_block h).trans (v_reg s a ha)
theorem At.pc {w : World} {p : Nat} {s : Sta} (h : At w p s) : w.cell? ⟨p, 8, none⟩ = some (.int .u32 s.pc) := (cell_of_block h).trans (v_pc s)
theorem At.ps {w : World} {p : Nat} {s : Sta} (h : At w p s) : w.cell? ⟨p, 9, none⟩ = some (.int .u32 s.ps) := (cell_of_block h).trans (v_ps s)
theorem At.lt {w : World} {p : Nat} {s : Sta} (h : At w p s) : p < w.heap.size := block_lt h
theorem At.set {w : World} {p : Nat} {s : Sta} (h : At w p s) (a : Nat) (ha : a < 8) (x : Int) : At (w.setCell ⟨p, a, none⟩ (.int .u32 x)) p (s.reg a x) := by
  unfold At; rw [heap_setCell_row h, v_set s a ha]
theorem At.setPc {w : World} {p : Nat} {s : Sta} (h : At w p s) (x : Int) : At (w.setCell ⟨p, 8, none⟩ (.int .u32 x)) p (s.go x) := by
  unfold At; rw [heap_setCell_row h, v_go]
theorem At.setPs {w : World} {p : Nat} {s : Sta} (h : At w p s) (x : Int) : At (w.setCell ⟨p, 9, none⟩ (.int .u32 x)) p (s.mark x) := by
  unfold At; rw [heap_setCell_row h, v_mark]
theorem At.kep {w w' : World} {p : Nat} {s : Sta} (h : At w p s) (k : Kep w w') : At w' p s := k.block h
theorem Put.setRowNew {l : List Nat} {a b : World} (h : Put l a b) {g : Nat} (hg : a.heap.size ≤ g) (cs : Array Value) : Put l a (b.setRow g cs) := by
  refine ⟨h.os, h.tape, h.output, by simpa [World.setRow] using h.size, fun k hk h1 => ?_⟩
  rw [setRow_other _ _ _ _ (by omega)]
  exact h.block k hk h1
theorem Put.setCellNew {l : List Nat} {a b : World} (h : Put l a b) {p : Addr} (hp : a.heap.size ≤ p.block) (v : Value) : Put l a (b.setCell p v) := by
  refine ⟨h.os, h.tape, h.output, by simpa using h.size, fun k hk h1 => ?_⟩
  rw [heap_setCell_other _ _ _ _ (by omega)]
  exact h.block k hk h1
theorem At.drew {w : World} {p : Nat} {s : Sta} (h : At w p s) : At w.drew p s := h
theorem At.drewN {w : World} {p : Nat} {s : Sta} (h : At w p s) (n : Nat) : At (w.drewN n) p s := h
theorem At.alloc {w : World} {p : Nat} {s : Sta} (h : At w p s) (o : Obj) : At (w.alloc o) p s := h.kep ((Kep.refl _).alloc _)
theorem At.setRow {w : World} {p g : Nat} {s : Sta} (h : At w p s) (hp : p ≠ g) (cs : Array Value) : At (w.setRow g cs) p s := (setRow_other _ _ _ _ hp).trans h
theorem At.setOther {w : World} {p : Nat} {s : Sta} {a : Addr} (h : At w p s) (hp : p ≠ a.block) (v : Value) : At (w.setCell a v) p s := (heap_setCell_other _ _ _ _ hp).trans h
theorem Sta.Ok.reg {s : Sta} (h : s.Ok) (a : Nat) (x : Int) (h0 : 0 ≤ x) (h1 : x < 4294967296) : (s.reg a x).Ok := by
  refine ⟨fun n => ?_, h.pc, h.ps, h.c⟩
  show 0 ≤ up s.r a x n ∧ up s.r a x n < 4294967296
  unfold up; split
  · exact ⟨h0, h1⟩
  · exact h.r n
theorem Sta.Ok.go {s : Sta} (h : s.Ok) (x : Int) (h0 : 0 ≤ x) (h1 : x < 4294967296) : (s.go x).Ok := ⟨h.r, ⟨h0, h1⟩, h.ps, h.c⟩
def Sta.regIf (s : Sta) (k : Bool) (a : Nat) (x : Int) : Sta := match k with | true => s.reg a x | false => s
def Sta.markIf (s : Sta) (k : Bool) (x : Int) : Sta := match k with | true => s.mark x | false => s
theorem ne_lit {op k : Int} (h : op ≠ k) : (op == k) = false := by rw [beq_eq_false_iff_ne]; exact h
theorem v_one (s : Sta) : s.v.all (·.oneCell') = true := by simp [Sta.v, Value.oneCell']
theorem row_frozen {w : World} {b : Nat} {cs : Array Value} {t : TypeId} (h : w.heap[b]? = some (.cells cs t (0, 0))) (j : Nat) : w.frozen? ⟨b, j, none⟩ = false := by simp [World.frozen?, h]
theorem drew_heap (w : World) (k : Nat) : w.drew.heap[k]? = w.heap[k]? := rfl
theorem drewN_heap (w : World) (n k : Nat) : (w.drewN n).heap[k]? = w.heap[k]? := rfl
theorem size_sta : (Tryd.prog.info? 25).map (·.size) = some 19 := by kernel_rfl
theorem size_flt : (Tryd.prog.info? 29).map (·.size) = some 2 := by kernel_rfl
end Go.Proofs.YthimfiihebdchaaDoor
namespace Go.Proofs.YthimfiihebdchaaDoor
open Go.RowKit Go.ChangeShapes Go.WideShapes Go.ChangeAt
set_option linter.unusedVariables false
theorem trod_five {H : Type} {enc : TypeId × Value → H} {P : Program} {w : World} {base : Nat} {spare : Nat → Bool} {held : Bool} {t : TypeId} {f0 f1 f2 f3 f4 : Field} {fuel : Nat} {cs : List Value} {x : DataW H × List MemPlace}
    (ht : P.underlying t = some (.struct #[f0, f1, f2, f3, f4])) (h : DataW.trod enc P w base spare held fuel t cs = some x) :
    ∃ y0 y1 y2 y3 y4 n, cs.length = P.cellsOf t ∧ DataW.trod enc P w base spare held n f0.type ((cs.drop f0.offset).take (P.cellsOf f0.type)) = some y0 ∧
      DataW.trod enc P w base spare held n f1.type ((cs.drop f1.offset).take (P.cellsOf f1.type)) = some y1 ∧ DataW.trod enc P w base spare held n f2.type ((cs.drop f2.offset).take (P.cellsOf f2.type)) = some y2 ∧
      DataW.trod enc P w base spare held n f3.type ((cs.drop f3.offset).take (P.cellsOf f3.type)) = some y3 ∧ DataW.trod enc P w base spare held n f4.type ((cs.drop f4.offset).take (P.cellsOf f4.type)) = some y4 := by
  obtain ⟨xs, n, _, rfl, hl, hlen, hf⟩ := DataW.trod_struct ht h
  match xs, hlen with
  | [y0, y1, y2, y3, y4], _ => exact ⟨y0, y1, y2, y3, y4, n, hl, by simpa using hf 0 f0 rfl, by simpa using hf 1 f1 rfl, by simpa using hf 2 f2 rfl, by simpa using hf 3 f3 rfl, by simpa using hf 4 f4 rfl⟩
theorem list19 {α : Type} (l : List α) (h : l.length = 19) : ∃ v0 v1 v2 v3 v4 v5 v6 v7 v8 v9 v10 v11 v12 v13 v14 v15 v16 v17 v18, l = [v0, v1, v2, v3, v4, v5, v6, v7, v8, v9, v10, v11, v12, v13, v14, v15, v16, v17, v18] := by
  match l, h with
  | [v0, v1, v2, v3, v4, v5, v6, v7, v8, v9, v10, v11, v12, v13, v14, v15, v16, v17, v18], _ => exact ⟨v0, v1, v2, v3, v4, v5, v6, v7, v8, v9, v10, v11, v12, v13, v14, v15, v16, v17, v18, rfl⟩
theorem list8 {α : Type} (l : List α) (h : l.length = 8) : ∃ a b c d e f g i, l = [a, b, c, d, e, f, g, i] := by
  match l, h with
  | [a, b, c, d, e, f, g, i], _ => exact ⟨a, b, c, d, e, f, g, i, rfl⟩
theorem arr_in {H : Type} {enc : TypeId × Value → H} {P : Program} {w : World} {base : Nat} {sp : Nat → Bool} {held : Bool} {t e : TypeId} {n fuel : Nat} {k : IntKind} {cs : List Value} {y : DataW H × List MemPlace} (ht : P.underlying t = some (.array n e)) (he : P.underlying e = some (.int k)) (hc : P.cellsOf e = 1) (hl : cs.length = n)
    (hf : DataW.trod enc P w base sp held fuel t cs = some y) : ∃ zs : List Int, zs.length = n ∧ cs = zs.map (Value.int k) ∧ ∀ z ∈ zs, (Lit.int k z).wf = true := by
  obtain ⟨xs, m, _, _, _, hxl, hx⟩ := DataW.trod_array ht hf
  have each : ∀ i, i < n → ∃ z : Int, cs[i]? = some (.int k z) ∧ (Lit.int k z).wf = true := by
    intro i hi
    have h1 := hx i hi
    rw [hc, List.getElem?_eq_getElem (by omega)] at h1
    obtain ⟨z, e1, _, q⟩ := DataW.trod_int he h1
    refine ⟨z, ?_, q⟩
    simp only [Nat.mul_one] at e1
    have := congrArg (fun l => l[0]?) e1
    simpa using this
  obtain ⟨zs, hzs⟩ : ∃ zs : List Int, zs.length = n ∧ ∀ i, i < n → ∃ z, zs[i]? = some z ∧ cs[i]? = some (.int k z) ∧ (Lit.int k z).wf = true := by
    refine ⟨(List.range n).map fun i => if hi : i < n then (each i hi).choose else 0, by simp, fun i hi => ⟨(each i hi).choose, by simp [hi], (each i hi).choose_spec⟩⟩
  refine ⟨zs, hzs.1, ?_, fun z hz => ?_⟩
  · apply List.ext_getElem?
    intro i
    by_cases hi : i < n
    · obtain ⟨z, e1, e2, _⟩ := hzs.2 i hi
      rw [e2, List.getElem?_map, e1]; rfl
    · rw [List.getElem?_eq_none (by omega), List.getElem?_eq_none (by rw [List.length_map]; omega)]
  · obtain ⟨i, hi, rfl⟩ := List.mem_iff_getElem.1 hz
    obtain ⟨z, e1, _, q⟩ := hzs.2 i (by omega)
    rw [List.getElem?_eq_getElem hi] at e1
    obtain rfl := Option.some.inj e1
    exact q
theorem getD_range (zs : List Int) (h : ∀ z ∈ zs, (Lit.int .u32 z).wf = true) (n : Nat) : 0 ≤ zs.getD n 0 ∧ zs.getD n 0 < 4294967296 := by
  rw [List.getD_eq_getElem?_getD]
  cases e : zs[n]? with
  | none => exact ⟨by decide, by decide⟩
  | some z =>
    have hz : z ∈ zs := List.mem_of_getElem? e
    have := bounds_u32 (h z hz)
    simp only [Option.getD_some]
    omega
theorem sta_of {H : Type} {enc : TypeId × Value → H} {w : World} {base : Nat} {sp : Nat → Bool} {held : Bool} {fuel : Nat} {cs : List Value} {y : DataW H × List MemPlace}
    (h : DataW.trod enc Tryd.prog w base sp held fuel 25 cs = some y) : ∃ s : Sta, s.Ok ∧ cs = s.v.toList := by
  obtain ⟨y0, y1, y2, y3, y4, n, hl, g0, g1, g2, g3, g4⟩ := trod_five Tryd.underlying25 h
  have c19 : Tryd.prog.cellsOf 25 = 19 := by kernel_rfl
  have c8 : Tryd.prog.cellsOf 23 = 8 := by kernel_rfl
  have c1 : Tryd.prog.cellsOf 22 = 1 := by kernel_rfl
  have cb : Tryd.prog.cellsOf 4 = 1 := by kernel_rfl
  rw [c19] at hl
  obtain ⟨v0, v1, v2, v3, v4, v5, v6, v7, v8, v9, v10, v11, v12, v13, v14, v15, v16, v17, v18, rfl⟩ := list19 cs hl
  rw [c8] at g0 g3
  rw [c1] at g1 g2
  rw [cb] at g4
  obtain ⟨zs, l0, e0, q0⟩ := arr_in Tryd.underlying23 Tryd.underlying22 c1 (by simp) g0
  obtain ⟨pc, e1, _, q1⟩ := DataW.trod_int Tryd.underlying22 g1
  obtain ⟨ps, e2, _, q2⟩ := DataW.trod_int Tryd.underlying22 g2
  obtain ⟨xs, l3, e3, q3⟩ := arr_in Tryd.underlying23 Tryd.underlying22 c1 (by simp) g3
  obtain ⟨hb, e4, _⟩ := DataW.trod_bool Tryd.underlying4 g4
  refine ⟨⟨fun k => zs.getD k 0, pc, ps, fun k => xs.getD k 0, hb⟩, ⟨getD_range zs q0, ?_, ?_, getD_range xs q3⟩, ?_⟩
  · have := bounds_u32 q1; exact ⟨by show 0 ≤ pc; omega, by show pc < _; omega⟩
  · have := bounds_u32 q2; exact ⟨by show 0 ≤ ps; omega, by show ps < _; omega⟩
  obtain ⟨a0, a1, a2, a3, a4, a5, a6, a7, rfl⟩ := list8 zs l0
  obtain ⟨b0, b1, b2, b3, b4, b5, b6, b7, rfl⟩ := list8 xs l3
  simp at e0 e1 e2 e3 e4
  simp [Sta.v, e0, e1, e2, e3, e4]
set_option maxRecDepth 100000 in
theorem open_sta {H : Type} {enc : TypeId × Value → H} {w : World} {r : Reach} {b0 base : Nat} {sp : Nat → Bool} {held : Bool} {v : Value} {d : DataW H} {p : List MemPlace} (hv : Value.okWide Tryd.prog w r b0 25 v) (h : DataW.Trod enc Tryd.prog w base sp held 25 v d p) :
    ∃ s : Sta, v = .agg s.v ∧ s.Ok := by
  obtain ⟨cs, rfl, _⟩ := okWide_struct Tryd.underlying25 hv
  obtain ⟨fuel, hf⟩ := h
  obtain ⟨s, ok, e⟩ := sta_of hf
  refine ⟨s, ?_, ok⟩
  have : cs = s.v := Array.toList_inj.1 (by simpa [Value.cells] using e)
  rw [this]
end Go.Proofs.YthimfiihebdchaaDoor
