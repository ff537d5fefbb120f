/- Part of a proof. -/
import Derived.Test.YtamffningddgbaaGreatDoorChecked
import Derived.WalkKit
import Derived.Handy
import Derived.OpenShut
import Derived.LaidLaws
import Derived.MakeChecks
import Derived.Deep.QuietTactic
import Derived.BigQuiet
import Derived.Laws.IdiomCopy
import Derived.Laws.CopyOwn
namespace Go.Proofs.YtamffningddgbaaGreatDoor
open Go.RowKit
set_option linter.unusedVariables false
set_option linter.unusedSimpArgs false
theorem jA {α : Type _} {xs : List α} {i : Nat} (h : i < xs.toArray.size) : xs.toArray[i] = xs[i]'(by simpa using h) := List.getElem_toArray h
theorem jB {α : Type _} {a : α} {l : List α} {h : 0 < (a :: l).length} : (a :: l)[0] = a := rfl
theorem jC {α : Type _} {a : α} {l : List α} {i : Nat} {h : i + 1 < (a :: l).length} : (a :: l)[i + 1] = l[i]'(Nat.lt_of_succ_lt_succ h) := rfl
theorem jD {α : Type _} {l : List α} {i : Nat} {a : α} : l.toArray.setIfInBounds i a = (l.set i a).toArray := List.setIfInBounds_toArray ..
theorem jE {α : Type _} {x : α} {xs : List α} {a : α} : (x :: xs).set 0 a = a :: xs := rfl
theorem jF {α : Type _} {x : α} {xs : List α} {i : Nat} {a : α} : (x :: xs).set (i + 1) a = x :: xs.set i a := rfl
abbrev z19 : Array Value := #[.int .u32 0, .int .u32 0, .int .u32 0, .int .u32 0, .int .u32 0, .int .u32 0, .int .u32 0, .int .u32 0, .int .u32 0, .int .u32 0, .int .u32 0, .int .u32 0, .int .u32 0, .int .u32 0, .int .u32 0, .int .u32 0, .int .u32 0, .int .u32 0, .bool false]
def flatN {H : Type} : Nat → DataW H → List Value
  | 0, _ => []
  | n + 1, d => match d with
    | .lit (.int k z) => [.int k z]
    | .lit (.bool b) => [.bool b]
    | .agg ds => ds.flatMap (flatN n)
    | _ => []
def contig {α : Type} (off size : α → Nat) : List α → Nat → Nat → Bool
  | [], o, e => o == e
  | a :: r, o, e => off a == o && contig off size r (o + size a) e
theorem pieces {H α : Type} (g : DataW H → List Value) (off size : α → Nat) (f : α → Option (DataW H × List MemPlace)) (cs : List Value) : ∀ (l : List α) (xs : List (DataW H × List MemPlace)) (o : Nat),
    (∀ a ∈ l, ∀ x, f a = some x → (cs.drop (off a)).take (size a) = g x.1) → contig off size l o cs.length = true → l.mapM f = some xs → cs.drop o = (xs.map (·.1)).flatMap g
  | [], xs, o, _, hc, hm => by
    simp only [contig, beq_iff_eq] at hc
    simp only [List.mapM_nil, Option.pure_def, Option.some.injEq] at hm
    subst hm; subst hc
    simp
  | a :: l, xs, o, hf, hc, hm => by
    simp only [contig, Bool.and_eq_true, beq_iff_eq] at hc
    simp only [List.mapM_cons, Option.bind_eq_bind, Option.bind_eq_some_iff, Option.pure_def, Option.some.injEq] at hm
    obtain ⟨b, hb, r', hr', rfl⟩ := hm
    have h1 := hf a (by simp) b hb
    have h2 := pieces g off size f cs l r' _ (fun x hx => hf x (by simp [hx])) hc.2 hr'
    rw [hc.1] at h1
    simp only [List.map_cons, List.flatMap_cons]
    rw [← h1, ← h2, ← List.drop_drop]
    exact (List.take_append_drop _ _).symm
def layoutB (P : Program) : Nat → TypeId → Bool
  | 0, _ => false
  | n + 1, t => match P.underlying t with
    | some .bool => true
    | some (.int _) => true
    | some (.struct fs) => contig (fun f : Field => f.offset) (fun f => P.cellsOf f.type) fs.toList 0 (P.cellsOf t) && fs.toList.all fun f => layoutB P n f.type
    | some (.array m e) => contig (fun i => i * P.cellsOf e) (fun _ => P.cellsOf e) (List.range m) 0 (P.cellsOf t) && layoutB P n e
    | _ => false
theorem cells_of_flat {H : Type} {enc : TypeId × Value → H} {P : Program} {w : World} {base : Nat} {sp : Nat → Bool} {held : Bool} : ∀ (n : Nat) {t : TypeId} {fuel : Nat} {cs : List Value} {x : DataW H × List MemPlace},
    layoutB P n t = true → DataW.trod enc P w base sp held fuel t cs = some x → cs = flatN n x.1
  | 0, t, fuel, cs, x, hl, h => by simp [layoutB] at hl
  | n + 1, t, fuel, cs, x, hl, h => by
    unfold layoutB at hl
    split at hl
    · rename_i hu
      obtain ⟨b, rfl, rfl⟩ := DataW.trod_bool hu h
      rfl
    · rename_i k hu
      obtain ⟨b, rfl, rfl, _⟩ := DataW.trod_int hu h
      rfl
    · rename_i fs hu
      simp only [Bool.and_eq_true, List.all_eq_true] at hl
      cases fuel with
      | zero => simp [DataW.trod] at h
      | succ fuel =>
        simp only [DataW.trod, hu] at h
        split at h
        · rename_i hlen
          obtain ⟨xs, hm, rfl⟩ := Option.map_eq_some_iff.1 h
          have := pieces (flatN n) (fun f : Field => f.offset) (fun f => P.cellsOf f.type) _ cs fs.toList xs 0 (fun f hf y hy => cells_of_flat n (hl.2 f hf) hy) (by rw [hlen]; exact hl.1) hm
          simpa [flatN] using this
        · cases h
    · rename_i m e hu
      simp only [Bool.and_eq_true] at hl
      cases fuel with
      | zero => simp [DataW.trod] at h
      | succ fuel =>
        simp only [DataW.trod, hu] at h
        split at h
        · rename_i hlen
          obtain ⟨xs, hm, rfl⟩ := Option.map_eq_some_iff.1 h
          have := pieces (flatN n) (fun i => i * P.cellsOf e) (fun _ => P.cellsOf e) _ cs (List.range m) xs 0 (fun i _ y hy => cells_of_flat n hl.2 hy) (by rw [hlen]; exact hl.1) hm
          simpa [flatN] using this
        · cases h
    · cases hl
theorem laid_block {P : Program} {W : World} {name : String} {d : DataW Unit} {rest : List (String × DataW Unit)} {g : Nat} {t : TypeId} (n : Nat) (cs : Array Value)
    (hg : P.globalNamed name = some g) (hty : (P.globals[g]?).map (·.type) = some t) (hl : layoutB P n t = true) (hf : flatN n d = cs.toList) (hne : 0 < cs.size)
    (h : laidMet P ((name, d) :: rest) W) : ∃ t', W.heap[g]? = some (.cells cs t' (0, 0)) := by
  obtain ⟨ps, ⟨g', t', c, fuel, p, q, hg', ht', hvar, hd, _, rfl⟩, _, hz⟩ := h
  obtain rfl := Option.some.inj (hg.symm.trans hg')
  obtain rfl := Option.some.inj (hty.symm.trans ht')
  have hc := cells_of_flat n hl hd
  simp only at hc
  rw [hf] at hc
  have hc' : c = cs := Array.toList_inj.1 hc
  subst hc'
  simp only [World.var?, hg, Option.bind_some] at hvar
  split at hvar
  · rename_i c1 t1 f1 hh
    obtain rfl := Option.some.inj hvar
    obtain ⟨⟨c2, t2, h2⟩, _⟩ := hz g 0 (by simp [MemPlace.row]; exact Or.inl hne)
    rw [hh] at h2
    simp only [Option.some.injEq, Obj.cells.injEq] at h2
    exact ⟨t1, by rw [hh, h2.2.2]⟩
  · cases hvar
theorem laid_rest {P : Program} {W : World} {x : String × DataW Unit} {rest : List (String × DataW Unit)} (h : laidMet P (x :: rest) W) : laidMet P rest W := by
  obtain ⟨ps, ⟨g', t', c, fuel, p, q, hg', ht', hvar, hd, hr, rfl⟩, hn, hz⟩ := h
  exact ⟨q, hr, (List.nodup_append.1 hn).2.1, fun b off hm => hz b off (List.mem_append_right _ hm)⟩
def Kep (W w' : World) : Prop := Below W.heap.size W w'
theorem Kep.refl (w : World) : Kep w w := Below.refl _ _
theorem Kep.size {W w' : World} (h : Kep W w') : W.heap.size ≤ w'.heap.size := Below.size h
theorem kep_trans {a b c : World} (h : Kep a b) (k : Kep b c) : Kep a c := Below.trans h (Below.mono k h.size)
theorem Kep.alloc {W w' : World} (h : Kep W w') (o : Obj) : Kep W (w'.alloc o) := Below.alloc h h.size o
theorem Kep.drew {W w' : World} (h : Kep W w') : Kep W w'.drew := Below.drew h
theorem Kep.setCell {W w' : World} (h : Kep W w') {a : Addr} (ha : W.heap.size ≤ a.block) (v : Value) : Kep W (w'.setCell a v) := Below.setCell h ha v
theorem Kep.setRow {W w' : World} (h : Kep W w') (g : Nat) (cs : Array Value) (hg : W.heap.size ≤ g) : Kep W (w'.setRow g cs) :=
  have h' : Below W.heap.size W w' := h
  ⟨h'.os, h'.tape, h'.output, by have := h'.size; simpa using this, fun k hk => (setRow_other w' g k cs (by omega)).trans (h'.block k hk)⟩
theorem Kep.drewN {W w' : World} (h : Kep W w') (n : Nat) : Kep W (w'.drewN n) :=
  have h' : Below W.heap.size W w' := h
  ⟨h'.os, h'.tape, h'.output, h'.size, fun k hk => h'.block k hk⟩
theorem Kep.by {W w w' : World} {row : Option Nat} (h : Kep W w) (hg : w.grownBy w' row) (hr : ∀ k, row = some k → W.heap.size ≤ k) : Kep W w' := Below.grown h hg h.size hr
theorem Kep.lt {W w' : World} (h : Kep W w') {b : Nat} (hb : b < W.heap.size) : b < w'.heap.size := Nat.lt_of_lt_of_le hb h.size
theorem Kep.cell {W w' : World} (h : Kep W w') {b o : Nat} (hb : b < W.heap.size) : w'.cell? ⟨b, o, none⟩ = W.cell? ⟨b, o, none⟩ := Below.cell h (p := ⟨b, o, none⟩) hb
theorem Kep.block {W w' : World} (h : Kep W w') {b : Nat} {x : Obj} (hb : W.heap[b]? = some x) : w'.heap[b]? = some x := by
  have hlt : b < W.heap.size := by
    rcases Nat.lt_or_ge b W.heap.size with h | h
    · exact h
    · rw [Array.getElem?_eq_none h] at hb; cases hb
  exact (Below.block h b hlt).trans hb
theorem cell_of_block {w : World} {b i : Nat} {cs : Array Value} {t : TypeId} {fr : Nat × Nat} (h : w.heap[b]? = some (.cells cs t fr)) : w.cell? ⟨b, i, none⟩ = cs[i]? := by
  simp [World.cell?, h]
theorem cell_old {w : World} {o : Obj} {b i : Nat} (h : b < w.heap.size) : (w.alloc o).cell? ⟨b, i, none⟩ = w.cell? ⟨b, i, none⟩ := by simp only [World.cell?, World.alloc, Array.getElem?_push_lt h, Array.getElem?_eq_getElem h]
theorem ret_int {k : IntKind} {a b : Int} (h : a = b) : Ending.returned (.int k a) = .returned (.int k b) := by rw [h]
theorem ret_bool {a b : Bool} (h : a = b) : Ending.returned (.bool a) = .returned (.bool b) := by rw [h]
def allocs (w : World) (l : List Obj) : World := l.foldl World.alloc w
theorem allocs_size (l : List Obj) : ∀ w : World, (allocs w l).heap.size = w.heap.size + l.length := by
  induction l with
  | nil => intro w; rfl
  | cons o l ih => intro w; show (allocs (w.alloc o) l).heap.size = _; rw [ih]; simp; omega
theorem allocs_kep (l : List Obj) : ∀ w : World, Kep w (allocs w l) := by
  induction l with
  | nil => intro w; exact Kep.refl _
  | cons o l ih => intro w; exact kep_trans ((Kep.refl w).alloc o) (ih (w.alloc o))
theorem allocs_at (l : List Obj) : ∀ (w : World) (i : Nat) (o : Obj), l[i]? = some o → (allocs w l).heap[w.heap.size + i]? = some o := by
  induction l with
  | nil => intro w i o h; simp at h
  | cons p l ih =>
    intro w i o h
    cases i with
    | zero =>
      simp at h; subst h
      exact (allocs_kep l (w.alloc p)).block (heap_alloc_new w p)
    | succ i =>
      have := ih (w.alloc p) i o (by simpa using h)
      have e : (w.alloc p).heap.size + i = w.heap.size + (i + 1) := by simp; omega
      rw [e] at this
      exact this
structure Put (l : List Nat) (w w' : World) : Prop where
  os : w'.os = w.os
  tape : w'.tape = w.tape
  output : w'.output = w.output
  size : w.heap.size ≤ w'.heap.size
  block : ∀ k, k < w.heap.size → k ∉ l → w'.heap[k]? = w.heap[k]?
theorem Put.refl {l : List Nat} (w : World) : Put l w w := ⟨rfl, rfl, rfl, Nat.le_refl _, fun _ _ _ => rfl⟩
theorem Put.trans {l : List Nat} {a b c : World} (h : Put l a b) (k : Put l b c) : Put l a c :=
  ⟨k.os.trans h.os, k.tape.trans h.tape, k.output.trans h.output, Nat.le_trans h.size k.size, fun i hi h1 => (k.block i (Nat.lt_of_lt_of_le hi h.size) h1).trans (h.block i hi h1)⟩
theorem Put.mono {l m : List Nat} {a b : World} (h : Put l a b) (hl : ∀ k ∈ l, k ∈ m) : Put m a b := ⟨h.os, h.tape, h.output, h.size, fun k hk h1 => h.block k hk fun h2 => h1 (hl k h2)⟩
theorem Put.of_kep {l : List Nat} {a b : World} (h : Kep a b) : Put l a b :=
  have h' : Below a.heap.size a b := h
  ⟨h'.os, h'.tape, h'.output, h'.size, fun k hk _ => h'.block k hk⟩
theorem Kep.put {l : List Nat} {W w w' : World} (h : Kep W w) (k : Put l w w') (hl : ∀ b ∈ l, W.heap.size ≤ b) : Kep W w' :=
  have h' : Below W.heap.size W w := h
  ⟨k.os.trans h'.os, k.tape.trans h'.tape, k.output.trans h'.output, Nat.le_trans h'.size k.size, fun i hi => (k.block i (Nat.lt_of_lt_of_le hi h'.size) (fun hm => by have := hl i hm; omega)).trans (h'.block i hi)⟩
theorem Put.drew {l : List Nat} {a b : World} (h : Put l a b) : Put l a b.drew := ⟨h.os, h.tape, h.output, h.size, h.block⟩
theorem Put.setCell {l : List Nat} {a b : World} (h : Put l a b) {p : Addr} (hp : p.block ∈ l) (v : Value) : Put l a (b.setCell p v) := by
  refine ⟨h.os, h.tape, h.output, by simpa using h.size, fun k hk h1 => ?_⟩
  rw [heap_setCell_other _ _ _ _ (by intro e; exact h1 (e ▸ hp))]
  exact h.block k hk h1
theorem Put.setRow {l : List Nat} {a b : World} (h : Put l a b) {g : Nat} (hp : g ∈ l) (cs : Array Value) : Put l a (b.setRow g cs) := by
  refine ⟨h.os, h.tape, h.output, by simpa [World.setRow] using h.size, fun k hk h1 => ?_⟩
  rw [setRow_other _ _ _ _ (by intro e; exact h1 (e ▸ hp))]
  exact h.block k hk h1
theorem Put.keeps {l : List Nat} {a b : World} (h : Put l a b) {k : Nat} {x : Obj} (hx : a.heap[k]? = some x) (hk : k ∉ l) : b.heap[k]? = some x := by
  have hlt : k < a.heap.size := by
    rcases Nat.lt_or_ge k a.heap.size with h | h
    · exact h
    · rw [Array.getElem?_eq_none h] at hx; cases hx
  exact (h.block k hlt hk).trans hx
theorem block_lt {w : World} {b : Nat} {x : Obj} (h : w.heap[b]? = some x) : b < w.heap.size := by
  rcases Nat.lt_or_ge b w.heap.size with h' | h'
  · exact h'
  · rw [Array.getElem?_eq_none h'] at h; cases h
theorem Put.cell {l : List Nat} {a b : World} (h : Put l a b) {k o : Nat} (hk : k < a.heap.size) (hl : k ∉ l) : b.cell? ⟨k, o, none⟩ = a.cell? ⟨k, o, none⟩ := by
  simp only [World.cell?, h.block k hk hl]
theorem heap_setCell_row {w : World} {R k : Nat} {cs : Array Value} {t : TypeId} (h : w.heap[R]? = some (.cells cs t (0, 0))) (v : Value) : (w.setCell ⟨R, k, none⟩ v).heap[R]? = some (.cells (cs.setIfInBounds k v) t (0, 0)) := by
  simp [World.setCell, Array.getElem?_modify, h]
theorem hat (W : World) (o : Obj) (n : Nat) (h : n = W.heap.size) : (W.alloc o).heap[n]? = some o := by subst h; exact heap_alloc_new W o
theorem hsk (W : World) (o : Obj) (n : Nat) (h : n < W.heap.size) : (W.alloc o).heap[n]? = W.heap[n]? := by simp only [World.alloc, Array.getElem?_push_lt h, Array.getElem?_eq_getElem h]
theorem Put.alloc {l : List Nat} {a b : World} (h : Put l a b) (o : Obj) : Put l a (b.alloc o) :=
  h.trans (Put.of_kep ((Kep.refl _).alloc o))
theorem heap_setCells_row {R : Nat} {t : TypeId} : ∀ (vs : List Value) (o : Nat) (w : World) (l : List Value), w.heap[R]? = some (.cells l.toArray t (0, 0)) → o + vs.length ≤ l.length →
    (w.setCells R o vs).heap[R]? = some (.cells (l.take o ++ vs ++ l.drop (o + vs.length)).toArray t (0, 0))
  | [], o, w, l, h, hl => by simpa [World.setCells] using h
  | v :: r, o, w, l, h, hl => by
    simp only [List.length_cons] at hl
    have h1 : (w.setCell ⟨R, o, none⟩ v).heap[R]? = some (.cells (l.set o v).toArray t (0, 0)) := by rw [heap_setCell_row h]; simp
    rw [World.setCells, heap_setCells_row r (o + 1) _ _ h1 (by simp; omega)]
    have e1 : (l.set o v).take (o + 1) = l.take o ++ [v] := by
      rw [List.take_add_one, List.take_set_of_le (by omega)]
      simp [show o < l.length by omega]
    have e2 : (l.set o v).drop (o + 1 + r.length) = l.drop (o + 1 + r.length) := by rw [List.drop_set_of_lt (by omega)]
    rw [e1, e2]
    have e3 : o + (v :: r).length = o + 1 + r.length := by simp; omega
    rw [e3]
    simp
theorem Put.setCells {l : List Nat} {g : Nat} {a : World} (hp : g ∈ l) : ∀ (vs : List Value) (o : Nat) (b : World), Put l a b → Put l a (b.setCells g o vs)
  | [], _, _, h => h
  | v :: r, o, b, h => Put.setCells hp r (o + 1) _ (h.setCell hp v)
theorem results1 {P : Program} {fn : Func} {p : Tmp} {ty : TypeId} (h : fn.results = #[.cell p ty]) (tmps : Array Value) (w : World) (g : Nat) (t : TypeId) (cs : Array Value) (fr : Nat × Nat) (d : TypeDesc)
    (hp : tmps.getD p undef = .pointer (some ⟨g, 0, none⟩)) (hg : w.heap[g]? = some (.cells cs t fr))
    (hu : P.underlying ty = some d) (hd : (match d with | .struct _ | .array _ _ => true | _ => false) = true) (hi : (P.info? ty).map (·.size) = some cs.size) :
    (results fn tmps).run P w = .ok (.agg cs) w := by
  have hp' : tmps[p]?.getD undef = .pointer (some ⟨g, 0, none⟩) := by simpa using hp
  simp [results, h, hp', asAddr, run_loadVar_row w g t ty cs fr d hg hu hd hi]
theorem resultsC1 {P : Program} {fn : Func} {p u : Tmp} {ty : TypeId} (h : fn.results = #[.cell p ty, .tmp u]) (tmps : Array Value) (w : World) (g : Nat) (t : TypeId) (cs : Array Value) (fr : Nat × Nat) (d : TypeDesc)
    (hp : tmps.getD p undef = .pointer (some ⟨g, 0, none⟩)) (hg : w.heap[g]? = some (.cells cs t fr))
    (hu : P.underlying ty = some d) (hd : (match d with | .struct _ | .array _ _ => true | _ => false) = true) (hi : (P.info? ty).map (·.size) = some cs.size) :
    (results fn tmps).run P w = .ok (.tuple #[.agg cs, tmps.getD u undef]) w := by
  have hp' : tmps[p]?.getD undef = .pointer (some ⟨g, 0, none⟩) := by simpa using hp
  simp [results, h, hp', asAddr, run_loadVar_row w g t ty cs fr d hg hu hd hi]
theorem i64_of {a : Int} (h : (Lit.int .i64 a).wf = true) : -9223372036854775808 ≤ a ∧ a ≤ 9223372036854775807 := by
  simp [Lit.wf, IntKind.min, IntKind.max, IntKind.signed, IntKind.bits] at h; omega
def byt (B : List Int) : List Value := B.map (Value.int .u8)
theorem byt_len (B : List Int) : (byt B).length = B.length := by simp [byt]
theorem byt_at (B : List Int) (k : Nat) : (byt B)[k]? = B[k]?.map (Value.int .u8) := by simp [byt]
theorem byt_set (B : List Int) (k : Nat) (b : Int) : (byt B).set k (.int .u8 b) = byt (B.set k b) := by simp [byt, List.map_set]
def RowB (w : World) (R : Nat) (B : List Int) : Prop := B ≠ [] → w.heap[R]? = some (.cells (byt B).toArray 5 (0, 0))
theorem RowB.put {l : List Nat} {w w' : World} {R : Nat} {B : List Int} (h : RowB w R B) (k : Put l w w') (hl : R ∉ l) : RowB w' R B := fun hn => k.keeps (h hn) hl
theorem RowB.kep {w w' : World} {R : Nat} {B : List Int} (h : RowB w R B) (k : Kep w w') : RowB w' R B := fun hn => k.block (h hn)
theorem RowB.cell {w : World} {R : Nat} {B : List Int} (h : RowB w R B) {k : Nat} (hk : k < B.length) : w.cell? ⟨R, k, none⟩ = some (.int .u8 (B.getD k 0)) := by
  rw [cell_of_block (h (by intro e; subst e; simp at hk))]
  simp [byt, hk]
theorem RowB.lt {w : World} {R : Nat} {B : List Int} (h : RowB w R B) (hB : B ≠ []) : R < w.heap.size := block_lt (h hB)
theorem RowB.set {w : World} {R : Nat} {B : List Int} (h : RowB w R B) (k : Nat) (b : Int) : RowB (w.setCell ⟨R, k, none⟩ (.int .u8 b)) R (B.set k b) := by
  intro hn
  have hB : B ≠ [] := by intro e; subst e; simp at hn
  rw [heap_setCell_row (h hB), ← byt_set]
  simp
def frs (R : Nat) (ix : List Nat) : List Value := ix.map fun i => .slice (some ⟨R, 64 * i, none⟩) 64 64
theorem frs_at {R : Nat} {ix : List Nat} {k : Nat} (hk : k < ix.length) : (frs R ix)[k]? = some (.slice (some ⟨R, 64 * ix.getD k 0, none⟩) 64 64) := by simp [frs, hk]
def Ram (w : World) (v : Value) (R : Nat) (ix : List Nat) : Prop :=
  (ix = [] ∧ v = .pointer none) ∨ (ix = [] ∧ ∃ p : Nat, v = .pointer (some ⟨p, 0, none⟩) ∧ w.heap[p]? = some (.cells #[.slice none 0 0] 154 (0, 0)) ∧ p ≠ R) ∨
  ∃ p F : Nat, v = .pointer (some ⟨p, 0, none⟩) ∧ w.heap[p]? = some (.cells #[.slice (some ⟨F, 0, none⟩) ix.length ix.length] 154 (0, 0)) ∧ w.heap[F]? = some (.cells (frs R ix).toArray 22 (0, 0)) ∧ p ≠ R ∧ F ≠ R ∧ ix ≠ []
theorem Ram.put {w w' : World} {v : Value} {R : Nat} {ix : List Nat} (h : Ram w v R ix) (k : Put [R] w w') : Ram w' v R ix := by
  rcases h with h | ⟨h, p, e, hp, n⟩ | ⟨p, F, e, hp, hF, n1, n2, hn⟩
  · exact .inl h
  · exact .inr (.inl ⟨h, p, e, k.keeps hp (by simpa using n), n⟩)
  · exact .inr (.inr ⟨p, F, e, k.keeps hp (by simpa using n1), k.keeps hF (by simpa using n2), n1, n2, hn⟩)
theorem Ram.kep {w w' : World} {v : Value} {R : Nat} {ix : List Nat} (h : Ram w v R ix) (k : Kep w w') : Ram w' v R ix := h.put (Put.of_kep k)
def Off (w : World) (v : Value) (l : List Nat) : Prop := ∀ p : Nat, v = .pointer (some ⟨p, 0, none⟩) → p ∉ l ∧ ∀ F n c, w.cell? ⟨p, 0, none⟩ = some (.slice (some ⟨F, 0, none⟩) n c) → F ∉ l
theorem Ram.off {w w' : World} {v : Value} {R : Nat} {ix l : List Nat} (h : Ram w v R ix) (k : Put l w w') (ho : Off w v l) : Ram w' v R ix := by
  rcases h with h | ⟨h, p, e, hp, n⟩ | ⟨p, F, e, hp, hF, n1, n2, hn⟩
  · exact .inl h
  · exact .inr (.inl ⟨h, p, e, k.keeps hp (ho p e).1, n⟩)
  · exact .inr (.inr ⟨p, F, e, k.keeps hp (ho p e).1, k.keeps hF ((ho p e).2 F _ _ (by rw [cell_of_block hp]; rfl)), n1, n2, hn⟩)
def pos (ix : List Nat) (a : Nat) : Nat := 64 * ix.getD (a / 64) 0 + a % 64
theorem count_any (w : World) (v : Value) (R : Nat) (ix : List Nat) (h : Ram w v R ix) :
    Calls Tryz.prog 66 #[v] w fun e w' => e = .returned (.int .i64 ix.length) ∧ w' = w := by
  rcases h with ⟨rfl, rfl⟩ | ⟨rfl, p, rfl, hp, n⟩ | ⟨p, F, rfl, hp, hF, n1, n2, hn⟩
  · go_enter Tryz.func66, Tryz.ntmps66
    go_wp2
    go_ret
    exact ⟨rfl, rfl⟩
  · have c := cell_of_block (i := 0) hp
    simp at c
    clear hp n
    go_enter Tryz.func66, Tryz.ntmps66
    go_wp2
    go_ret
    exact ⟨rfl, rfl⟩
  · have c := cell_of_block (i := 0) hp
    simp at c
    clear hp hF n1 n2 hn
    go_enter Tryz.func66, Tryz.ntmps66
    go_wp2
    go_ret
    exact ⟨rfl, rfl⟩
theorem msize_any (w : World) (v : Value) (R : Nat) (ix : List Nat) (h : Ram w v R ix) (hix : (ix.length : Int) ≤ 512) :
    Calls Tryz.prog 45 #[v] w fun e w' => e = .returned (.int .u32 (64 * ix.length)) ∧ w' = w := by
  have hc : Hid (∀ w, Ram w v R ix → Calls Tryz.prog 66 #[v] w fun e w' => e = .returned (.int .i64 ix.length) ∧ w' = w) := fun w h => count_any w v R ix h
  have h' : Hid (Ram w v R ix) := h
  clear h
  go_enter Tryz.func45, Tryz.ntmps45
  go_wp2_with (go_at_call 66; refine (hc.out _ h'.out).mono ?_; rintro e w1 ⟨rfl, rfl⟩)
  go_ret
  exact ⟨ret_int (by omega), rfl⟩
theorem hasByte_any (w : World) (v : Value) (R : Nat) (ix : List Nat) (h : Ram w v R ix) (hix : (ix.length : Int) ≤ 512) (a : Nat) (ha : (a : Int) < 4294967296) :
    Calls Tryz.prog 40 #[v, .int .u32 a] w fun e w' => e = .returned (.bool (decide (a < 64 * ix.length))) ∧ w' = w := by
  have hc : Hid (∀ w, Ram w v R ix → Calls Tryz.prog 45 #[v] w fun e w' => e = .returned (.int .u32 (64 * ix.length)) ∧ w' = w) := fun w h => msize_any w v R ix h hix
  have h' : Hid (Ram w v R ix) := h
  clear h
  go_enter Tryz.func40, Tryz.ntmps40
  go_wp2_with (go_at_call 45; refine (hc.out _ h'.out).mono ?_; rintro e w1 ⟨rfl, rfl⟩)
  go_ret
  exact ⟨ret_bool (decide_eq_decide.2 (by omega)), rfl⟩
theorem hasWord_any (w : World) (v : Value) (R : Nat) (ix : List Nat) (h : Ram w v R ix) (hix : (ix.length : Int) ≤ 512) (a : Nat) (ha : (a : Int) < 4294967296) :
    Calls Tryz.prog 120 #[v, .int .u32 a] w fun e w' => e = .returned (.bool (decide (a % 4 = 0) && decide (a < 64 * ix.length))) ∧ w' = w := by
  have hc : Hid (∀ w, Ram w v R ix → Calls Tryz.prog 40 #[v, .int .u32 a] w fun e w' => e = .returned (.bool (decide (a < 64 * ix.length))) ∧ w' = w) := fun w h => hasByte_any w v R ix h hix a ha
  have h' : Hid (Ram w v R ix) := h
  clear h
  by_cases h4 : a % 4 = 0
  · have h5 : ((a : Int) % 4 == 0) = true := by simp; omega
    go_enter Tryz.func120, Tryz.ntmps120
    go_wp2_with (go_at_call 40; refine (hc.out _ h'.out).mono ?_; rintro e w1 ⟨rfl, rfl⟩)
    go_ret
    exact ⟨ret_bool (by simp [h4]), rfl⟩
  · have h5 : ((a : Int) % 4 == 0) = false := by simp; omega
    go_enter Tryz.func120, Tryz.ntmps120
    go_wp2_with (go_at_call 40; refine (hc.out _ h'.out).mono ?_; rintro e w1 ⟨rfl, rfl⟩)
    go_ret
    exact ⟨ret_bool (by simp [h4]), rfl⟩
def fromV (R : Nat) (ix : List Nat) (a : Nat) : Value := .slice (some ⟨R, pos ix a, none⟩) (64 - a % 64) (64 - a % 64)
theorem from_any (w : World) (v : Value) (R : Nat) (ix : List Nat) (h : Ram w v R ix) (hix : (ix.length : Int) ≤ 512) (a : Nat) (ha : a < 64 * ix.length) :
    Calls Tryz.prog 41 #[v, .int .u32 a] w fun e w' => e = .returned (fromV R ix a) ∧ w' = w := by
  rcases h with ⟨rfl, rfl⟩ | ⟨rfl, p, rfl, hp, n⟩ | ⟨p, F, rfl, hp, hF, n1, n2, hn⟩
  · simp at ha
  · simp at ha
  · have c := cell_of_block (i := 0) hp
    simp at c
    have c1 : w.cell? ⟨F, a / 64, none⟩ = some (.slice (some ⟨R, 64 * ix.getD (a / 64) 0, none⟩) 64 64) := by
      rw [cell_of_block hF]
      simp only [List.getElem?_toArray]
      exact frs_at (by omega)
    unfold fromV pos
    generalize ix.getD (a / 64) 0 = j at c1
    clear hp hF n1 n2 hn
    have ha' : (a : Int) < 64 * ix.length := by omega
    generalize ix.length = m at c ha' hix ha
    go_enter Tryz.func41, Tryz.ntmps41
    go_wp2
    go_ret
    refine ⟨?_, rfl⟩
    rfl
theorem spotByte_any (w : World) (v : Value) (R : Nat) (ix : List Nat) (h : Ram w v R ix) (hix : (ix.length : Int) ≤ 512) (a : Nat) (ha : (a : Int) < 4294967296) :
    Calls Tryz.prog 39 #[.int .u32 a, .func (.func 40) #[v] #[], .func (.func 41) #[v] #[]] w fun e w' => e = .returned (.tuple (if a < 64 * ix.length then #[fromV R ix a, .bool true] else #[.slice none 0 0, .bool false])) ∧ w' = w := by
  have hc : Hid (Calls Tryz.prog 40 #[v, .int .u32 a] w fun e w' => e = .returned (.bool (decide (a < 64 * ix.length))) ∧ w' = w) := hasByte_any w v R ix h hix a ha
  by_cases hl : a < 64 * ix.length
  · have hd : Hid (Calls Tryz.prog 41 #[v, .int .u32 a] w fun e w' => e = .returned (fromV R ix a) ∧ w' = w) := from_any w v R ix h hix a hl
    rw [decide_eq_true hl] at hc
    rw [if_pos hl]
    generalize fromV R ix a = fv at hd
    clear h hl ha
    go_enter Tryz.func39, Tryz.ntmps39
    go_wp2_with (first | (go_at_call 40; refine hc.out.mono ?_; rintro e w1 ⟨rfl, rfl⟩) | (go_at_call 41; refine hd.out.mono ?_; rintro e w1 ⟨rfl, rfl⟩))
    go_ret2
    exact ⟨rfl, rfl⟩
  · rw [decide_eq_false hl] at hc
    rw [if_neg hl]
    clear h hl ha
    go_enter Tryz.func39, Tryz.ntmps39
    go_wp2_with (go_at_call 40; refine hc.out.mono ?_; rintro e w1 ⟨rfl, rfl⟩)
    go_ret2
    exact ⟨rfl, rfl⟩
theorem spotWord_any (w : World) (v : Value) (R : Nat) (ix : List Nat) (h : Ram w v R ix) (hix : (ix.length : Int) ≤ 512) (a : Nat) (ha : (a : Int) < 4294967296) :
    Calls Tryz.prog 39 #[.int .u32 a, .func (.func 120) #[v] #[], .func (.func 41) #[v] #[]] w fun e w' => e = .returned (.tuple (if a % 4 = 0 ∧ a < 64 * ix.length then #[fromV R ix a, .bool true] else #[.slice none 0 0, .bool false])) ∧ w' = w := by
  have hc : Hid (Calls Tryz.prog 120 #[v, .int .u32 a] w fun e w' => e = .returned (.bool (decide (a % 4 = 0) && decide (a < 64 * ix.length))) ∧ w' = w) := hasWord_any w v R ix h hix a ha
  have hb : (decide (a % 4 = 0) && decide (a < 64 * ix.length)) = decide (a % 4 = 0 ∧ a < 64 * ix.length) := by simp
  rw [hb] at hc
  by_cases hl : a % 4 = 0 ∧ a < 64 * ix.length
  · have hd : Hid (Calls Tryz.prog 41 #[v, .int .u32 a] w fun e w' => e = .returned (fromV R ix a) ∧ w' = w) := from_any w v R ix h hix a hl.2
    rw [decide_eq_true hl] at hc
    rw [if_pos hl]
    generalize fromV R ix a = fv at hd
    clear h hl ha hb
    go_enter Tryz.func39, Tryz.ntmps39
    go_wp2_with (first | (go_at_call 120; refine hc.out.mono ?_; rintro e w1 ⟨rfl, rfl⟩) | (go_at_call 41; refine hd.out.mono ?_; rintro e w1 ⟨rfl, rfl⟩))
    go_ret2
    exact ⟨rfl, rfl⟩
  · rw [decide_eq_false hl] at hc
    rw [if_neg hl]
    clear h hl ha hb
    go_enter Tryz.func39, Tryz.ntmps39
    go_wp2_with (go_at_call 120; refine hc.out.mono ?_; rintro e w1 ⟨rfl, rfl⟩)
    go_ret2
    exact ⟨rfl, rfl⟩
def Fits (B : List Int) (ix : List Nat) : Prop := ∀ i ∈ ix, 64 * i + 64 ≤ B.length
theorem Fits.pos {B : List Int} {ix : List Nat} (h : Fits B ix) {a : Nat} (ha : a < 64 * ix.length) : pos ix a - a % 64 + 64 ≤ B.length ∧ pos ix a < B.length := by
  have hk : a / 64 < ix.length := by omega
  have := h (ix.getD (a / 64) 0) (by simp [List.getD, hk])
  unfold Proofs.YtamffningddgbaaGreatDoor.pos
  omega
theorem Fits.len {B C : List Int} {ix : List Nat} (h : Fits B ix) (e : C.length = B.length) : Fits C ix := fun i hi => by rw [e]; exact h i hi
theorem byte_any (w : World) (v : Value) (R : Nat) (ix : List Nat) (B : List Int) (h : Ram w v R ix) (hix : (ix.length : Int) ≤ 512) (hB : RowB w R B) (hf : Fits B ix) (a : Nat) (ha : (a : Int) < 4294967296) :
    Calls Tryz.prog 49 #[v, .int .u32 a] w fun e w' => e = .returned (.tuple (if a < 64 * ix.length then #[.int .u8 (B.getD (pos ix a) 0), .bool true] else #[.int .u8 0, .bool false])) ∧ w' = w := by
  have hc := spotByte_any w v R ix h hix a ha
  have hmf : ∀ (fn : Fn) (first cap : Array Value) (w : World), (Instr.makeFunc fn first cap).run Tryz.prog w = .ok (.func fn first cap) w := fun _ _ _ _ => rfl
  by_cases hl : a < 64 * ix.length
  · rw [if_pos hl] at hc ⊢
    have hp := hf.pos hl
    have c := hB.cell hp.2
    unfold fromV at hc
    generalize B.getD (pos ix a) 0 = b at c
    generalize pos ix a = q at c hc
    have hs : Hid (Calls Tryz.prog 39 #[.int .u32 a, .func (.func 40) #[v] #[], .func (.func 41) #[v] #[]] w fun e w' => e = .returned (.tuple #[.slice (some ⟨R, q, none⟩) (64 - a % 64) (64 - a % 64), .bool true]) ∧ w' = w) := hc
    clear hc h hl hp hf hB ha hix
    have hm : 1 ≤ 64 - a % 64 := by omega
    generalize 64 - a % 64 = m at hm hs
    go_enter Tryz.func49, Tryz.ntmps49
    go_wp2_with (go_at_call 39; refine hs.out.mono ?_; rintro e w1 ⟨rfl, rfl⟩)
    go_ret2
    exact ⟨rfl, rfl⟩
  · rw [if_neg hl] at hc ⊢
    have hs : Hid (Calls Tryz.prog 39 #[.int .u32 a, .func (.func 40) #[v] #[], .func (.func 41) #[v] #[]] w fun e w' => e = .returned (.tuple #[.slice none 0 0, .bool false]) ∧ w' = w) := hc
    clear hc h hl hf hB ha hix
    go_enter Tryz.func49, Tryz.ntmps49
    go_wp2_with (go_at_call 39; refine hs.out.mono ?_; rintro e w1 ⟨rfl, rfl⟩)
    go_ret2
    exact ⟨rfl, rfl⟩
def Byts (B : List Int) : Prop := ∀ b ∈ B, 0 ≤ b ∧ b < 256
theorem Byts.at {B : List Int} (h : Byts B) (k : Nat) : 0 ≤ B.getD k 0 ∧ B.getD k 0 < 256 := by
  rcases Nat.lt_or_ge k B.length with hk | hk
  · have : B.getD k 0 = B[k] := by simp [List.getD, hk]
    rw [this]; exact h _ (List.getElem_mem hk)
  · have : B.getD k 0 = 0 := by simp [List.getD, hk]
    rw [this]; omega
def wordI (b0 b1 b2 b3 : Int) : Int := b0 + 256 * b1 + 65536 * b2 + 16777216 * b3
def wordAt (B : List Int) (q : Nat) : Int := wordI (B.getD q 0) (B.getD (q + 1) 0) (B.getD (q + 2) 0) (B.getD (q + 3) 0)
theorem or32_comm (x y : Int) : bits .or .u32 x y = bits .or .u32 y x := by simp only [bits, BitVec.or_comm]
theorem join32 (raw z : Int) (k : Nat) (hk : k ≤ 3) (h0 : 0 ≤ raw) (h1 : raw < 2 ^ (8 * k)) (z0 : 0 ≤ z) (z1 : z < 256) : bits .or .u32 raw (z * 2 ^ (8 * k)) = raw + z * 2 ^ (8 * k) := by
  rw [or32_comm, bits_join .u32 32 (by decide) (by intro n h₀ h₁; rw [IntKind.wrap_u32]; omega) (8 * k) (z * 2 ^ (8 * k)) raw]
  · omega
  · exact Int.mul_nonneg z0 (Int.le_of_lt (Int.pow_pos (by decide)))
  · exact Int.mul_emod_left _ _
  · rcases (by omega : k = 0 ∨ k = 1 ∨ k = 2 ∨ k = 3) with rfl | rfl | rfl | rfl <;> simp <;> omega
  · exact h0
  · exact h1
  · rcases (by omega : k = 0 ∨ k = 1 ∨ k = 2 ∨ k = 3) with rfl | rfl | rfl | rfl <;> simp at h1 ⊢ <;> omega
theorem or4 (b0 b1 b2 b3 : Int) (h0 : 0 ≤ b0 ∧ b0 < 256) (h1 : 0 ≤ b1 ∧ b1 < 256) (h2 : 0 ≤ b2 ∧ b2 < 256) (h3 : 0 ≤ b3 ∧ b3 < 256) :
    bits .or .u32 (bits .or .u32 (bits .or .u32 (bits .or .u32 0 (b0 % 4294967296)) (b1 % 4294967296 * 256 % 4294967296)) (b2 % 4294967296 * 65536 % 4294967296)) (b3 % 4294967296 * 16777216 % 4294967296) = wordI b0 b1 b2 b3 := by
  have e0 : b0 % 4294967296 = b0 * 2 ^ (8 * 0) := by simp; omega
  have e1 : b1 % 4294967296 * 256 % 4294967296 = b1 * 2 ^ (8 * 1) := by simp; omega
  have e2 : b2 % 4294967296 * 65536 % 4294967296 = b2 * 2 ^ (8 * 2) := by simp; omega
  have e3 : b3 % 4294967296 * 16777216 % 4294967296 = b3 * 2 ^ (8 * 3) := by simp; omega
  rw [e0, e1, e2, e3, join32 0 b0 0 (by decide) (by decide) (by decide) h0.1 h0.2, join32 _ b1 1 (by decide) (by simp; omega) (by simp; omega) h1.1 h1.2,
    join32 _ b2 2 (by decide) (by simp; omega) (by simp; omega) h2.1 h2.2, join32 _ b3 3 (by decide) (by simp; omega) (by simp; omega) h3.1 h3.2]
  unfold wordI
  simp
  omega
theorem word_any (w : World) (v : Value) (R : Nat) (ix : List Nat) (B : List Int) (h : Ram w v R ix) (hix : (ix.length : Int) ≤ 512) (hB : RowB w R B) (hf : Fits B ix) (hb : Byts B) (a : Nat) (ha : (a : Int) < 4294967296) :
    Calls Tryz.prog 91 #[v, .int .u32 a] w fun e w' => e = .returned (.tuple (if a % 4 = 0 ∧ a < 64 * ix.length then #[.int .u32 (wordAt B (pos ix a)), .bool true] else #[.int .u32 0, .bool false])) ∧ w' = w := by
  have hc := spotWord_any w v R ix h hix a ha
  have hmf : ∀ (fn : Fn) (first cap : Array Value) (w : World), (Instr.makeFunc fn first cap).run Tryz.prog w = .ok (.func fn first cap) w := fun _ _ _ _ => rfl
  by_cases hl : a % 4 = 0 ∧ a < 64 * ix.length
  · rw [if_pos hl] at hc ⊢
    have hp := hf.pos hl.2
    have c0 := hB.cell (k := pos ix a) hp.2
    have c1 := hB.cell (k := pos ix a + 1) (by unfold pos at hp ⊢; omega)
    have c2 := hB.cell (k := pos ix a + 2) (by unfold pos at hp ⊢; omega)
    have c3 := hB.cell (k := pos ix a + 3) (by unfold pos at hp ⊢; omega)
    unfold fromV at hc
    unfold wordAt
    have H := or4 _ _ _ _ (hb.at (pos ix a)) (hb.at (pos ix a + 1)) (hb.at (pos ix a + 2)) (hb.at (pos ix a + 3))
    generalize B.getD (pos ix a) 0 = b0 at c0 H
    generalize B.getD (pos ix a + 1) 0 = b1 at c1 H
    generalize B.getD (pos ix a + 2) 0 = b2 at c2 H
    generalize B.getD (pos ix a + 3) 0 = b3 at c3 H
    generalize pos ix a = q at c0 c1 c2 c3 hc
    have H' : Hid (_ = _) := H
    have hs : Hid (Calls Tryz.prog 39 #[.int .u32 a, .func (.func 120) #[v] #[], .func (.func 41) #[v] #[]] w fun e w' => e = .returned (.tuple #[.slice (some ⟨R, q, none⟩) (64 - a % 64) (64 - a % 64), .bool true]) ∧ w' = w) := hc
    have hm : (4 : Int) ≤ (64 - a % 64 : Nat) := by omega
    clear hc h hl hp hf hB ha hix hb H
    generalize 64 - a % 64 = m at hm hs
    go_enter Tryz.func91, Tryz.ntmps91
    go_wp2_with (go_at_call 39; refine hs.out.mono ?_; rintro e w1 ⟨rfl, rfl⟩)
    go_rounds 5
    go_ret2
    exact ⟨by rw [← H'.out]; rfl, rfl⟩
  · rw [if_neg hl] at hc ⊢
    have hs : Hid (Calls Tryz.prog 39 #[.int .u32 a, .func (.func 120) #[v] #[], .func (.func 41) #[v] #[]] w fun e w' => e = .returned (.tuple #[.slice none 0 0, .bool false]) ∧ w' = w) := hc
    clear hc h hl hf hB ha hix hb
    go_enter Tryz.func91, Tryz.ntmps91
    go_wp2_with (go_at_call 39; refine hs.out.mono ?_; rintro e w1 ⟨rfl, rfl⟩)
    go_ret2
    exact ⟨rfl, rfl⟩
def sLo (k : Nat) : Int := [0, 16, 32, 33, 48, 56, 58, 64, 73, 80, 96, 98, 112, 113].getD k 0
def sHi (k : Nat) : Int := [3, 31, 32, 33, 55, 57, 58, 72, 74, 80, 97, 101, 112, 113].getD k 0
def sRow (k : Nat) : Nat := [1, 3, 9, 5, 6, 2, 3, 7, 2, 4, 2, 3, 4, 8].getD k 0
def sHost (k : Nat) : Bool := [false, false, false, false, false, false, false, false, false, false, false, false, true, true].getD k false
def f0 (r : Nat) : Int := [0, 1, 1, 1, 1, 1, 1, 1, 1, 1].getD r 0
def f1 (r : Nat) : Int := [0, 0, 7, 7, 0, 7, 7, 0, 0, 7].getD r 0
def f2 (r : Nat) : Int := [0, 0, 0, 7, 0, 0, 7, 0, 0, 0].getD r 0
def f3 (r : Nat) : Int := [0, 0, 0, 0, 1, 1, 1, 2, 2, 4].getD r 0
def f4 (r : Nat) : Int := [0, 0, 0, 0, 0, 1, 1, 1, 0, 1].getD r 0
def spanA (k : Nat) : Array Value := #[.int .u8 (sLo k), .int .u8 (sHi k), .int .u8 (sRow k), .bool (sHost k)]
def formA (r : Nat) : Array Value := #[.int .u8 (f0 r), .int .u8 (f1 r), .int .u8 (f2 r), .int .u8 (f3 r), .int .u8 (f4 r)]
def spansC : Array Value := ((List.range 14).flatMap fun k => (spanA k).toList).toArray
def formsC : Array Value := ((List.range 10).flatMap fun r => (formA r).toList).toArray
def Tabs (w : World) : Prop := (∃ t, w.heap[0]? = some (.cells formsC t (0, 0))) ∧ ∃ t, w.heap[1]? = some (.cells spansC t (0, 0))
theorem Tabs.grown {w w' : World} (h : Tabs w) (g : Kep w w') : Tabs w' := by
  obtain ⟨⟨t, h0⟩, t1, h1⟩ := h
  exact ⟨⟨t, g.block h0⟩, t1, g.block h1⟩
theorem formsC_at (r j : Nat) (hr : r < 10) (hj : j < 5) : formsC[r * 5 + j]? = (formA r)[j]? := by
  have h : ∀ r, r < 10 → ∀ j, j < 5 → formsC[r * 5 + j]? = (formA r)[j]? := by
    intro r hr j hj
    rcases (by omega : r = 0 ∨ r = 1 ∨ r = 2 ∨ r = 3 ∨ r = 4 ∨ r = 5 ∨ r = 6 ∨ r = 7 ∨ r = 8 ∨ r = 9) with rfl | rfl | rfl | rfl | rfl | rfl | rfl | rfl | rfl | rfl <;>
      rcases (by omega : j = 0 ∨ j = 1 ∨ j = 2 ∨ j = 3 ∨ j = 4) with rfl | rfl | rfl | rfl | rfl <;> rfl
  exact h r hr j hj
theorem Tabs.form {w : World} (h : Tabs w) (r : Nat) (hr : r < 10) : w.cell? ⟨0, r * 5, none⟩ = some (.int .u8 (f0 r)) ∧ w.cell? ⟨0, r * 5 + 1, none⟩ = some (.int .u8 (f1 r)) ∧
    w.cell? ⟨0, r * 5 + 2, none⟩ = some (.int .u8 (f2 r)) ∧ w.cell? ⟨0, r * 5 + 3, none⟩ = some (.int .u8 (f3 r)) ∧ w.cell? ⟨0, r * 5 + 4, none⟩ = some (.int .u8 (f4 r)) := by
  obtain ⟨⟨t, h0⟩, _⟩ := h
  refine ⟨?_, ?_, ?_, ?_, ?_⟩
  · rw [cell_of_block h0]; exact formsC_at r 0 hr (by decide)
  · rw [cell_of_block h0]; exact formsC_at r 1 hr (by decide)
  · rw [cell_of_block h0]; exact formsC_at r 2 hr (by decide)
  · rw [cell_of_block h0]; exact formsC_at r 3 hr (by decide)
  · rw [cell_of_block h0]; exact formsC_at r 4 hr (by decide)
theorem tabs_size {w : World} (h : Tabs w) : 0 < w.heap.size ∧ 1 < w.heap.size := by
  obtain ⟨⟨t, h0⟩, t1, h1⟩ := h
  have a : 0 < w.heap.size := by
    rcases Nat.lt_or_ge 0 w.heap.size with h | h
    · exact h
    · rw [Array.getElem?_eq_none h] at h0; cases h0
  have b : 1 < w.heap.size := by
    rcases Nat.lt_or_ge 1 w.heap.size with h | h
    · exact h
    · rw [Array.getElem?_eq_none h] at h1; cases h1
  omega
theorem sRow_lt : ∀ k, k < 14 → sRow k < 10 := by decide
def matchB (k : Nat) (op : Int) (host : Bool) : Bool := (decide (sLo k ≤ op) && decide (op ≤ sHi k)) && (host || !sHost k)
def rowOf (op : Int) (host : Bool) : Nat :=
  if op = 0 ∨ op = 1 ∨ op = 2 ∨ op = 3 then 1 else
  if (16 ≤ op ∧ op ≤ 31) ∨ op = 58 ∨ op = 98 ∨ op = 99 ∨ op = 100 ∨ op = 101 then 3 else
  if op = 73 ∨ op = 74 ∨ op = 56 ∨ op = 57 ∨ op = 96 ∨ op = 97 then 2 else
  if op = 80 ∨ (op = 112 ∧ host = true) then 4 else
  if op = 33 then 5 else
  if 48 ≤ op ∧ op ≤ 55 then 6 else
  if 64 ≤ op ∧ op ≤ 72 then 7 else
  if op = 113 ∧ host = true then 8 else
  if op = 32 then 9 else 0
theorem rowOf_lt (op : Int) (host : Bool) : rowOf op host < 10 := by unfold rowOf; (repeat' split) <;> decide
theorem row_hit_all : ∀ n : Nat, n < 256 → ∀ host : Bool, ∀ k : Nat, k < 14 → matchB k n host = true → rowOf n host = sRow k := by decide +kernel
theorem row_miss_all : ∀ n : Nat, n < 256 → ∀ host : Bool, (∀ k : Nat, k < 14 → matchB k n host = false) → rowOf n host = 0 := by decide +kernel
theorem row_hit (op : Int) (h0 : 0 ≤ op) (h1 : op < 256) (host : Bool) (k : Nat) (hk : k < 14) (h : matchB k op host = true) : rowOf op host = sRow k := by
  obtain ⟨n, rfl⟩ : ∃ n : Nat, op = n := ⟨op.toNat, by omega⟩
  exact row_hit_all n (by omega) host k hk h
theorem row_miss (op : Int) (h0 : 0 ≤ op) (h1 : op < 256) (host : Bool) (h : ∀ k : Nat, k < 14 → matchB k op host = false) : rowOf op host = 0 := by
  obtain ⟨n, rfl⟩ : ∃ n : Nat, op = n := ⟨op.toNat, by omega⟩
  exact row_miss_all n (by omega) host h
end Go.Proofs.YtamffningddgbaaGreatDoor
