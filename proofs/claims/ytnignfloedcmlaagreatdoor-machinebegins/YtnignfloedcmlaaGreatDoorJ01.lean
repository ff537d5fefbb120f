/- Part of a proof. -/
import Derived.Test.YtnignfloedcmlaaGreatDoorChecked
import Derived.WalkKit
import Derived.Handy
import Derived.OpenShut
import Derived.LaidLaws
import Derived.MakeChecks
import Derived.Deep.QuietTactic
import Derived.BigQuiet
import Derived.Laws.IdiomCopy
namespace Go.Proofs.YtnignfloedcmlaaGreatDoor
open Go.RowKit
set_option linter.unusedVariables false
set_option linter.unusedSimpArgs false
theorem jA {α : Type _} {xs : List α} {i : Nat} (h : i < xs.toArray.size) : xs.toArray[i] = xs[i]'(by simpa using h) := List.getElem_toArray h
theorem jB {α : Type _} {a : α} {l : List α} {h : 0 < (a :: l).length} : (a :: l)[0] = a := rfl
theorem jC {α : Type _} {a : α} {l : List α} {i : Nat} {h : i + 1 < (a :: l).length} : (a :: l)[i + 1] = l[i]'(Nat.lt_of_succ_lt_succ h) := rfl
theorem jD {α : Type _} {l : List α} {i : Nat} {a : α} : l.toArray.setIfInBounds i a = (l.set i a).toArray := List.setIfInBounds_toArray ..
theorem jE {α : Type _} {x : α} {xs : List α} {a : α} : (x :: xs).set 0 a = a :: xs := rfl
theorem jF {α : Type _} {x : α} {xs : List α} {i : Nat} {a : α} : (x :: xs).set (i + 1) a = x :: xs.set i a := rfl
abbrev z19 : Array Value := #[.int .u32 0, .int .u32 0, .int .u32 0, .int .u32 0, .int .u32 0, .int .u32 0, .int .u32 0, .int .u32 0, .int .u32 0, .int .u32 0, .int .u32 0, .int .u32 0, .int .u32 0, .int .u32 0, .int .u32 0, .int .u32 0, .int .u32 0, .int .u32 0, .bool false]
def flatN {H : Type} : Nat → DataW H → List Value
  | 0, _ => []
  | n + 1, d => match d with
    | .lit (.int k z) => [.int k z]
    | .lit (.bool b) => [.bool b]
    | .agg ds => ds.flatMap (flatN n)
    | _ => []
def contig {α : Type} (off size : α → Nat) : List α → Nat → Nat → Bool
  | [], o, e => o == e
  | a :: r, o, e => off a == o && contig off size r (o + size a) e
theorem pieces {H α : Type} (g : DataW H → List Value) (off size : α → Nat) (f : α → Option (DataW H × List MemPlace)) (cs : List Value) : ∀ (l : List α) (xs : List (DataW H × List MemPlace)) (o : Nat),
    (∀ a ∈ l, ∀ x, f a = some x → (cs.drop (off a)).take (size a) = g x.1) → contig off size l o cs.length = true → l.mapM f = some xs → cs.drop o = (xs.map (·.1)).flatMap g
  | [], xs, o, _, hc, hm => by
    simp only [contig, beq_iff_eq] at hc
    simp only [List.mapM_nil, Option.pure_def, Option.some.injEq] at hm
    subst hm; subst hc
    simp
  | a :: l, xs, o, hf, hc, hm => by
    simp only [contig, Bool.and_eq_true, beq_iff_eq] at hc
    simp only [List.mapM_cons, Option.bind_eq_bind, Option.bind_eq_some_iff, Option.pure_def, Option.some.injEq] at hm
    obtain ⟨b, hb, r', hr', rfl⟩ := hm
    have h1 := hf a (by simp) b hb
    have h2 := pieces g off size f cs l r' _ (fun x hx => hf x (by simp [hx])) hc.2 hr'
    rw [hc.1] at h1
    simp only [List.map_cons, List.flatMap_cons]
    rw [← h1, ← h2, ← List.drop_drop]
    exact (List.take_append_drop _ _).symm
def layoutB (P : Program) : Nat → TypeId → Bool
  | 0, _ => false
  | n + 1, t => match P.underlying t with
    | some .bool => true
    | some (.int _) => true
    | some (.struct fs) => contig (fun f : Field => f.offset) (fun f => P.cellsOf f.type) fs.toList 0 (P.cellsOf t) && fs.toList.all fun f => layoutB P n f.type
    | some (.array m e) => contig (fun i => i * P.cellsOf e) (fun _ => P.cellsOf e) (List.range m) 0 (P.cellsOf t) && layoutB P n e
    | _ => false
theorem cells_of_flat {H : Type} {enc : TypeId × Value → H} {P : Program} {w : World} {base : Nat} {sp : Nat → Bool} {held : Bool} : ∀ (n : Nat) {t : TypeId} {fuel : Nat} {cs : List Value} {x : DataW H × List MemPlace},
    layoutB P n t = true → DataW.trod enc P w base sp held fuel t cs = some x → cs = flatN n x.1
  | 0, t, fuel, cs, x, hl, h => by simp [layoutB] at hl
  | n + 1, t, fuel, cs, x, hl, h => by
    unfold layoutB at hl
    split at hl
    · rename_i hu
      obtain ⟨b, rfl, rfl⟩ := DataW.trod_bool hu h
      rfl
    · rename_i k hu
      obtain ⟨b, rfl, rfl, _⟩ := DataW.trod_int hu h
      rfl
    · rename_i fs hu
      simp only [Bool.and_eq_true, List.all_eq_true] at hl
      cases fuel with
      | zero => simp [DataW.trod] at h
      | succ fuel =>
        simp only [DataW.trod, hu] at h
        split at h
        · rename_i hlen
          obtain ⟨xs, hm, rfl⟩ := Option.map_eq_some_iff.1 h
          have := pieces (flatN n) (fun f : Field => f.offset) (fun f => P.cellsOf f.type) _ cs fs.toList xs 0 (fun f hf y hy => cells_of_flat n (hl.2 f hf) hy) (by rw [hlen]; exact hl.1) hm
          simpa [flatN] using this
        · cases h
    · rename_i m e hu
      simp only [Bool.and_eq_true] at hl
      cases fuel with
      | zero => simp [DataW.trod] at h
      | succ fuel =>
        simp only [DataW.trod, hu] at h
        split at h
        · rename_i hlen
          obtain ⟨xs, hm, rfl⟩ := Option.map_eq_some_iff.1 h
          have := pieces (flatN n) (fun i => i * P.cellsOf e) (fun _ => P.cellsOf e) _ cs (List.range m) xs 0 (fun i _ y hy => cells_of_flat n hl.2 hy) (by rw [hlen]; exact hl.1) hm
          simpa [flatN] using this
        · cases h
    · cases hl
theorem laid_block {P : Program} {W : World} {name : String} {d : DataW Unit} {rest : List (String × DataW Unit)} {g : Nat} {t : TypeId} (n : Nat) (cs : Array Value)
    (hg : P.globalNamed name = some g) (hty : (P.globals[g]?).map (·.type) = some t) (hl : layoutB P n t = true) (hf : flatN n d = cs.toList) (hne : 0 < cs.size)
    (h : laidMet P ((name, d) :: rest) W) : ∃ t', W.heap[g]? = some (.cells cs t' (0, 0)) := by
  obtain ⟨ps, ⟨g', t', c, fuel, p, q, hg', ht', hvar, hd, _, rfl⟩, _, hz⟩ := h
  obtain rfl := Option.some.inj (hg.symm.trans hg')
  obtain rfl := Option.some.inj (hty.symm.trans ht')
  have hc := cells_of_flat n hl hd
  simp only at hc
  rw [hf] at hc
  have hc' : c = cs := Array.toList_inj.1 hc
  subst hc'
  simp only [World.var?, hg, Option.bind_some] at hvar
  split at hvar
  · rename_i c1 t1 f1 hh
    obtain rfl := Option.some.inj hvar
    obtain ⟨⟨c2, t2, h2⟩, _⟩ := hz g 0 (by simp [MemPlace.row]; exact Or.inl hne)
    rw [hh] at h2
    simp only [Option.some.injEq, Obj.cells.injEq] at h2
    exact ⟨t1, by rw [hh, h2.2.2]⟩
  · cases hvar
theorem laid_rest {P : Program} {W : World} {x : String × DataW Unit} {rest : List (String × DataW Unit)} (h : laidMet P (x :: rest) W) : laidMet P rest W := by
  obtain ⟨ps, ⟨g', t', c, fuel, p, q, hg', ht', hvar, hd, hr, rfl⟩, hn, hz⟩ := h
  exact ⟨q, hr, (List.nodup_append.1 hn).2.1, fun b off hm => hz b off (List.mem_append_right _ hm)⟩
def Kep (W w' : World) : Prop := Below W.heap.size W w'
theorem Kep.refl (w : World) : Kep w w := Below.refl _ _
theorem Kep.size {W w' : World} (h : Kep W w') : W.heap.size ≤ w'.heap.size := Below.size h
theorem kep_trans {a b c : World} (h : Kep a b) (k : Kep b c) : Kep a c := Below.trans h (Below.mono k h.size)
theorem Kep.alloc {W w' : World} (h : Kep W w') (o : Obj) : Kep W (w'.alloc o) := Below.alloc h h.size o
theorem Kep.drew {W w' : World} (h : Kep W w') : Kep W w'.drew := Below.drew h
theorem Kep.setCell {W w' : World} (h : Kep W w') {a : Addr} (ha : W.heap.size ≤ a.block) (v : Value) : Kep W (w'.setCell a v) := Below.setCell h ha v
theorem Kep.setRow {W w' : World} (h : Kep W w') (g : Nat) (cs : Array Value) (hg : W.heap.size ≤ g) : Kep W (w'.setRow g cs) :=
  have h' : Below W.heap.size W w' := h
  ⟨h'.os, h'.tape, h'.output, by have := h'.size; simpa using this, fun k hk => (setRow_other w' g k cs (by omega)).trans (h'.block k hk)⟩
theorem Kep.drewN {W w' : World} (h : Kep W w') (n : Nat) : Kep W (w'.drewN n) :=
  have h' : Below W.heap.size W w' := h
  ⟨h'.os, h'.tape, h'.output, h'.size, fun k hk => h'.block k hk⟩
theorem Kep.by {W w w' : World} {row : Option Nat} (h : Kep W w) (hg : w.grownBy w' row) (hr : ∀ k, row = some k → W.heap.size ≤ k) : Kep W w' := Below.grown h hg h.size hr
theorem Kep.lt {W w' : World} (h : Kep W w') {b : Nat} (hb : b < W.heap.size) : b < w'.heap.size := Nat.lt_of_lt_of_le hb h.size
theorem Kep.cell {W w' : World} (h : Kep W w') {b o : Nat} (hb : b < W.heap.size) : w'.cell? ⟨b, o, none⟩ = W.cell? ⟨b, o, none⟩ := Below.cell h (p := ⟨b, o, none⟩) hb
theorem Kep.block {W w' : World} (h : Kep W w') {b : Nat} {x : Obj} (hb : W.heap[b]? = some x) : w'.heap[b]? = some x := by
  have hlt : b < W.heap.size := by
    rcases Nat.lt_or_ge b W.heap.size with h | h
    · exact h
    · rw [Array.getElem?_eq_none h] at hb; cases hb
  exact (Below.block h b hlt).trans hb
theorem cell_of_block {w : World} {b i : Nat} {cs : Array Value} {t : TypeId} {fr : Nat × Nat} (h : w.heap[b]? = some (.cells cs t fr)) : w.cell? ⟨b, i, none⟩ = cs[i]? := by
  simp [World.cell?, h]
theorem cell_old {w : World} {o : Obj} {b i : Nat} (h : b < w.heap.size) : (w.alloc o).cell? ⟨b, i, none⟩ = w.cell? ⟨b, i, none⟩ := by simp only [World.cell?, World.alloc, Array.getElem?_push_lt h, Array.getElem?_eq_getElem h]
theorem ret_int {k : IntKind} {a b : Int} (h : a = b) : Ending.returned (.int k a) = .returned (.int k b) := by rw [h]
theorem ret_bool {a b : Bool} (h : a = b) : Ending.returned (.bool a) = .returned (.bool b) := by rw [h]
structure Put (l : List Nat) (w w' : World) : Prop where
  os : w'.os = w.os
  tape : w'.tape = w.tape
  output : w'.output = w.output
  size : w.heap.size ≤ w'.heap.size
  block : ∀ k, k < w.heap.size → k ∉ l → w'.heap[k]? = w.heap[k]?
theorem Put.refl {l : List Nat} (w : World) : Put l w w := ⟨rfl, rfl, rfl, Nat.le_refl _, fun _ _ _ => rfl⟩
theorem Put.trans {l : List Nat} {a b c : World} (h : Put l a b) (k : Put l b c) : Put l a c :=
  ⟨k.os.trans h.os, k.tape.trans h.tape, k.output.trans h.output, Nat.le_trans h.size k.size, fun i hi h1 => (k.block i (Nat.lt_of_lt_of_le hi h.size) h1).trans (h.block i hi h1)⟩
theorem Put.mono {l m : List Nat} {a b : World} (h : Put l a b) (hl : ∀ k ∈ l, k ∈ m) : Put m a b := ⟨h.os, h.tape, h.output, h.size, fun k hk h1 => h.block k hk fun h2 => h1 (hl k h2)⟩
theorem Put.less {l m : List Nat} {a b : World} (h : Put l a b) (hl : ∀ k ∈ l, k < a.heap.size → k ∈ m) : Put m a b := ⟨h.os, h.tape, h.output, h.size, fun k hk h1 => h.block k hk fun h2 => h1 (hl k h2 hk)⟩
theorem Put.of_kep {l : List Nat} {a b : World} (h : Kep a b) : Put l a b :=
  have h' : Below a.heap.size a b := h
  ⟨h'.os, h'.tape, h'.output, h'.size, fun k hk _ => h'.block k hk⟩
theorem Kep.put {l : List Nat} {W w w' : World} (h : Kep W w) (k : Put l w w') (hl : ∀ b ∈ l, W.heap.size ≤ b) : Kep W w' :=
  have h' : Below W.heap.size W w := h
  ⟨k.os.trans h'.os, k.tape.trans h'.tape, k.output.trans h'.output, Nat.le_trans h'.size k.size, fun i hi => (k.block i (Nat.lt_of_lt_of_le hi h'.size) (fun hm => by have := hl i hm; omega)).trans (h'.block i hi)⟩
theorem Put.drew {l : List Nat} {a b : World} (h : Put l a b) : Put l a b.drew := ⟨h.os, h.tape, h.output, h.size, h.block⟩
theorem Put.drewN {l : List Nat} {a b : World} (h : Put l a b) (n : Nat) : Put l a (b.drewN n) := ⟨h.os, h.tape, h.output, h.size, h.block⟩
theorem Put.setCell {l : List Nat} {a b : World} (h : Put l a b) {p : Addr} (hp : p.block ∈ l) (v : Value) : Put l a (b.setCell p v) := by
  refine ⟨h.os, h.tape, h.output, by simpa using h.size, fun k hk h1 => ?_⟩
  rw [heap_setCell_other _ _ _ _ (by intro e; exact h1 (e ▸ hp))]
  exact h.block k hk h1
theorem Put.setRow {l : List Nat} {a b : World} (h : Put l a b) {g : Nat} (hp : g ∈ l) (cs : Array Value) : Put l a (b.setRow g cs) := by
  refine ⟨h.os, h.tape, h.output, by simpa [World.setRow] using h.size, fun k hk h1 => ?_⟩
  rw [setRow_other _ _ _ _ (by intro e; exact h1 (e ▸ hp))]
  exact h.block k hk h1
theorem Put.keeps {l : List Nat} {a b : World} (h : Put l a b) {k : Nat} {x : Obj} (hx : a.heap[k]? = some x) (hk : k ∉ l) : b.heap[k]? = some x := by
  have hlt : k < a.heap.size := by
    rcases Nat.lt_or_ge k a.heap.size with h | h
    · exact h
    · rw [Array.getElem?_eq_none h] at hx; cases hx
  exact (h.block k hlt hk).trans hx
theorem block_lt {w : World} {b : Nat} {x : Obj} (h : w.heap[b]? = some x) : b < w.heap.size := by
  rcases Nat.lt_or_ge b w.heap.size with h' | h'
  · exact h'
  · rw [Array.getElem?_eq_none h'] at h; cases h
theorem Put.cell {l : List Nat} {a b : World} (h : Put l a b) {k o : Nat} (hk : k < a.heap.size) (hl : k ∉ l) : b.cell? ⟨k, o, none⟩ = a.cell? ⟨k, o, none⟩ := by
  simp only [World.cell?, h.block k hk hl]
theorem heap_setCell_row {w : World} {R k : Nat} {cs : Array Value} {t : TypeId} (h : w.heap[R]? = some (.cells cs t (0, 0))) (v : Value) : (w.setCell ⟨R, k, none⟩ v).heap[R]? = some (.cells (cs.setIfInBounds k v) t (0, 0)) := by
  simp [World.setCell, Array.getElem?_modify, h]
theorem hat (W : World) (o : Obj) (n : Nat) (h : n = W.heap.size) : (W.alloc o).heap[n]? = some o := by subst h; exact heap_alloc_new W o
theorem hsk (W : World) (o : Obj) (n : Nat) (h : n < W.heap.size) : (W.alloc o).heap[n]? = W.heap[n]? := by simp only [World.alloc, Array.getElem?_push_lt h, Array.getElem?_eq_getElem h]
theorem Put.alloc {l : List Nat} {a b : World} (h : Put l a b) (o : Obj) : Put l a (b.alloc o) :=
  h.trans (Put.of_kep ((Kep.refl _).alloc o))
theorem heap_setCells_row {R : Nat} {t : TypeId} : ∀ (vs : List Value) (o : Nat) (w : World) (l : List Value), w.heap[R]? = some (.cells l.toArray t (0, 0)) → o + vs.length ≤ l.length →
    (w.setCells R o vs).heap[R]? = some (.cells (l.take o ++ vs ++ l.drop (o + vs.length)).toArray t (0, 0))
  | [], o, w, l, h, hl => by simpa [World.setCells] using h
  | v :: r, o, w, l, h, hl => by
    simp only [List.length_cons] at hl
    have h1 : (w.setCell ⟨R, o, none⟩ v).heap[R]? = some (.cells (l.set o v).toArray t (0, 0)) := by rw [heap_setCell_row h]; simp
    rw [World.setCells, heap_setCells_row r (o + 1) _ _ h1 (by simp; omega)]
    have e1 : (l.set o v).take (o + 1) = l.take o ++ [v] := by
      rw [List.take_add_one, List.take_set_of_le (by omega)]
      simp [show o < l.length by omega]
    have e2 : (l.set o v).drop (o + 1 + r.length) = l.drop (o + 1 + r.length) := by rw [List.drop_set_of_lt (by omega)]
    rw [e1, e2]
    have e3 : o + (v :: r).length = o + 1 + r.length := by simp; omega
    rw [e3]
    simp
theorem Put.setCells {l : List Nat} {g : Nat} {a : World} (hp : g ∈ l) : ∀ (vs : List Value) (o : Nat) (b : World), Put l a b → Put l a (b.setCells g o vs)
  | [], _, _, h => h
  | v :: r, o, b, h => Put.setCells hp r (o + 1) _ (h.setCell hp v)
theorem results1 {P : Program} {fn : Func} {p : Tmp} {ty : TypeId} (h : fn.results = #[.cell p ty]) (tmps : Array Value) (w : World) (g : Nat) (t : TypeId) (cs : Array Value) (fr : Nat × Nat) (d : TypeDesc)
    (hp : tmps.getD p undef = .pointer (some ⟨g, 0, none⟩)) (hg : w.heap[g]? = some (.cells cs t fr))
    (hu : P.underlying ty = some d) (hd : (match d with | .struct _ | .array _ _ => true | _ => false) = true) (hi : (P.info? ty).map (·.size) = some cs.size) :
    (results fn tmps).run P w = .ok (.agg cs) w := by
  have hp' : tmps[p]?.getD undef = .pointer (some ⟨g, 0, none⟩) := by simpa using hp
  simp [results, h, hp', asAddr, run_loadVar_row w g t ty cs fr d hg hu hd hi]
theorem resultsC1 {P : Program} {fn : Func} {p u : Tmp} {ty : TypeId} (h : fn.results = #[.cell p ty, .tmp u]) (tmps : Array Value) (w : World) (g : Nat) (t : TypeId) (cs : Array Value) (fr : Nat × Nat) (d : TypeDesc)
    (hp : tmps.getD p undef = .pointer (some ⟨g, 0, none⟩)) (hg : w.heap[g]? = some (.cells cs t fr))
    (hu : P.underlying ty = some d) (hd : (match d with | .struct _ | .array _ _ => true | _ => false) = true) (hi : (P.info? ty).map (·.size) = some cs.size) :
    (results fn tmps).run P w = .ok (.tuple #[.agg cs, tmps.getD u undef]) w := by
  have hp' : tmps[p]?.getD undef = .pointer (some ⟨g, 0, none⟩) := by simpa using hp
  simp [results, h, hp', asAddr, run_loadVar_row w g t ty cs fr d hg hu hd hi]
theorem ck_alloc {w : World} {o : Obj} {b i : Nat} {v : Value} (h : w.cell? ⟨b, i, none⟩ = some v) : (w.alloc o).cell? ⟨b, i, none⟩ = some v := (cell_old (World.block_lt_of_cell? w _ h)).trans h
theorem ck_drew {w : World} {b i : Nat} {v : Value} (h : w.cell? ⟨b, i, none⟩ = some v) : w.drew.cell? ⟨b, i, none⟩ = some v := h
theorem ck_set {w : World} {b i g j : Nat} {v x : Value} (hn : b ≠ g) (h : w.cell? ⟨b, i, none⟩ = some v) : (w.setCell ⟨g, j, none⟩ x).cell? ⟨b, i, none⟩ = some v := (World.cell?_setCell_other _ ⟨g, j, none⟩ ⟨b, i, none⟩ _ (fun e => hn (congrArg Addr.block e).symm)).trans h
theorem u32_of {a : Int} (h : (Lit.int .u32 a).wf = true) : 0 ≤ a ∧ a < 4294967296 := by
  simp [Lit.wf, IntKind.min, IntKind.max, IntKind.signed, IntKind.bits] at h; omega
structure Sta where
  r : Nat → Int
  pc : Int
  ps : Int
  c : Nat → Int
  h : Bool
def Sta.v (s : Sta) : Array Value := #[.int .u32 (s.r 0), .int .u32 (s.r 1), .int .u32 (s.r 2), .int .u32 (s.r 3), .int .u32 (s.r 4), .int .u32 (s.r 5), .int .u32 (s.r 6), .int .u32 (s.r 7), .int .u32 s.pc, .int .u32 s.ps,
  .int .u32 (s.c 0), .int .u32 (s.c 1), .int .u32 (s.c 2), .int .u32 (s.c 3), .int .u32 (s.c 4), .int .u32 (s.c 5), .int .u32 (s.c 6), .int .u32 (s.c 7), .bool s.h]
def up (r : Nat → Int) (a : Nat) (x : Int) : Nat → Int := fun n => if n = a then x else r n
def Sta.reg (s : Sta) (a : Nat) (x : Int) : Sta := { s with r := up s.r a x }
def Sta.go (s : Sta) (x : Int) : Sta := { s with pc := x }
def Sta.mark (s : Sta) (x : Int) : Sta := { s with ps := x }
structure Sta.Ok (s : Sta) : Prop where
  r : ∀ n, 0 ≤ s.r n ∧ s.r n < 4294967296
  pc : 0 ≤ s.pc ∧ s.pc < 4294967296
  ps : 0 ≤ s.ps ∧ s.ps < 4294967296
  c : ∀ n, 0 ≤ s.c n ∧ s.c n < 4294967296
theorem eight {p : Nat → Prop} (h : p 0 ∧ p 1 ∧ p 2 ∧ p 3 ∧ p 4 ∧ p 5 ∧ p 6 ∧ p 7) (a : Nat) (ha : a < 8) : p a := by
  obtain ⟨h0, h1, h2, h3, h4, h5, h6, h7⟩ := h
  rcases (by omega : a = 0 ∨ a = 1 ∨ a = 2 ∨ a = 3 ∨ a = 4 ∨ a = 5 ∨ a = 6 ∨ a = 7) with rfl | rfl | rfl | rfl | rfl | rfl | rfl | rfl <;> assumption
theorem v_size (s : Sta) : s.v.size = 19 := rfl
theorem v_reg (s : Sta) (a : Nat) (ha : a < 8) : s.v[a]? = some (.int .u32 (s.r a)) :=
  eight (p := fun a => s.v[a]? = some (.int .u32 (s.r a))) ⟨rfl, rfl, rfl, rfl, rfl, rfl, rfl, rfl⟩ a ha
theorem v_pc (s : Sta) : s.v[8]? = some (.int .u32 s.pc) := rfl
theorem v_ps (s : Sta) : s.v[9]? = some (.int .u32 s.ps) := rfl
theorem v_set (s : Sta) (a : Nat) (ha : a < 8) (x : Int) : s.v.setIfInBounds a (.int .u32 x) = (s.reg a x).v :=
  eight (p := fun a => s.v.setIfInBounds a (.int .u32 x) = (s.reg a x).v) ⟨rfl, rfl, rfl, rfl, rfl, rfl, rfl, rfl⟩ a ha
theorem v_go (s : Sta) (x : Int) : s.v.setIfInBounds 8 (.int .u32 x) = (s.go x).v := rfl
theorem v_mark (s : Sta) (x : Int) : s.v.setIfInBounds 9 (.int .u32 x) = (s.mark x).v := rfl
def At (w : World) (p : Nat) (s : Sta) : Prop := w.heap[p]? = some (.cells s.v 26 (0, 0))
theorem At.reg {w : World} {p : Nat} {s : Sta} (h : At w p s) (a : Nat) (ha : a < 8) : w.cell? ⟨p, a, none⟩ = some (.int .u32 (s.r a)) := (cell_of_block h).trans (v_reg s a ha)
theorem At.pc {w : World} {p : Nat} {s : Sta} (h : At w p s) : w.cell? ⟨p, 8, none⟩ = some (.int .u32 s.pc) := (cell_of_block h).trans (v_pc s)
theorem At.ps {w : World} {p : Nat} {s : Sta} (h : At w p s) : w.cell? ⟨p, 9, none⟩ = some (.int .u32 s.ps) := (cell_of_block h).trans (v_ps s)
theorem At.lt {w : World} {p : Nat} {s : Sta} (h : At w p s) : p < w.heap.size := block_lt h
theorem At.set {w : World} {p : Nat} {s : Sta} (h : At w p s) (a : Nat) (ha : a < 8) (x : Int) : At (w.setCell ⟨p, a, none⟩ (.int .u32 x)) p (s.reg a x) := by
  unfold At; rw [heap_setCell_row h, v_set s a ha]
theorem At.setPc {w : World} {p : Nat} {s : Sta} (h : At w p s) (x : Int) : At (w.setCell ⟨p, 8, none⟩ (.int .u32 x)) p (s.go x) := by
  unfold At; rw [heap_setCell_row h, v_go]
theorem At.setPs {w : World} {p : Nat} {s : Sta} (h : At w p s) (x : Int) : At (w.setCell ⟨p, 9, none⟩ (.int .u32 x)) p (s.mark x) := by
  unfold At; rw [heap_setCell_row h, v_mark]
theorem At.kep {w w' : World} {p : Nat} {s : Sta} (h : At w p s) (k : Kep w w') : At w' p s := k.block h
theorem Put.setRowNew {l : List Nat} {a b : World} (h : Put l a b) {g : Nat} (hg : a.heap.size ≤ g) (cs : Array Value) : Put l a (b.setRow g cs) := by
  refine ⟨h.os, h.tape, h.output, by simpa [World.setRow] using h.size, fun k hk h1 => ?_⟩
  rw [setRow_other _ _ _ _ (by omega)]
  exact h.block k hk h1
theorem Put.setCellNew {l : List Nat} {a b : World} (h : Put l a b) {p : Addr} (hp : a.heap.size ≤ p.block) (v : Value) : Put l a (b.setCell p v) := by
  refine ⟨h.os, h.tape, h.output, by simpa using h.size, fun k hk h1 => ?_⟩
  rw [heap_setCell_other _ _ _ _ (by omega)]
  exact h.block k hk h1
theorem At.drew {w : World} {p : Nat} {s : Sta} (h : At w p s) : At w.drew p s := h
theorem At.drewN {w : World} {p : Nat} {s : Sta} (h : At w p s) (n : Nat) : At (w.drewN n) p s := h
theorem At.alloc {w : World} {p : Nat} {s : Sta} (h : At w p s) (o : Obj) : At (w.alloc o) p s := h.kep ((Kep.refl _).alloc _)
theorem At.setRow {w : World} {p g : Nat} {s : Sta} (h : At w p s) (hp : p ≠ g) (cs : Array Value) : At (w.setRow g cs) p s := (setRow_other _ _ _ _ hp).trans h
theorem At.setOther {w : World} {p : Nat} {s : Sta} {a : Addr} (h : At w p s) (hp : p ≠ a.block) (v : Value) : At (w.setCell a v) p s := (heap_setCell_other _ _ _ _ hp).trans h
theorem Sta.Ok.reg {s : Sta} (h : s.Ok) (a : Nat) (x : Int) (h0 : 0 ≤ x) (h1 : x < 4294967296) : (s.reg a x).Ok := by
  refine ⟨fun n => ?_, h.pc, h.ps, h.c⟩
  show 0 ≤ up s.r a x n ∧ up s.r a x n < 4294967296
  unfold up; split
  · exact ⟨h0, h1⟩
  · exact h.r n
theorem Sta.Ok.go {s : Sta} (h : s.Ok) (x : Int) (h0 : 0 ≤ x) (h1 : x < 4294967296) : (s.go x).Ok := ⟨h.r, ⟨h0, h1⟩, h.ps, h.c⟩
theorem Sta.Ok.mark {s : Sta} (h : s.Ok) (x : Int) (h0 : 0 ≤ x) (h1 : x < 4294967296) : (s.mark x).Ok := ⟨h.r, h.pc, ⟨h0, h1⟩, h.c⟩
def Sta.regIf (s : Sta) (k : Bool) (a : Nat) (x : Int) : Sta := match k with | true => s.reg a x | false => s
def Sta.markIf (s : Sta) (k : Bool) (x : Int) : Sta := match k with | true => s.mark x | false => s
def Sta.ctl (s : Sta) (b : Nat) (x : Int) : Sta := { s with c := up s.c b x }
def Sta.halt (s : Sta) : Sta := { s with h := true }
theorem ne_lit {op k : Int} (h : op ≠ k) : (op == k) = false := by rw [beq_eq_false_iff_ne]; exact h
theorem v_one (s : Sta) : s.v.all (·.oneCell') = true := by simp [Sta.v, Value.oneCell']
theorem row_frozen {w : World} {b : Nat} {cs : Array Value} {t : TypeId} (h : w.heap[b]? = some (.cells cs t (0, 0))) (j : Nat) : w.frozen? ⟨b, j, none⟩ = false := by simp [World.frozen?, h]
theorem drew_heap (w : World) (k : Nat) : w.drew.heap[k]? = w.heap[k]? := rfl
theorem drewN_heap (w : World) (n k : Nat) : (w.drewN n).heap[k]? = w.heap[k]? := rfl
theorem size_sta : (Tryz.prog.info? 26).map (·.size) = some 19 := by kernel_rfl
theorem Sta.Ok.ctl {s : Sta} (h : s.Ok) (b : Nat) (x : Int) (h0 : 0 ≤ x) (h1 : x < 4294967296) : (s.ctl b x).Ok := by
  refine ⟨h.r, h.pc, h.ps, fun n => ?_⟩
  show 0 ≤ up s.c b x n ∧ up s.c b x n < 4294967296
  unfold up; split
  · exact ⟨h0, h1⟩
  · exact h.c n
theorem At.ctl {w : World} {p : Nat} {s : Sta} (h : At w p s) (b : Nat) (hb : b < 8) : w.cell? ⟨p, 10 + b, none⟩ = some (.int .u32 (s.c b)) :=
  (cell_of_block h).trans (eight (p := fun b => s.v[10 + b]? = some (.int .u32 (s.c b))) ⟨rfl, rfl, rfl, rfl, rfl, rfl, rfl, rfl⟩ b hb)
theorem size_flt : (Tryz.prog.info? 100).map (·.size) = some 2 := by kernel_rfl
theorem blkA {P : Prop} (h : P := by (repeat (first | (with_reducible assumption) | (with_reducible exact Hid.out (by assumption)) | (with_reducible refine (hsk _ _ _ (by (first | omega | (simp only [World.size_alloc, World.size_setCell, size_setRow, World.size_drew]; done) | (simp only [World.size_alloc, World.size_setCell, size_setRow, World.size_drew]; omega)))).trans ?_) | (with_reducible refine (hat _ _ _ (by (first | omega | (simp only [World.size_alloc, World.size_setCell, size_setRow, World.size_drew]; done) | (simp only [World.size_alloc, World.size_setCell, size_setRow, World.size_drew]; omega))))) | (with_reducible refine Kep.block (Kep.alloc (Kep.refl _) _) ?_) | (with_reducible refine (heap_setCell_other _ _ _ _ (by (first | omega | (simp only []; omega) | (show _ ≠ _; omega)))).trans ?_) | (with_reducible refine (setRow_other _ _ _ _ (by (first | omega | (simp only []; omega) | (show _ ≠ _; omega)))).trans ?_) | (with_reducible refine (drew_heap _ _).trans ?_) | (with_reducible refine (drewN_heap _ _ _).trans ?_) | (with_reducible refine Kep.block (by assumption) ?_) | (with_reducible exact setRow_heap _ _ _ _ _ _ (by (repeat (first | (with_reducible assumption) | (with_reducible exact Hid.out (by assumption)) | (with_reducible refine (hsk _ _ _ (by (first | omega | (simp only [World.size_alloc, World.size_setCell, size_setRow, World.size_drew]; done) | (simp only [World.size_alloc, World.size_setCell, size_setRow, World.size_drew]; omega)))).trans ?_) | (with_reducible refine (hat _ _ _ (by (first | omega | (simp only [World.size_alloc, World.size_setCell, size_setRow, World.size_drew]; done) | (simp only [World.size_alloc, World.size_setCell, size_setRow, World.size_drew]; omega))))) | (with_reducible refine Kep.block (Kep.alloc (Kep.refl _) _) ?_) | (with_reducible refine (heap_setCell_other _ _ _ _ (by (first | omega | (simp only []; omega) | (show _ ≠ _; omega)))).trans ?_) | (with_reducible refine (setRow_other _ _ _ _ (by (first | omega | (simp only []; omega) | (show _ ≠ _; omega)))).trans ?_) | (with_reducible refine (drew_heap _ _).trans ?_) | (with_reducible refine (drewN_heap _ _ _).trans ?_)))))))) : P := h
theorem kepA {P : Prop} (h : P := by (repeat (first | (with_reducible assumption) | (with_reducible exact Kep.refl _) | (with_reducible exact Hid.out (by assumption)) | (with_reducible refine Kep.alloc ?_ _) | (with_reducible refine Kep.drew ?_) | (with_reducible refine Kep.drewN ?_ _) | (with_reducible refine Kep.setRow ?_ _ _ (by (first | omega | (simp only [World.size_alloc, World.size_setCell, size_setRow, World.size_drew]; done) | (simp only [World.size_alloc, World.size_setCell, size_setRow, World.size_drew]; omega)))) | (with_reducible refine Kep.setCell ?_ (by first | omega | (simp only []; omega) | (show _ ≤ _; omega)) _)))) : P := h
theorem putA {P : Prop} (h : P := by (repeat (first | (with_reducible assumption) | (with_reducible exact Hid.out (by assumption)) | (with_reducible exact Put.of_kep (Hid.out (by assumption))) | (with_reducible exact Put.of_kep (by assumption)) | (with_reducible exact Put.refl _) | (with_reducible refine Put.drew ?_) | (with_reducible refine Put.drewN ?_ _) | (with_reducible refine Put.alloc ?_ _) | (with_reducible refine Put.setRowNew ?_ (by (first | omega | (simp only [World.size_alloc, World.size_setCell, size_setRow, World.size_drew]; done) | (simp only [World.size_alloc, World.size_setCell, size_setRow, World.size_drew]; omega))) _) | (with_reducible refine Put.setCell ?_ (by simp) _) | (with_reducible refine Put.setCellNew ?_ (by first | omega | (simp only []; omega) | (show _ ≤ _; omega)) _)))) : P := h
theorem atA {P : Prop} (h : P := by (repeat (first | (with_reducible assumption) | (with_reducible refine At.kep ?_ (by assumption)) | (with_reducible exact Hid.out (by assumption)) | (with_reducible refine At.drew ?_) | (with_reducible refine At.drewN ?_ _) | (with_reducible refine At.alloc ?_ _) | (with_reducible refine At.setRow ?_ (by (first | omega | (simp only []; omega) | (show _ ≠ _; omega))) _) | (with_reducible refine At.set ?_ _ (by omega) _) | (with_reducible refine At.setPc ?_ _) | (with_reducible refine At.setPs ?_ _) | (with_reducible refine At.setOther ?_ (by (first | omega | (simp only []; omega) | (show _ ≠ _; omega))) _)))) : P := h
end Go.Proofs.YtnignfloedcmlaaGreatDoor
