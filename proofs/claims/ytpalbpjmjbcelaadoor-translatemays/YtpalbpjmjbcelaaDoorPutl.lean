/- What a call turns: some blocks; all else that was there is as it was. -/
import Derived.Test.YtpalbpjmjbcelaaDoorLaid
import Derived.Laws.IdiomCopy
namespace Go.Proofs.YtpalbpjmjbcelaaDoor
open Go.RowKit
set_option linter.unusedVariables false

/-- What was there is as it was, but for the blocks of l; there may be new blocks. -/
structure Put (l : List Nat) (w w' : World) : Prop where
  os : w'.os = w.os
  tape : w'.tape = w.tape
  output : w'.output = w.output
  size : w.heap.size ≤ w'.heap.size
  block : ∀ k, k < w.heap.size → k ∉ l → w'.heap[k]? = w.heap[k]?
theorem Put.refl {l : List Nat} (w : World) : Put l w w := ⟨rfl, rfl, rfl, Nat.le_refl _, fun _ _ _ => rfl⟩
theorem Put.trans {l : List Nat} {a b c : World} (h : Put l a b) (k : Put l b c) : Put l a c :=
  ⟨k.os.trans h.os, k.tape.trans h.tape, k.output.trans h.output, Nat.le_trans h.size k.size, fun i hi h1 => (k.block i (Nat.lt_of_lt_of_le hi h.size) h1).trans (h.block i hi h1)⟩
theorem Put.mono {l m : List Nat} {a b : World} (h : Put l a b) (hl : ∀ k ∈ l, k ∈ m) : Put m a b := ⟨h.os, h.tape, h.output, h.size, fun k hk h1 => h.block k hk fun h2 => h1 (hl k h2)⟩
/-- As Put.mono; a block that was not there yet counts for nothing. -/
theorem Put.less {l m : List Nat} {a b : World} (h : Put l a b) (hl : ∀ k ∈ l, k < a.heap.size → k ∈ m) : Put m a b := ⟨h.os, h.tape, h.output, h.size, fun k hk h1 => h.block k hk fun h2 => h1 (hl k h2 hk)⟩
theorem Put.of_kep {l : List Nat} {a b : World} (h : Kep a b) : Put l a b :=
  have h' : Below a.heap.size a b := h
  ⟨h'.os, h'.tape, h'.output, h'.size, fun k hk _ => h'.block k hk⟩
theorem Put.kep {a b : World} (h : Put [] a b) : Kep a b := ⟨h.os, h.tape, h.output, h.size, fun k hk => h.block k hk (by simp)⟩
theorem Kep.put {l : List Nat} {W w w' : World} (h : Kep W w) (k : Put l w w') (hl : ∀ b ∈ l, W.heap.size ≤ b) : Kep W w' :=
  have h' : Below W.heap.size W w := h
  ⟨k.os.trans h'.os, k.tape.trans h'.tape, k.output.trans h'.output, Nat.le_trans h'.size k.size, fun i hi => (k.block i (Nat.lt_of_lt_of_le hi h'.size) (fun hm => by have := hl i hm; omega)).trans (h'.block i hi)⟩
theorem Put.drew {l : List Nat} {a b : World} (h : Put l a b) : Put l a b.drew := ⟨h.os, h.tape, h.output, h.size, h.block⟩
theorem Put.drewN {l : List Nat} {a b : World} (h : Put l a b) (n : Nat) : Put l a (b.drewN n) := ⟨h.os, h.tape, h.output, h.size, h.block⟩
theorem Put.setCell {l : List Nat} {a b : World} (h : Put l a b) {p : Addr} (hp : p.block ∈ l) (v : Value) : Put l a (b.setCell p v) := by
  refine ⟨h.os, h.tape, h.output, by simpa using h.size, fun k hk h1 => ?_⟩
  rw [heap_setCell_other _ _ _ _ (by intro e; exact h1 (e ▸ hp))]
  exact h.block k hk h1
theorem Put.setRow {l : List Nat} {a b : World} (h : Put l a b) {g : Nat} (hp : g ∈ l) (cs : Array Value) : Put l a (b.setRow g cs) := by
  refine ⟨h.os, h.tape, h.output, by simpa [World.setRow] using h.size, fun k hk h1 => ?_⟩
  rw [setRow_other _ _ _ _ (by intro e; exact h1 (e ▸ hp))]
  exact h.block k hk h1
theorem Put.keeps {l : List Nat} {a b : World} (h : Put l a b) {k : Nat} {x : Obj} (hx : a.heap[k]? = some x) (hk : k ∉ l) : b.heap[k]? = some x := by
  have hlt : k < a.heap.size := by
    rcases Nat.lt_or_ge k a.heap.size with h | h
    · exact h
    · rw [Array.getElem?_eq_none h] at hx; cases hx
  exact (h.block k hlt hk).trans hx
theorem block_lt {w : World} {b : Nat} {x : Obj} (h : w.heap[b]? = some x) : b < w.heap.size := by
  rcases Nat.lt_or_ge b w.heap.size with h' | h'
  · exact h'
  · rw [Array.getElem?_eq_none h'] at h; cases h
theorem Put.cell {l : List Nat} {a b : World} (h : Put l a b) {k o : Nat} (hk : k < a.heap.size) (hl : k ∉ l) : b.cell? ⟨k, o, none⟩ = a.cell? ⟨k, o, none⟩ := by
  simp only [World.cell?, h.block k hk hl]
theorem heap_setCell_row {w : World} {R k : Nat} {cs : Array Value} {t : TypeId} (h : w.heap[R]? = some (.cells cs t (0, 0))) (v : Value) : (w.setCell ⟨R, k, none⟩ v).heap[R]? = some (.cells (cs.setIfInBounds k v) t (0, 0)) := by
  simp [World.setCell, Array.getElem?_modify, h]
theorem hat (W : World) (o : Obj) (n : Nat) (h : n = W.heap.size) : (W.alloc o).heap[n]? = some o := by subst h; exact heap_alloc_new W o
theorem hsk (W : World) (o : Obj) (n : Nat) (h : n < W.heap.size) : (W.alloc o).heap[n]? = W.heap[n]? := by simp only [World.alloc, Array.getElem?_push_lt h, Array.getElem?_eq_getElem h]
theorem Put.alloc {l : List Nat} {a b : World} (h : Put l a b) (o : Obj) : Put l a (b.alloc o) :=
  h.trans (Put.of_kep ((Kep.refl _).alloc o))
/-- Some cells of a row that were laid one behind the other. -/
theorem heap_setCells_row {R : Nat} {t : TypeId} : ∀ (vs : List Value) (o : Nat) (w : World) (l : List Value), w.heap[R]? = some (.cells l.toArray t (0, 0)) → o + vs.length ≤ l.length →
    (w.setCells R o vs).heap[R]? = some (.cells (l.take o ++ vs ++ l.drop (o + vs.length)).toArray t (0, 0))
  | [], o, w, l, h, hl => by simpa [World.setCells] using h
  | v :: r, o, w, l, h, hl => by
    simp only [List.length_cons] at hl
    have h1 : (w.setCell ⟨R, o, none⟩ v).heap[R]? = some (.cells (l.set o v).toArray t (0, 0)) := by rw [heap_setCell_row h]; simp
    rw [World.setCells, heap_setCells_row r (o + 1) _ _ h1 (by simp; omega)]
    have e1 : (l.set o v).take (o + 1) = l.take o ++ [v] := by
      rw [List.take_add_one, List.take_set_of_le (by omega)]
      simp [show o < l.length by omega]
    have e2 : (l.set o v).drop (o + 1 + r.length) = l.drop (o + 1 + r.length) := by rw [List.drop_set_of_lt (by omega)]
    rw [e1, e2]
    have e3 : o + (v :: r).length = o + 1 + r.length := by simp; omega
    rw [e3]
    simp
theorem Put.setCells {l : List Nat} {g : Nat} {a : World} (hp : g ∈ l) : ∀ (vs : List Value) (o : Nat) (b : World), Put l a b → Put l a (b.setCells g o vs)
  | [], _, _, h => h
  | v :: r, o, b, h => Put.setCells hp r (o + 1) _ (h.setCell hp v)
theorem results1 {P : Program} {fn : Func} {p : Tmp} {ty : TypeId} (h : fn.results = #[.cell p ty]) (tmps : Array Value) (w : World) (g : Nat) (t : TypeId) (cs : Array Value) (fr : Nat × Nat) (d : TypeDesc)
    (hp : tmps.getD p undef = .pointer (some ⟨g, 0, none⟩)) (hg : w.heap[g]? = some (.cells cs t fr))
    (hu : P.underlying ty = some d) (hd : (match d with | .struct _ | .array _ _ => true | _ => false) = true) (hi : (P.info? ty).map (·.size) = some cs.size) :
    (results fn tmps).run P w = .ok (.agg cs) w := by
  have hp' : tmps[p]?.getD undef = .pointer (some ⟨g, 0, none⟩) := by simpa using hp
  simp [results, h, hp', asAddr, run_loadVar_row w g t ty cs fr d hg hu hd hi]
theorem resultsC1 {P : Program} {fn : Func} {p u : Tmp} {ty : TypeId} (h : fn.results = #[.cell p ty, .tmp u]) (tmps : Array Value) (w : World) (g : Nat) (t : TypeId) (cs : Array Value) (fr : Nat × Nat) (d : TypeDesc)
    (hp : tmps.getD p undef = .pointer (some ⟨g, 0, none⟩)) (hg : w.heap[g]? = some (.cells cs t fr))
    (hu : P.underlying ty = some d) (hd : (match d with | .struct _ | .array _ _ => true | _ => false) = true) (hi : (P.info? ty).map (·.size) = some cs.size) :
    (results fn tmps).run P w = .ok (.tuple #[.agg cs, tmps.getD u undef]) w := by
  have hp' : tmps[p]?.getD undef = .pointer (some ⟨g, 0, none⟩) := by simpa using hp
  simp [results, h, hp', asAddr, run_loadVar_row w g t ty cs fr d hg hu hd hi]
theorem ck_alloc {w : World} {o : Obj} {b i : Nat} {v : Value} (h : w.cell? ⟨b, i, none⟩ = some v) : (w.alloc o).cell? ⟨b, i, none⟩ = some v := (cell_old (World.block_lt_of_cell? w _ h)).trans h
theorem ck_drew {w : World} {b i : Nat} {v : Value} (h : w.cell? ⟨b, i, none⟩ = some v) : w.drew.cell? ⟨b, i, none⟩ = some v := h
theorem ck_set {w : World} {b i g j : Nat} {v x : Value} (hn : b ≠ g) (h : w.cell? ⟨b, i, none⟩ = some v) : (w.setCell ⟨g, j, none⟩ x).cell? ⟨b, i, none⟩ = some v := (World.cell?_setCell_other _ ⟨g, j, none⟩ ⟨b, i, none⟩ _ (fun e => hn (congrArg Addr.block e).symm)).trans h
theorem u32_of {a : Int} (h : (Lit.int .u32 a).wf = true) : 0 ≤ a ∧ a < 4294967296 := by
  simp [Lit.wf, IntKind.min, IntKind.max, IntKind.signed, IntKind.bits] at h; omega
theorem i64_of {a : Int} (h : (Lit.int .i64 a).wf = true) : -9223372036854775808 ≤ a ∧ a ≤ 9223372036854775807 := by
  simp [Lit.wf, IntKind.min, IntKind.max, IntKind.signed, IntKind.bits] at h; omega
end Go.Proofs.YtpalbpjmjbcelaaDoor
