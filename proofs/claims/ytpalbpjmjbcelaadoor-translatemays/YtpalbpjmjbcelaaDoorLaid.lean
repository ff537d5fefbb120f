/- A package-level table of numbers and bools that reads as a listed datum holds just the datum's numbers, cell for cell; new blocks leave it as it was. -/
import Derived.Test.YtpalbpjmjbcelaaDoorChecked
import Derived.WalkKit
import Derived.Handy
import Derived.OpenShut
import Derived.LaidLaws
import Derived.MakeChecks
import Derived.Deep.QuietTactic
import Derived.BigQuiet
namespace Go.Proofs.YtpalbpjmjbcelaaDoor
open Go.RowKit

def flatN {H : Type} : Nat → DataW H → List Value
  | 0, _ => []
  | n + 1, d => match d with
    | .lit (.int k z) => [.int k z]
    | .lit (.bool b) => [.bool b]
    | .agg ds => ds.flatMap (flatN n)
    | _ => []

def contig {α : Type} (off size : α → Nat) : List α → Nat → Nat → Bool
  | [], o, e => o == e
  | a :: r, o, e => off a == o && contig off size r (o + size a) e

theorem pieces {H α : Type} (g : DataW H → List Value) (off size : α → Nat) (f : α → Option (DataW H × List MemPlace)) (cs : List Value) : ∀ (l : List α) (xs : List (DataW H × List MemPlace)) (o : Nat),
    (∀ a ∈ l, ∀ x, f a = some x → (cs.drop (off a)).take (size a) = g x.1) → contig off size l o cs.length = true → l.mapM f = some xs → cs.drop o = (xs.map (·.1)).flatMap g
  | [], xs, o, _, hc, hm => by
    simp only [contig, beq_iff_eq] at hc
    simp only [List.mapM_nil, Option.pure_def, Option.some.injEq] at hm
    subst hm; subst hc
    simp
  | a :: l, xs, o, hf, hc, hm => by
    simp only [contig, Bool.and_eq_true, beq_iff_eq] at hc
    simp only [List.mapM_cons, Option.bind_eq_bind, Option.bind_eq_some_iff, Option.pure_def, Option.some.injEq] at hm
    obtain ⟨b, hb, r', hr', rfl⟩ := hm
    have h1 := hf a (by simp) b hb
    have h2 := pieces g off size f cs l r' _ (fun x hx => hf x (by simp [hx])) hc.2 hr'
    rw [hc.1] at h1
    simp only [List.map_cons, List.flatMap_cons]
    rw [← h1, ← h2, ← List.drop_drop]
    exact (List.take_append_drop _ _).symm

def layoutB (P : Program) : Nat → TypeId → Bool
  | 0, _ => false
  | n + 1, t => match P.underlying t with
    | some .bool => true
    | some (.int _) => true
    | some (.struct fs) => contig (fun f : Field => f.offset) (fun f => P.cellsOf f.type) fs.toList 0 (P.cellsOf t) && fs.toList.all fun f => layoutB P n f.type
    | some (.array m e) => contig (fun i => i * P.cellsOf e) (fun _ => P.cellsOf e) (List.range m) 0 (P.cellsOf t) && layoutB P n e
    | _ => false

theorem cells_of_flat {H : Type} {enc : TypeId × Value → H} {P : Program} {w : World} {base : Nat} {sp : Nat → Bool} {held : Bool} : ∀ (n : Nat) {t : TypeId} {fuel : Nat} {cs : List Value} {x : DataW H × List MemPlace},
    layoutB P n t = true → DataW.trod enc P w base sp held fuel t cs = some x → cs = flatN n x.1
  | 0, t, fuel, cs, x, hl, h => by simp [layoutB] at hl
  | n + 1, t, fuel, cs, x, hl, h => by
    unfold layoutB at hl
    split at hl
    · rename_i hu
      obtain ⟨b, rfl, rfl⟩ := DataW.trod_bool hu h
      rfl
    · rename_i k hu
      obtain ⟨b, rfl, rfl, _⟩ := DataW.trod_int hu h
      rfl
    · rename_i fs hu
      simp only [Bool.and_eq_true, List.all_eq_true] at hl
      cases fuel with
      | zero => simp [DataW.trod] at h
      | succ fuel =>
        simp only [DataW.trod, hu] at h
        split at h
        · rename_i hlen
          obtain ⟨xs, hm, rfl⟩ := Option.map_eq_some_iff.1 h
          have := pieces (flatN n) (fun f : Field => f.offset) (fun f => P.cellsOf f.type) _ cs fs.toList xs 0 (fun f hf y hy => cells_of_flat n (hl.2 f hf) hy) (by rw [hlen]; exact hl.1) hm
          simpa [flatN] using this
        · cases h
    · rename_i m e hu
      simp only [Bool.and_eq_true] at hl
      cases fuel with
      | zero => simp [DataW.trod] at h
      | succ fuel =>
        simp only [DataW.trod, hu] at h
        split at h
        · rename_i hlen
          obtain ⟨xs, hm, rfl⟩ := Option.map_eq_some_iff.1 h
          have := pieces (flatN n) (fun i => i * P.cellsOf e) (fun _ => P.cellsOf e) _ cs (List.range m) xs 0 (fun i _ y hy => cells_of_flat n hl.2 hy) (by rw [hlen]; exact hl.1) hm
          simpa [flatN] using this
        · cases h
    · cases hl

theorem laid_block {P : Program} {W : World} {name : String} {d : DataW Unit} {rest : List (String × DataW Unit)} {g : Nat} {t : TypeId} (n : Nat) (cs : Array Value)
    (hg : P.globalNamed name = some g) (hty : (P.globals[g]?).map (·.type) = some t) (hl : layoutB P n t = true) (hf : flatN n d = cs.toList) (hne : 0 < cs.size)
    (h : laidMet P ((name, d) :: rest) W) : ∃ t', W.heap[g]? = some (.cells cs t' (0, 0)) := by
  obtain ⟨ps, ⟨g', t', c, fuel, p, q, hg', ht', hvar, hd, _, rfl⟩, _, hz⟩ := h
  obtain rfl := Option.some.inj (hg.symm.trans hg')
  obtain rfl := Option.some.inj (hty.symm.trans ht')
  have hc := cells_of_flat n hl hd
  simp only at hc
  rw [hf] at hc
  have hc' : c = cs := Array.toList_inj.1 hc
  subst hc'
  simp only [World.var?, hg, Option.bind_some] at hvar
  split at hvar
  · rename_i c1 t1 f1 hh
    obtain rfl := Option.some.inj hvar
    obtain ⟨⟨c2, t2, h2⟩, _⟩ := hz g 0 (by simp [MemPlace.row]; exact Or.inl hne)
    rw [hh] at h2
    simp only [Option.some.injEq, Obj.cells.injEq] at h2
    exact ⟨t1, by rw [hh, h2.2.2]⟩
  · cases hvar

theorem laid_rest {P : Program} {W : World} {x : String × DataW Unit} {rest : List (String × DataW Unit)} (h : laidMet P (x :: rest) W) : laidMet P rest W := by
  obtain ⟨ps, ⟨g', t', c, fuel, p, q, hg', ht', hvar, hd, hr, rfl⟩, hn, hz⟩ := h
  exact ⟨q, hr, (List.nodup_append.1 hn).2.1, fun b off hm => hz b off (List.mem_append_right _ hm)⟩

/-- What was there is as it was: memory has at most new blocks. -/
def Kep (W w' : World) : Prop := Below W.heap.size W w'
theorem Kep.refl (w : World) : Kep w w := Below.refl _ _
theorem Kep.size {W w' : World} (h : Kep W w') : W.heap.size ≤ w'.heap.size := Below.size h
theorem kep_trans {a b c : World} (h : Kep a b) (k : Kep b c) : Kep a c := Below.trans h (Below.mono k h.size)
theorem Kep.alloc {W w' : World} (h : Kep W w') (o : Obj) : Kep W (w'.alloc o) := Below.alloc h h.size o
theorem Kep.drew {W w' : World} (h : Kep W w') : Kep W w'.drew := Below.drew h
theorem Kep.setCell {W w' : World} (h : Kep W w') {a : Addr} (ha : W.heap.size ≤ a.block) (v : Value) : Kep W (w'.setCell a v) := Below.setCell h ha v
theorem Kep.setRow {W w' : World} (h : Kep W w') (g : Nat) (cs : Array Value) (hg : W.heap.size ≤ g) : Kep W (w'.setRow g cs) :=
  have h' : Below W.heap.size W w' := h
  ⟨h'.os, h'.tape, h'.output, by have := h'.size; simpa using this, fun k hk => (setRow_other w' g k cs (by omega)).trans (h'.block k hk)⟩
theorem Kep.drewN {W w' : World} (h : Kep W w') (n : Nat) : Kep W (w'.drewN n) :=
  have h' : Below W.heap.size W w' := h
  ⟨h'.os, h'.tape, h'.output, h'.size, fun k hk => h'.block k hk⟩
theorem Kep.by {W w w' : World} {row : Option Nat} (h : Kep W w) (hg : w.grownBy w' row) (hr : ∀ k, row = some k → W.heap.size ≤ k) : Kep W w' := Below.grown h hg h.size hr
theorem Kep.lt {W w' : World} (h : Kep W w') {b : Nat} (hb : b < W.heap.size) : b < w'.heap.size := Nat.lt_of_lt_of_le hb h.size
theorem Kep.cell {W w' : World} (h : Kep W w') {b o : Nat} (hb : b < W.heap.size) : w'.cell? ⟨b, o, none⟩ = W.cell? ⟨b, o, none⟩ := Below.cell h (p := ⟨b, o, none⟩) hb
theorem Kep.block {W w' : World} (h : Kep W w') {b : Nat} {x : Obj} (hb : W.heap[b]? = some x) : w'.heap[b]? = some x := by
  have hlt : b < W.heap.size := by
    rcases Nat.lt_or_ge b W.heap.size with h | h
    · exact h
    · rw [Array.getElem?_eq_none h] at hb; cases hb
  exact (Below.block h b hlt).trans hb
theorem Kep.frame {W w' : World} (h : Kep W w') (may : MemPlace → Prop) : W.keptBut w' may := Below.frame h may

theorem cell_of_block {w : World} {b i : Nat} {cs : Array Value} {t : TypeId} {fr : Nat × Nat} (h : w.heap[b]? = some (.cells cs t fr)) : w.cell? ⟨b, i, none⟩ = cs[i]? := by
  simp [World.cell?, h]

theorem cell_old {w : World} {o : Obj} {b i : Nat} (h : b < w.heap.size) : (w.alloc o).cell? ⟨b, i, none⟩ = w.cell? ⟨b, i, none⟩ := by simp only [World.cell?, World.alloc, Array.getElem?_push_lt h, Array.getElem?_eq_getElem h]
theorem ret_int {k : IntKind} {a b : Int} (h : a = b) : Ending.returned (.int k a) = .returned (.int k b) := by rw [h]
theorem ret_bool {a b : Bool} (h : a = b) : Ending.returned (.bool a) = .returned (.bool b) := by rw [h]
def allocs (w : World) (l : List Obj) : World := l.foldl World.alloc w
theorem allocs_size (l : List Obj) : ∀ w : World, (allocs w l).heap.size = w.heap.size + l.length := by
  induction l with
  | nil => intro w; rfl
  | cons o l ih => intro w; show (allocs (w.alloc o) l).heap.size = _; rw [ih]; simp; omega
theorem allocs_kep (l : List Obj) : ∀ w : World, Kep w (allocs w l) := by
  induction l with
  | nil => intro w; exact Kep.refl _
  | cons o l ih => intro w; exact kep_trans ((Kep.refl w).alloc o) (ih (w.alloc o))
theorem allocs_at (l : List Obj) : ∀ (w : World) (i : Nat) (o : Obj), l[i]? = some o → (allocs w l).heap[w.heap.size + i]? = some o := by
  induction l with
  | nil => intro w i o h; simp at h
  | cons p l ih =>
    intro w i o h
    cases i with
    | zero =>
      simp at h; subst h
      exact (allocs_kep l (w.alloc p)).block (heap_alloc_new w p)
    | succ i =>
      have := ih (w.alloc p) i o (by simpa using h)
      have e : (w.alloc p).heap.size + i = w.heap.size + (i + 1) := by simp; omega
      rw [e] at this
      exact this
end Go.Proofs.YtpalbpjmjbcelaaDoor
