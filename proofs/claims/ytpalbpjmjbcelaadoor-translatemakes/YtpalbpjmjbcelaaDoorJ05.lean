/- Part of a proof. -/
import Derived.ArgAppend
import Derived.Maps.AppendAt
import Derived.OwnWalk
import Derived.OwnWalkIn
import Derived.Laws.CopyOwn
import Derived.Deep.MidRow
import Derived.Deep.Slices
import Derived.Lib.SmallJoins
import Derived.OpenShut
import Derived.Deep.QuietTactic
import Derived.BigQuiet
import Derived.OrdersHeld
import Derived.Deep.RegionHeld
import Derived.Test.YtpalbpjmjbcelaaDoorJ04
namespace Go.Proofs.YtpalbpjmjbcelaaDoor
open Go.RowKit
set_option linter.unusedVariables false
set_option linter.unusedSimpArgs false
def Sli (w : World) (e : TypeId) (z : Nat) (v : Value) (n : Nat) (xs : List Value) (F : List Nat) : Prop :=
  xs.length = n * z ∧ ((v = .slice none 0 0 ∧ n = 0 ∧ F = []) ∨ ∃ (g off cap : Nat) (cur : List Value), v = .slice (some ⟨g, off, none⟩) n cap ∧ F = [g] ∧ w.heap[g]? = some (.cells cur.toArray e (0, 0)) ∧ n ≤ cap ∧ cap ≤ maxLen ∧ off + cap * z ≤ cur.length ∧ (cur.drop off).take (n * z) = xs)
theorem Sli.nil (w : World) (e : TypeId) (z : Nat) : Sli w e z (.slice none 0 0) 0 [] [] := ⟨by simp, .inl ⟨rfl, rfl, rfl⟩⟩
theorem Sli.put {w w' : World} {e : TypeId} {z : Nat} {v : Value} {n : Nat} {xs : List Value} {F l : List Nat} (h : Sli w e z v n xs F) (k : Put l w w') (hl : ∀ g ∈ F, g ∉ l) : Sli w' e z v n xs F := by
  rcases h with ⟨h0, h | ⟨g, off, cap, cur, rfl, rfl, hg, r⟩⟩
  · exact ⟨h0, .inl h⟩
  · exact ⟨h0, .inr ⟨g, off, cap, cur, rfl, rfl, k.keeps hg (hl g (by simp)), r⟩⟩
theorem Sli.kep {w w' : World} {e : TypeId} {z : Nat} {v : Value} {n : Nat} {xs : List Value} {F : List Nat} (h : Sli w e z v n xs F) (k : Kep w w') : Sli w' e z v n xs F := h.put (l := []) (Put.of_kep k) (by simp)
theorem Sli.lt {w : World} {e : TypeId} {z : Nat} {v : Value} {n : Nat} {xs : List Value} {F : List Nat} (h : Sli w e z v n xs F) : ∀ g ∈ F, g < w.heap.size := by
  rcases h with ⟨h0, ⟨_, _, rfl⟩ | ⟨g, off, cap, cur, rfl, rfl, hg, r⟩⟩
  · simp
  · intro b hb; obtain rfl : b = g := by simpa using hb
    exact block_lt hg
theorem Sli.form {w : World} {e : TypeId} {z : Nat} {v : Value} {n : Nat} {xs : List Value} {F : List Nat} (h : Sli w e z v n xs F) :
    (v = .slice none 0 0 ∧ n = 0 ∧ xs = [] ∧ F = []) ∨ ∃ g off cap, v = .slice (some ⟨g, off, none⟩) n cap ∧ F = [g] ∧ n ≤ cap ∧ cap ≤ maxLen ∧ g < w.heap.size ∧ (∀ j u, xs[j]? = some u → w.cell? ⟨g, off + j, none⟩ = some u) ∧
      ∀ j, j < cap * z → (w.cell? ⟨g, off + j, none⟩).isSome = true ∧ w.frozen? ⟨g, off + j, none⟩ = false := by
  rcases h with ⟨h0, ⟨hv, rfl, rfl⟩ | ⟨g, off, cap, cur, rfl, rfl, hg, h1, h2, h3, h4⟩⟩
  · exact .inl ⟨hv, rfl, List.eq_nil_of_length_eq_zero (by simpa using h0), rfl⟩
  · refine .inr ⟨g, off, cap, rfl, rfl, h1, h2, block_lt hg, fun j u hj => ?_, fun j hj => ⟨?_, by simp [World.frozen?, hg]⟩⟩
    · rw [cell_of_block hg, List.getElem?_toArray]
      have hlt : j < n * z := by have := (List.getElem?_eq_some_iff.1 hj).1; omega
      rw [← h4, List.getElem?_take_of_lt hlt, List.getElem?_drop] at hj
      exact hj
    · rw [cell_of_block hg, List.getElem?_toArray, List.getElem?_eq_getElem (by omega)]; rfl
theorem Sli.of_owns {w : World} {base : Nat} {e : TypeId} {z : Nat} {v : Value} {n : Nat} {xs : List Value} (h : w.ownsRow base e z v n xs) : ∃ F, Sli w e z v n xs F ∧ ∀ g ∈ F, base ≤ g := by
  rcases h with ⟨h0, ⟨hv, hn⟩ | ⟨g, cap, cur, hv, hb, hg, h1, h2, h3, h4⟩⟩
  · exact ⟨[], ⟨h0, .inl ⟨hv, hn, rfl⟩⟩, by simp⟩
  · exact ⟨[g], ⟨h0, .inr ⟨g, 0, cap, cur.toList, hv, rfl, by simpa using hg, h1, h2, by simp [h3], by simpa using h4⟩⟩, fun b hb' => by simp at hb'; omega⟩
theorem Put.of_grown {w w' : World} {row : Option Nat} {l : List Nat} (h : w.grownBy w' row) (hl : ∀ k, row = some k → k ∈ l) : Put l w w' :=
  ⟨h.os, h.tape, h.output, h.size, fun k hk hn => h.block k hk fun e => hn (hl k e.symm)⟩
theorem drop_put {α : Type} (cur news : List α) (off m : Nat) (h : off + m + news.length ≤ cur.length) : ((cur.take (off + m) ++ news ++ cur.drop (off + m + news.length)).drop off).take (m + news.length) = (cur.drop off).take m ++ news := by
  have hl : (cur.take (off + m)).length = off + m := by simp; omega
  rw [List.append_assoc, List.drop_append_of_le_length (by omega)]
  have e : (cur.take (off + m)).drop off = (cur.drop off).take m := by rw [List.drop_take, Nat.add_sub_cancel_left]
  have hm : ((cur.drop off).take m).length = m := by simp; omega
  rw [e, ← List.append_assoc, List.take_append_of_le_length (by simp; omega), List.take_of_length_le (by simp; omega)]
theorem ne_of {w : World} {i j : Nat} {cs cs' : Array Value} {t t' : TypeId} {fr fr' : Nat × Nat} (h1 : w.heap[i]? = some (.cells cs t fr)) (h2 : w.heap[j]? = some (.cells cs' t' fr')) (ht : t ≠ t') : i ≠ j := by
  intro e; subst e
  rw [h1] at h2
  cases h2; exact ht rfl
theorem Sli.ne {w : World} {e : TypeId} {z : Nat} {v : Value} {n : Nat} {xs : List Value} {F : List Nat} (h : Sli w e z v n xs F) {i : Nat} {cs : Array Value} {t : TypeId} {fr : Nat × Nat} (hi : w.heap[i]? = some (.cells cs t fr)) (ht : t ≠ e) : ∀ b ∈ F, b ≠ i := by
  rcases h with ⟨_, ⟨_, _, rfl⟩ | ⟨g, off, cap, cur, _, rfl, hg, _⟩⟩
  · simp
  · intro b hb
    obtain rfl : b = g := by simpa using hb
    exact ne_of hg hi (Ne.symm ht)
abbrev In4.z : In4 := (0, 0, 0, 0)
def bok (i : In4) : Bool := mayB (rowOf i.1 false) i.2.1 i.2.2.1 i.2.2.2
def bnd (op : Int) : Bool := gE (tabF op)
def bEnd (op : Int) : Int := if bnd op = false then 1 else if op = 64 ∨ op = 72 then 2 else if 65 ≤ op ∧ op ≤ 71 then 3 else 4
def pln (i : In4) : Bool := bok i && !bnd i.1
def mid (I : List In4) : Bool := I.all pln
def lastI (I : List In4) : In4 := I.getD (I.length - 1) In4.z
def fitL (n nA : Nat) : Bool := decide (1 ≤ n ∧ n ≤ 32 ∧ nA = n)
def mayL (I : List In4) (nA : Nat) (e : Int) : Bool := fitL I.length nA && (mid (I.take (I.length - 1)) && (bok (lastI I) && decide (e = bEnd (lastI I).1)))
theorem mid_succ {I : List In4} {k : Nat} {i : In4} (h : I[k]? = some i) : mid (I.take (k + 1)) = (mid (I.take k) && pln i) := by
  unfold mid
  have hk := (List.getElem?_eq_some_iff.1 h)
  obtain ⟨h1, h2⟩ := hk
  rw [List.take_add_one, h]
  simp
theorem mid_no {I : List In4} {k m : Nat} {i : In4} (h : I[k]? = some i) (hk : k < m) (hp : pln i = false) : mid (I.take m) = false := by
  unfold mid
  rw [List.all_eq_false]
  refine ⟨i, ?_, by simp [hp]⟩
  exact List.mem_of_getElem? (i := k) (by rw [List.getElem?_take_of_lt hk]; exact h)
theorem mid_at {I : List In4} {k m : Nat} {i : In4} (h : I[k]? = some i) (hk : k < m) (hp : mid (I.take m) = true) : bok i = true ∧ bnd i.1 = false := by
  cases hq : pln i with
  | true => unfold pln at hq; simpa using hq
  | false => rw [mid_no h hk hq] at hp; cases hp
theorem last_at {I : List In4} (h : 1 ≤ I.length) : I[I.length - 1]? = some (lastI I) := by
  unfold lastI
  rw [List.getD_eq_getElem?_getD, List.getElem?_eq_getElem (by omega)]; rfl
theorem bnd_cf (op : Int) (h0 : 64 ≤ op) (h1 : op ≤ 72) : bnd op = true := by
  have := byte_all (p := fun op => decide (64 ≤ op ∧ op ≤ 72 → bnd op = true)) (by decide +kernel) op (by omega) (by omega)
  simpa using (of_decide_eq_true this) ⟨h0, h1⟩
theorem pln_op (op : Int) (h0 : 0 ≤ op) (h1 : op < 256) (hb : bnd op = false) (hr : rowOf op false ≠ 0) : op = 0 ∨ (16 ≤ op ∧ op ≤ 33) ∨ (48 ≤ op ∧ op ≤ 58) := by
  have := byte_all (p := fun op => decide (bnd op = false → rowOf op false ≠ 0 → op = 0 ∨ (16 ≤ op ∧ op ≤ 33) ∨ (48 ≤ op ∧ op ≤ 58))) (by decide +kernel) op h0 h1
  exact (of_decide_eq_true this) hb hr
theorem row_host (op : Int) (h0 : 0 ≤ op) (h1 : op < 256) (hr : rowOf op false ≠ 0) : rowOf op true = rowOf op false ∧ op ≠ 112 ∧ op ≠ 113 := by
  have := byte_all (p := fun op => decide (rowOf op false ≠ 0 → rowOf op true = rowOf op false ∧ op ≠ 112 ∧ op ≠ 113)) (by decide +kernel) op h0 h1
  exact (of_decide_eq_true this) hr
def s32 (n : Int) : Int := if n < 2147483648 then n else n - 4294967296
def lay4 (next : Int) (i : In4) : Option In4 :=
  if i.1 = 64 then none else if i.1 = 72 then some (32, 6, 0, s32 next) else if 65 ≤ i.1 ∧ i.1 ≤ 71 then some (i.1, i.2.1, i.2.2.1, 5) else some i
abbrev It := In4 × Int × Int × Int
def encH (h : In4) : List Int := encL (rowOf h.1 true) h.1 h.2.1 h.2.2.1 h.2.2.2
def itB (L : List It) : List Int := L.flatMap fun x => encH x.1
abbrev Rw4 := Int × Int × Int × Int
def itRo : Nat → List It → List Rw4
  | _, [] => []
  | o, x :: r => ((o : Int), x.2) :: itRo (o + (encH x.1).length) r
def itR (L : List It) : List Rw4 := itRo 0 L
def rwV (r : Rw4) : List Value := [.int .i64 r.1, .int .u32 r.2.1, .int .i64 r.2.2.1, .int .i64 r.2.2.2]
def rws (R : List Rw4) : List Value := R.flatMap rwV
theorem itB_append (L M : List It) : itB (L ++ M) = itB L ++ itB M := by simp [itB]
theorem itB_one (x : It) : itB [x] = encH x.1 := by simp [itB]
theorem itRo_append (L M : List It) : ∀ o, itRo o (L ++ M) = itRo o L ++ itRo (o + (itB L).length) M := by
  induction L with
  | nil => intro o; simp [itRo, itB]
  | cons x r ih =>
    intro o
    have e : (itB (x :: r)).length = (encH x.1).length + (itB r).length := by simp [itB]
    rw [List.cons_append, itRo, itRo, ih, e, Nat.add_assoc]; rfl
theorem itR_more (L : List It) (x : It) : itR (L ++ [x]) = itR L ++ [(((itB L).length : Int), x.2)] := by
  unfold itR; rw [itRo_append]; simp [itRo]
theorem itRo_len (L : List It) : ∀ o, (itRo o L).length = L.length := by
  induction L with
  | nil => intro o; rfl
  | cons x r ih => intro o; simp [itRo, ih]
theorem itR_len (L : List It) : (itR L).length = L.length := itRo_len L 0
theorem rws_append (R S : List Rw4) : rws (R ++ S) = rws R ++ rws S := by simp [rws]
theorem itR_at {L : List It} {k : Nat} {x : It} (h : L[k]? = some x) : (itR L)[k]? = some (((itB (L.take k)).length : Int), x.2) := by
  obtain ⟨h1, h2⟩ := List.getElem?_eq_some_iff.1 h
  have e : L = L.take k ++ ([x] ++ L.drop (k + 1)) := by
    have : L.drop k = x :: L.drop (k + 1) := by rw [List.drop_eq_getElem_cons h1, h2]
    rw [show [x] ++ L.drop (k + 1) = L.drop k by rw [this]; rfl, List.take_append_drop]
  unfold itR
  conv => lhs; rw [e]
  rw [itRo_append, List.getElem?_append_right (by rw [itRo_len, List.length_take]; omega), itRo_len, List.length_take, show k - min k L.length = 0 by omega]
  simp [itRo]
theorem rws_at {R : List Rw4} {k : Nat} {r : Rw4} (h : R[k]? = some r) (j : Nat) (hj : j < 4) : (rws R)[k * 4 + j]? = (rwV r)[j]? := by
  induction R generalizing k with
  | nil => simp at h
  | cons a R ih =>
    have hc : rws (a :: R) = rwV a ++ rws R := rfl
    have hl : (rwV a).length = 4 := rfl
    rw [hc]
    cases k with
    | zero =>
      obtain rfl : a = r := by simpa using h
      rw [List.getElem?_append_left (by omega)]
      congr 1; omega
    | succ k =>
      rw [List.getElem?_append_right (by omega), hl, ← ih (k := k) (by simpa using h)]
      congr 1; omega
theorem itB_take_le (L : List It) (k : Nat) : (itB (L.take k)).length ≤ (itB L).length := by
  conv => rhs; rw [← List.take_append_drop k L, itB_append]
  simp
theorem In4.ok {a b c d : Int} (h0 : 0 ≤ a ∧ a < 256) (h1 : 0 ≤ b ∧ b < 256) (h2 : 0 ≤ c ∧ c < 256) (h3 : -2147483648 ≤ d ∧ d ≤ 2147483647) : In4.Ok (a, b, c, d) := ⟨h0, h1, h2, h3⟩
def GdI (h : In4) : Prop := In4.Ok h ∧ mayB (rowOf h.1 true) h.2.1 h.2.2.1 h.2.2.2 = true
theorem GdI.row {h : In4} (g : GdI h) : rowOf h.1 true ≠ 0 := (may_parts g.2).1
theorem GdI.ab {h : In4} (g : GdI h) : h.2.1 ≤ 7 ∧ h.2.2.1 ≤ 7 := by
  obtain ⟨_, m1, m2, _, _⟩ := may_parts g.2
  obtain ⟨p1, p2, _, _⟩ := f12 _ (rowOf_lt h.1 true)
  omega
theorem GdI.len {h : In4} (g : GdI h) : 1 ≤ (encH h).length ∧ (encH h).length ≤ 6 := by
  have := enc_len _ h.1 h.2.1 h.2.2.1 h.2.2.2 (rowOf_lt h.1 true) g.row
  unfold encH
  rcases sz_cases _ (rowOf_lt h.1 true) g.row with q | q | q | q <;> omega
theorem gd_of_bok {i : In4} (o : In4.Ok i) (h : bok i = true) : GdI i := by
  unfold bok at h
  obtain ⟨r, _⟩ := may_parts h
  exact ⟨o, by rw [(row_host i.1 o.1.1 o.1.2 r).1]; exact h⟩
theorem enc_bok {i : In4} (o : In4.Ok i) (h : bok i = true) : encL (rowOf i.1 false) i.1 i.2.1 i.2.2.1 i.2.2.2 = encH i := by
  unfold bok at h
  obtain ⟨r, _⟩ := may_parts h
  unfold encH; rw [(row_host i.1 o.1.1 o.1.2 r).1]
def layI (next : Int) (A : List Int) (k : Nat) (i : In4) : List It :=
  match lay4 next i with
  | none => []
  | some h => [(h, A.getD k 0, (k : Int), -1)]
def runI (next : Int) (I : List In4) (A : List Int) : Nat → List It
  | 0 => []
  | k + 1 => runI next I A k ++ layI next A k (I.getD k In4.z)
def outI (pc done exit : Int) : List It := [((112, 0, 0, done), pc, done, -1), ((113, 0, 0, exit), pc, 0, exit)]
def trI (I : List In4) (A : List Int) (next tgt e first : Int) : List It :=
  if e = 2 then runI next I A I.length ++ outI tgt I.length first
  else if e = 3 then (runI next I A I.length ++ outI next I.length first) ++ outI tgt I.length (first + 1)
  else if e = 4 then runI next I A (I.length - 1) ++ outI (A.getD (I.length - 1) 0) ((I.length : Int) - 1) first
  else runI next I A I.length ++ outI next I.length first
theorem layI_le (next : Int) (A : List Int) (k : Nat) (i : In4) : (layI next A k i).length ≤ 1 := by
  unfold layI; split <;> simp
theorem runI_len (next : Int) (I : List In4) (A : List Int) : ∀ k, (runI next I A k).length ≤ k
  | 0 => Nat.le_refl _
  | k + 1 => by
    have := runI_len next I A k
    have := layI_le next A k (I.getD k In4.z)
    unfold runI; rw [List.length_append]; omega
theorem runI_mem {next : Int} {I : List In4} {A : List Int} : ∀ {k : Nat} {x : It}, k ≤ I.length → x ∈ runI next I A k → ∃ j i h, j < k ∧ I[j]? = some i ∧ lay4 next i = some h ∧ x = (h, A.getD j 0, (j : Int), -1)
  | 0, x, _, hx => by simp [runI] at hx
  | k + 1, x, hk, hx => by
    unfold runI at hx
    rcases List.mem_append.1 hx with h | h
    · obtain ⟨j, i, h', hj, r⟩ := runI_mem (by omega) h
      exact ⟨j, i, h', by omega, r⟩
    · unfold layI at h
      have hg : I[k]? = some (I.getD k In4.z) := by rw [List.getD_eq_getElem?_getD, List.getElem?_eq_getElem (by omega)]; rfl
      cases hl : lay4 next (I.getD k In4.z) with
      | none => rw [hl] at h; simp at h
      | some h' =>
        rw [hl] at h
        exact ⟨k, _, h', by omega, hg, hl, by simpa using h⟩
theorem s32_range {n : Int} (h0 : 0 ≤ n) (h1 : n < 4294967296) : -2147483648 ≤ s32 n ∧ s32 n ≤ 2147483647 := by unfold s32; split <;> omega
theorem lay4_good {next : Int} (hn : 0 ≤ next ∧ next < 4294967296) {i h : In4} (o : In4.Ok i) (hb : bok i = true) (he : bnd i.1 = false ∨ (64 ≤ i.1 ∧ i.1 ≤ 72)) (hl : lay4 next i = some h) :
    GdI h ∧ bok h = true ∧ ((h.1 = 0 ∨ (16 ≤ h.1 ∧ h.1 ≤ 33) ∨ (48 ≤ h.1 ∧ h.1 ≤ 58)) ∨ (h.1 = i.1 ∧ (65 ≤ h.1 ∧ h.1 ≤ 71) ∧ h.2.2.2 = 5)) := by
  obtain ⟨r, m1, m2, _, _⟩ := may_parts (show mayB (rowOf i.1 false) i.2.1 i.2.2.1 i.2.2.2 = true from hb)
  unfold lay4 at hl
  split at hl
  · cases hl
  split at hl
  · cases hl
    have s := s32_range hn.1 hn.2
    have q : bok (32, 6, 0, s32 next) = true := by
      have e : rowOf 32 false = 9 := by decide
      unfold bok mayB
      simp only [e]
      have l : lo 9 = -2147483648 := by decide
      have u : hi 9 = 2147483647 := by decide
      have a1 : f1 9 = 7 := by decide
      have a2 : f2 9 = 0 := by decide
      rw [l, u, a1, a2]
      simp; omega
    have q0 : In4.Ok (32, 6, 0, s32 next) := In4.ok (by omega) (by omega) (by omega) s
    exact ⟨gd_of_bok q0 q, q, .inl (.inr (.inl (show (16 : Int) ≤ 32 ∧ (32 : Int) ≤ 33 by omega)))⟩
  split at hl
  · rename_i h1 h2 h3
    cases hl
    have e : rowOf i.1 false = 7 := by
      have := byte_all (p := fun op => decide (65 ≤ op ∧ op ≤ 71 → rowOf op false = 7)) (by decide +kernel) i.1 o.1.1 o.1.2
      exact (of_decide_eq_true this) h3
    have q : bok (i.1, i.2.1, i.2.2.1, 5) = true := by
      unfold bok mayB
      simp only
      rw [e] at m1 m2 ⊢
      have l : lo 7 = -32768 := by decide
      have u : hi 7 = 32767 := by decide
      rw [l, u]
      simp [m1, m2]
    have q0 : In4.Ok (i.1, i.2.1, i.2.2.1, 5) := In4.ok o.1 o.2.1 o.2.2.1 (by omega)
    exact ⟨gd_of_bok q0 q, q, .inr ⟨rfl, h3, rfl⟩⟩
  · rename_i h1 h2 h3
    cases hl
    have hb2 : bnd i.1 = false := by
      rcases he with h | h
      · exact h
      · omega
    exact ⟨gd_of_bok o hb, hb, .inl (pln_op i.1 o.1.1 o.1.2 hb2 r)⟩
theorem gd_tally {n : Int} (h0 : 0 ≤ n) (h1 : n ≤ 255) : GdI (112, 0, 0, n) := by
  refine ⟨In4.ok (by omega) (by omega) (by omega) (by omega), ?_⟩
  have e : rowOf 112 true = 4 := by decide
  unfold mayB
  simp only [e]
  have l : lo 4 = 0 := by decide
  have u : hi 4 = 255 := by decide
  rw [l, u]
  simp [h0, h1]; decide
theorem gd_leave {n : Int} (h0 : 0 ≤ n) (h1 : n ≤ 65535) : GdI (113, 0, 0, n) := by
  refine ⟨In4.ok (by omega) (by omega) (by omega) (by omega), ?_⟩
  have e : rowOf 113 true = 8 := by decide
  unfold mayB
  simp only [e]
  have l : lo 8 = 0 := by decide
  have u : hi 8 = 65535 := by decide
  rw [l, u]
  simp [h0, h1]; decide
theorem enc_tally {n : Int} (h0 : 0 ≤ n) (h1 : n ≤ 255) : encH (112, 0, 0, n) = [112, n] := by
  have e : rowOf 112 true = 4 := by decide
  unfold encH
  simp only [e]
  unfold encL preL
  have f : f3 4 = 1 := by decide
  have a : hasA 4 = false := by decide
  rw [f, a]
  simp [byteAt, List.range_succ]
  omega
theorem enc_leave {n : Int} (h0 : 0 ≤ n) (h1 : n ≤ 65535) : encH (113, 0, 0, n) = [113, n % 256, n / 256] := by
  have e : rowOf 113 true = 8 := by decide
  unfold encH
  simp only [e]
  unfold encL preL
  have f : f3 8 = 2 := by decide
  have a : hasA 8 = false := by decide
  rw [f, a]
  simp [byteAt, List.range_succ]
  omega
def Lies (w : World) (x : Option Addr) (zs : List Value) : Prop := zs = [] ∨ ∃ b off : Nat, x = some ⟨b, off, none⟩ ∧ b < w.heap.size ∧ ∀ j u, zs[j]? = some u → w.cell? ⟨b, off + j, none⟩ = some u
theorem Lies.put {w w' : World} {x : Option Addr} {zs : List Value} {l : List Nat} (h : Lies w x zs) (k : Put l w w') (hl : ∀ b off, x = some ⟨b, off, none⟩ → b < w.heap.size → b ∉ l) : Lies w' x zs := by
  rcases h with h | ⟨b, off, e, hb, hc⟩
  · exact .inl h
  · exact .inr ⟨b, off, e, Nat.lt_of_lt_of_le hb k.size, fun j u hj => (k.cell hb (hl b off e hb)).trans (hc j u hj)⟩
theorem Lies.kep {w w' : World} {x : Option Addr} {zs : List Value} (h : Lies w x zs) (k : Kep w w') : Lies w' x zs := h.put (l := []) (Put.of_kep k) (by simp)
theorem Sli.lies {w : World} {e : TypeId} {z : Nat} {v : Value} {n : Nat} {xs : List Value} {F : List Nat} (h : Sli w e z v n xs F) : ∃ x cap, v = .slice x n cap ∧ Lies w x xs ∧ n ≤ cap ∧ cap ≤ maxLen ∧ (x = none → n = 0 ∧ cap = 0) := by
  rcases h.form with ⟨rfl, rfl, rfl, _⟩ | ⟨g, off, cap, rfl, _, h1, h2, hg, hc, _⟩
  · exact ⟨none, 0, rfl, .inl rfl, Nat.le_refl _, by simp [maxLen], fun _ => ⟨rfl, rfl⟩⟩
  · exact ⟨_, cap, rfl, .inr ⟨g, off, rfl, hg, hc⟩, h1, h2, fun e => by cases e⟩
abbrev blkC (vI vA : Value) (n t e : Int) (vF vT : Value) : Array Value := #[vI, vA, .int .u32 n, .int .u32 t, .int .i64 e, vF, vT]
abbrev nilS : Value := .slice none 0 0
theorem size_blk : (Tryd.prog.info? 27).map (·.size) = some 7 := by kernel_rfl
def num (k : IntKind) (l : List Int) : List Value := l.map (Value.int k)
theorem num_len (k : IntKind) (l : List Int) : (num k l).length = l.length := by simp [num]
theorem lies_in19 {w : World} {x : Option Addr} {C : List In4} (h : Lies w x (inss C)) {k : Nat} {e : In4} (he : C[k]? = some e) : ∃ b off : Nat, x = some ⟨b, off, none⟩ ∧ w.rangeAt b (off + k * 4) (inV e) := by
  rcases h with h | ⟨b, off, rfl, _, hc⟩
  · have := inss_at C k e he 0 (by decide)
    rw [h] at this; simp [inV] at this
  · refine ⟨b, off, rfl, fun j v hv => ?_⟩
    have hj : j < 4 := (List.getElem?_eq_some_iff.1 hv).1
    rw [Nat.add_assoc]
    exact hc (k * 4 + j) v ((inss_at C k e he j hj).trans hv)
theorem lies_nu19 {w : World} {x : Option Addr} {kd : IntKind} {L : List Int} (h : Lies w x (num kd L)) {k : Nat} {v : Int} (he : L[k]? = some v) : ∃ b off : Nat, x = some ⟨b, off, none⟩ ∧ w.cell? ⟨b, off + k, none⟩ = some (.int kd v) := by
  have hn : (num kd L)[k]? = some (.int kd v) := by unfold num; rw [List.getElem?_map, he]; rfl
  rcases h with h | ⟨b, off, rfl, _, hc⟩
  · rw [h] at hn; simp at hn
  · exact ⟨b, off, rfl, hc k _ hn⟩
end Go.Proofs.YtpalbpjmjbcelaaDoor
namespace Go.Proofs.YtpalbpjmjbcelaaDoor
open Go.RowKit Go.WideShapes Go.ChangeShapes Go.ChangeAt
set_option linter.unusedVariables false
theorem list4 {α : Type} (l : List α) (h : l.length = 4) : ∃ a b c d, l = [a, b, c, d] := by
  match l, h with
  | [a, b, c, d], _ => exact ⟨a, b, c, d, rfl⟩
theorem no_spot {w : World} {b off : Nat} {s : Option Nat} {v : Value} (h : w.cell? ⟨b, off, s⟩ = some v) : s = none := by
  cases s with
  | none => rfl
  | some t => exfalso; simp [World.cell?] at h; revert h; split <;> simp
end Go.Proofs.YtpalbpjmjbcelaaDoor
namespace Go.Proofs.YtpalbpjmjbcelaaDoor
open Go.RowKit Go.WideShapes Go.ChangeShapes Go.ChangeAt
set_option linter.unusedVariables false
theorem gu8_of {a : Int} (h : (Lit.int .u8 a).wf = true) : 0 ≤ a ∧ a < 256 := by
  simp [Lit.wf, IntKind.min, IntKind.max, IntKind.signed, IntKind.bits] at h
  omega
theorem gi32_of {a : Int} (h : (Lit.int .i32 a).wf = true) : -2147483648 ≤ a ∧ a ≤ 2147483647 := by
  simp [Lit.wf, IntKind.min, IntKind.max, IntKind.signed, IntKind.bits] at h
  omega
theorem ginss_len : ∀ C : List In4, (inss C).length = C.length * 4
  | [] => rfl
  | i :: C => by
    have := ginss_len C
    unfold inss at this ⊢
    rw [List.flatMap_cons, List.length_append, this, List.length_cons]
    show 4 + _ = _
    omega
set_option maxHeartbeats 1000000 in
theorem gins_one {H : Type} {enc : TypeId × Value → H} {w : World} {base : Nat} {sp : Nat → Bool} {held : Bool} {fuel : Nat} {v : Value} {y : DataW H × List MemPlace}
    (h : DataW.trod enc Tryd.prog w base sp held fuel 22 [v] = some y) : ∃ x l c, ∃ C : List In4, v = .slice x l c ∧ C.length = l ∧ l ≤ c ∧ (c : Int) ≤ 9223372036854775807 ∧ Lies w x (inss C) ∧ ∀ i ∈ C, In4.Ok i := by
  rcases Go.Deep.open_slice Tryd.underlying22 h with ⟨hcs, _⟩ | ⟨a, l, c, m, n, D, Pl, hcs, _, hl, hm, hmm, hsp, hx⟩
  · obtain rfl : v = .slice none 0 0 := by simpa using hcs
    exact ⟨_, _, _, [], rfl, rfl, Nat.le_refl _, by decide, .inl rfl, by simp⟩
  · obtain rfl : v = .slice (some a) l c := by simpa using hcs
    have c4 : Tryd.prog.cellsOf 43 = 4 := by kernel_rfl
    have hlm : l ≤ m := by rw [hmm]; split <;> omega
    have each : ∀ i, ∃ q : In4, i < l → (∀ j, j < 4 → w.cell? ((a.add (i * 4)).add j) = (inV q)[j]?) ∧ In4.Ok q := by
      intro i
      by_cases hi : i < l
      · obtain ⟨cs, h1, h2⟩ := hx i (by omega)
        rw [c4] at h1
        obtain ⟨_, hlen, hcell⟩ := World.cells?_some h1
        obtain ⟨v0, v1, v2, v3, rfl⟩ := list4 cs hlen
        obtain ⟨y0, y1, y2, y3, k, _, _, g0, g1, g2, g3⟩ := Joins.trod_struct4 Tryd.underlying43 h2
        have c5 : Tryd.prog.cellsOf 5 = 1 := by kernel_rfl
        have c6 : Tryd.prog.cellsOf 21 = 1 := by kernel_rfl
        rw [c5] at g0 g1 g2
        rw [c6] at g3
        obtain ⟨z0, e0, _, q0⟩ := DataW.trod_int Tryd.underlying5 g0
        obtain ⟨z1, e1, _, q1⟩ := DataW.trod_int Tryd.underlying5 g1
        obtain ⟨z2, e2, _, q2⟩ := DataW.trod_int Tryd.underlying5 g2
        obtain ⟨z3, e3, _, q3⟩ := DataW.trod_int Tryd.underlying21 g3
        simp at e0 e1 e2 e3
        subst e0 e1 e2 e3
        exact ⟨(z0, z1, z2, z3), fun _ => ⟨fun j hj => by
          have := hcell j (by simpa using hj)
          rw [this]
          rfl, gu8_of q0, gu8_of q1, gu8_of q2, gi32_of q3⟩⟩
      · exact ⟨(0, 0, 0, 0), fun h => absurd h hi⟩
    obtain ⟨f, hf⟩ := Classical.axiomOfChoice each
    have okf : ∀ i ∈ (List.range l).map f, In4.Ok i := fun i hi => by
      obtain ⟨k, hk, rfl⟩ := List.mem_map.1 hi
      exact (hf k (List.mem_range.1 hk)).2
    refine ⟨_, _, _, (List.range l).map f, rfl, by simp, hl, by unfold maxLen at hm; omega, ?_, okf⟩
    rcases Nat.eq_zero_or_pos l with h0 | h0
    · subst h0
      exact .inl rfl
    · obtain ⟨b, off, s⟩ := a
      have hc0 := (hf 0 h0).1 0 (by omega)
      have hc1 : w.cell? (((⟨b, off, s⟩ : Addr).add (0 * 4)).add 0) = some (.int .u8 (f 0).1) := hc0
      have hs : s = none := by simp only [Addr.add] at hc1; exact no_spot hc1
      subst hs
      refine .inr ⟨b, off, rfl, World.block_lt_of_cell? w _ hc1, fun j u hj => ?_⟩
      have hlen : (inss ((List.range l).map f)).length = l * 4 := by rw [ginss_len]; simp
      have hjl : j < l * 4 := by rw [← hlen]; exact (List.getElem?_eq_some_iff.1 hj).1
      have hk : j / 4 < l := by omega
      have e := inss_at ((List.range l).map f) (j / 4) (f (j / 4)) (by simp [hk]) (j % 4) (by omega)
      rw [show j / 4 * 4 + j % 4 = j by omega, hj] at e
      have d := (hf (j / 4) hk).1 (j % 4) (by omega)
      rw [Addr.add_lit, Addr.add_lit, show off + j / 4 * 4 + j % 4 = off + j by omega] at d
      rw [d, ← e]
end Go.Proofs.YtpalbpjmjbcelaaDoor
namespace Go.Proofs.YtpalbpjmjbcelaaDoor
open Go.RowKit Go.WideShapes Go.ChangeShapes Go.ChangeAt
set_option linter.unusedVariables false
theorem ints_one {H : Type} {enc : TypeId × Value → H} {P : Program} {w : World} {base : Nat} {sp : Nat → Bool} {held : Bool} {fuel : Nat} {t e : TypeId} {k : IntKind} {v : Value} {y : DataW H × List MemPlace} (ht : P.underlying t = some (.slice e)) (he : P.underlying e = some (.int k)) (hc : P.cellsOf e = 1)
    (h : DataW.trod enc P w base sp held fuel t [v] = some y) : ∃ x l c, ∃ zs : List Int, v = .slice x l c ∧ zs.length = l ∧ l ≤ c ∧ (c : Int) ≤ 9223372036854775807 ∧ Lies w x (num k zs) ∧ ∀ n ∈ zs, (Lit.int k n).wf = true := by
  rcases open_ints ht he hc h with ⟨hcs, _⟩ | ⟨a, l', c', zs, hcs, _, hl, hm, hz, _, hcell, hwz⟩
  · obtain rfl : v = .slice none 0 0 := by simpa using hcs
    exact ⟨none, 0, 0, [], rfl, rfl, Nat.le_refl _, by omega, .inl rfl, fun b hb => by simp at hb⟩
  · obtain rfl : v = .slice (some a) l' c' := by simpa using hcs
    have hzl : l' ≤ zs.length := by rw [hz]; split <;> omega
    refine ⟨some a, l', c', zs.take l', rfl, by simp; omega, hl, by unfold maxLen at hm; omega, ?_, fun b hb => hwz b (List.take_subset _ _ hb)⟩
    rcases Nat.eq_zero_or_pos l' with rfl | hpos
    · exact .inl (by simp [num])
    right
    obtain ⟨b, off, s⟩ := a
    have h0 := hcell 0 (by omega)
    have hs : s = none := no_spot h0
    subst hs
    refine ⟨b, off, rfl, World.block_lt_of_cell? w _ h0, fun j u hj => ?_⟩
    have hj1 := (List.getElem?_eq_some_iff.1 hj).1
    rw [num_len, List.length_take] at hj1
    have := hcell j (by omega)
    rw [Addr.add_lit] at this
    rw [this, ← hj]
    unfold num
    rw [List.getElem?_map, List.getElem?_take_of_lt (by omega)]
    simp [List.getD, show j < zs.length by omega]
structure BlkIn (w : World) (xi : Option Addr) (li ci : Nat) (I : List In4) (xa : Option Addr) (la ca : Nat) (A : List Int) (n t e : Int) : Prop where
  il : I.length = li
  ic : li ≤ ci
  im : (ci : Int) ≤ 9223372036854775807
  ii : Lies w xi (inss I)
  io : ∀ i ∈ I, In4.Ok i
  al : A.length = la
  ac : la ≤ ca
  am : (ca : Int) ≤ 9223372036854775807
  ai : Lies w xa (num .u32 A)
  ao : ∀ a ∈ A, 0 ≤ a ∧ a < 4294967296
  hn : 0 ≤ n ∧ n < 4294967296
  ht : 0 ≤ t ∧ t < 4294967296
  he : -9223372036854775808 ≤ e ∧ e ≤ 9223372036854775807
theorem BlkIn.kep {w w' : World} {xi : Option Addr} {li ci : Nat} {I : List In4} {xa : Option Addr} {la ca : Nat} {A : List Int} {n t e : Int} (h : BlkIn w xi li ci I xa la ca A n t e) (k : Kep w w') : BlkIn w' xi li ci I xa la ca A n t e :=
  ⟨h.il, h.ic, h.im, h.ii.kep k, h.io, h.al, h.ac, h.am, h.ai.kep k, h.ao, h.hn, h.ht, h.he⟩
theorem list7 {α : Type} (l : List α) (h : l.length = 7) : ∃ a b c d e f g, l = [a, b, c, d, e, f, g] := by
  match l, h with
  | [a, b, c, d, e, f, g], _ => exact ⟨a, b, c, d, e, f, g, rfl⟩
set_option maxRecDepth 100000 in
set_option maxHeartbeats 2000000 in
theorem open_blk {H : Type} {enc : TypeId × Value → H} {w : World} {r : Reach} {b0 base : Nat} {sp : Nat → Bool} {held : Bool} {v : Value} {d : DataW H} {p : List MemPlace} (hv : Value.okWide Tryd.prog w r b0 27 v) (h : DataW.Trod enc Tryd.prog w base sp held 27 v d p) :
    ∃ (xi : Option Addr) (li ci : Nat) (I : List In4) (xa : Option Addr) (la ca : Nat) (A : List Int) (n t e : Int) (xf : Option Addr) (lf cf : Nat) (xt : Option Addr) (lt ct : Nat),
      v = .agg (blkC (.slice xi li ci) (.slice xa la ca) n t e (.slice xf lf cf) (.slice xt lt ct)) ∧ BlkIn w xi li ci I xa la ca A n t e := by
  have ht := Tryd.underlying27
  have c1 : Tryd.prog.cellsOf 22 = 1 := by kernel_rfl
  have c2 : Tryd.prog.cellsOf 23 = 1 := by kernel_rfl
  have c3 : Tryd.prog.cellsOf 24 = 1 := by kernel_rfl
  have c4 : Tryd.prog.cellsOf 3 = 1 := by kernel_rfl
  have c5 : Tryd.prog.cellsOf 25 = 1 := by kernel_rfl
  have hn : Tryd.prog.cellsOf 27 = 7 := by kernel_rfl
  obtain ⟨cs, rfl, hsz⟩ := okWide_struct ht hv
  rw [hn] at hsz
  obtain ⟨fuel, hf⟩ := h
  obtain ⟨xs, nn, _, _, hl, hxl, hx⟩ := DataW.trod_struct ht hf
  have hxs : xs.length = 7 := hxl
  obtain ⟨L⟩ := cs
  obtain ⟨v0, v1, v2, v3, v4, v5, v6, rfl⟩ := list7 L hsz
  have g0 : DataW.trod enc Tryd.prog w base sp held nn 22 ((([v0, v1, v2, v3, v4, v5, v6]).drop 0).take (Tryd.prog.cellsOf 22)) = xs[0]? := hx 0 _ rfl
  have g1 : DataW.trod enc Tryd.prog w base sp held nn 23 ((([v0, v1, v2, v3, v4, v5, v6]).drop 1).take (Tryd.prog.cellsOf 23)) = xs[1]? := hx 1 _ rfl
  have g2 : DataW.trod enc Tryd.prog w base sp held nn 24 ((([v0, v1, v2, v3, v4, v5, v6]).drop 2).take (Tryd.prog.cellsOf 24)) = xs[2]? := hx 2 _ rfl
  have g3 : DataW.trod enc Tryd.prog w base sp held nn 24 ((([v0, v1, v2, v3, v4, v5, v6]).drop 3).take (Tryd.prog.cellsOf 24)) = xs[3]? := hx 3 _ rfl
  have g4 : DataW.trod enc Tryd.prog w base sp held nn 3 ((([v0, v1, v2, v3, v4, v5, v6]).drop 4).take (Tryd.prog.cellsOf 3)) = xs[4]? := hx 4 _ rfl
  have g5 : DataW.trod enc Tryd.prog w base sp held nn 25 ((([v0, v1, v2, v3, v4, v5, v6]).drop 5).take (Tryd.prog.cellsOf 25)) = xs[5]? := hx 5 _ rfl
  have g6 : DataW.trod enc Tryd.prog w base sp held nn 25 ((([v0, v1, v2, v3, v4, v5, v6]).drop 6).take (Tryd.prog.cellsOf 25)) = xs[6]? := hx 6 _ rfl
  rw [c1, List.getElem?_eq_getElem (by omega)] at g0
  rw [c2, List.getElem?_eq_getElem (by omega)] at g1
  rw [c3, List.getElem?_eq_getElem (by omega)] at g2 g3
  rw [c4, List.getElem?_eq_getElem (by omega)] at g4
  rw [c5, List.getElem?_eq_getElem (by omega)] at g5 g6
  obtain ⟨xi, li, ci, I, rfl, h1, h2, h3, h4, h5⟩ := gins_one (v := v0) g0
  obtain ⟨xa, la, ca, A, rfl, k1, k2, k3, k4, k5⟩ := ints_one Tryd.underlying23 Tryd.underlying24 c3 (v := v1) g1
  obtain ⟨n, e2, _, q2⟩ := DataW.trod_int Tryd.underlying24 g2
  obtain ⟨t, e3, _, q3⟩ := DataW.trod_int Tryd.underlying24 g3
  obtain ⟨e, e4, _, q4⟩ := DataW.trod_int Tryd.underlying3 g4
  obtain ⟨xf, lf, cf, _, rfl, _⟩ := ints_one Tryd.underlying25 Tryd.underlying3 c4 (v := v5) g5
  obtain ⟨xt, lt, ct, _, rfl, _⟩ := ints_one Tryd.underlying25 Tryd.underlying3 c4 (v := v6) g6
  obtain rfl : v2 = .int .u32 n := by simpa using e2
  obtain rfl : v3 = .int .u32 t := by simpa using e3
  obtain rfl : v4 = .int .i64 e := by simpa using e4
  exact ⟨xi, li, ci, I, xa, la, ca, A, n, t, e, xf, lf, cf, xt, lt, ct, rfl, h1, h2, h3, h4, h5, k1, k2, k3, k4, fun a ha => u32_of (k5 a ha), u32_of q2, u32_of q3, i64_of q4⟩
end Go.Proofs.YtpalbpjmjbcelaaDoor
namespace Go.Proofs.YtpalbpjmjbcelaaDoor
open Go.RowKit
set_option linter.unusedVariables false
set_option linter.unusedSimpArgs false
theorem blkA {P : Prop} (h : P := by (repeat (first | (with_reducible assumption) | (with_reducible exact Hid.out (by assumption)) | (with_reducible refine (hsk _ _ _ (by (first | omega | (simp only [World.size_alloc, World.size_setCell, size_setRow, World.size_drew]; done) | (simp only [World.size_alloc, World.size_setCell, size_setRow, World.size_drew]; omega)))).trans ?_) | (with_reducible refine (hat _ _ _ (by (first | omega | (simp only [World.size_alloc, World.size_setCell, size_setRow, World.size_drew]; done) | (simp only [World.size_alloc, World.size_setCell, size_setRow, World.size_drew]; omega))))) | (with_reducible refine Kep.block (Kep.alloc (Kep.refl _) _) ?_) | (with_reducible refine (heap_setCell_other _ _ _ _ (by (first | omega | (simp only []; omega) | (show _ ≠ _; omega)))).trans ?_) | (with_reducible refine (setRow_other _ _ _ _ (by (first | omega | (simp only []; omega) | (show _ ≠ _; omega)))).trans ?_) | (with_reducible refine (drew_heap _ _).trans ?_) | (with_reducible refine (drewN_heap _ _ _).trans ?_) | (with_reducible refine Kep.block (by assumption) ?_) | (with_reducible exact setRow_heap _ _ _ _ _ _ (by (repeat (first | (with_reducible assumption) | (with_reducible exact Hid.out (by assumption)) | (with_reducible refine (hsk _ _ _ (by (first | omega | (simp only [World.size_alloc, World.size_setCell, size_setRow, World.size_drew]; done) | (simp only [World.size_alloc, World.size_setCell, size_setRow, World.size_drew]; omega)))).trans ?_) | (with_reducible refine (hat _ _ _ (by (first | omega | (simp only [World.size_alloc, World.size_setCell, size_setRow, World.size_drew]; done) | (simp only [World.size_alloc, World.size_setCell, size_setRow, World.size_drew]; omega))))) | (with_reducible refine Kep.block (Kep.alloc (Kep.refl _) _) ?_) | (with_reducible refine (heap_setCell_other _ _ _ _ (by (first | omega | (simp only []; omega) | (show _ ≠ _; omega)))).trans ?_) | (with_reducible refine (setRow_other _ _ _ _ (by (first | omega | (simp only []; omega) | (show _ ≠ _; omega)))).trans ?_) | (with_reducible refine (drew_heap _ _).trans ?_) | (with_reducible refine (drewN_heap _ _ _).trans ?_)))))))) : P := h
theorem kepA {P : Prop} (h : P := by (repeat (first | (with_reducible assumption) | (with_reducible exact Kep.refl _) | (with_reducible exact Hid.out (by assumption)) | (with_reducible refine Kep.alloc ?_ _) | (with_reducible refine Kep.drew ?_) | (with_reducible refine Kep.drewN ?_ _) | (with_reducible refine Kep.setRow ?_ _ _ (by (first | omega | (simp only [World.size_alloc, World.size_setCell, size_setRow, World.size_drew]; done) | (simp only [World.size_alloc, World.size_setCell, size_setRow, World.size_drew]; omega)))) | (with_reducible refine Kep.setCell ?_ (by first | omega | (simp only []; omega) | (show _ ≤ _; omega)) _)))) : P := h
theorem hidd {p : Prop} (h : p) : Hid p := h
structure KW (w : World) where
  val : World
  ok : Kep w val
theorem quiet_row {P : Program} {ops : Array Oper} {C : World → Prop} {Q : Act → Prop} {a : Act} {o : Oper} {rest : List Oper} (ty : TypeId) (x : Operand) (ho : o.op = .load ty x) (g : Nat) (hx : a.eval x = .pointer (some ⟨g, 0, none⟩)) (hw : Region.wanted o (yielded ops a.tmps) = true)
    (t : TypeId) (cs : Array Value) (fr : Nat × Nat) (d : TypeDesc) (hC : ∀ w, C w → w.heap[g]? = some (.cells cs t fr)) (hu : P.underlying ty = some d) (hd : (match d with | .struct _ | .array _ _ => true | _ => false) = true) (hi : (P.info? ty).map (·.size) = some cs.size)
    (h : wpQuiet P ops C Q rest (a.put o.dst (.agg cs))) : wpQuiet P ops C Q (o :: rest) a :=
  wpQuiet_step fun K hK => by
    rw [if_pos hw]
    refine ⟨.agg cs, fun w hc => ?_, hK _ h⟩
    unfold Oper.quietAt execOp
    simp only [ho, hx, Instr.loadAt, Instr.sureAddr, Sem.run_bind, Sem.run_pure, Result.andThen_ok, run_loadVar_row w g t ty cs fr d (hC w hc) hu hd hi]
    exact ⟨rfl, rfl⟩
theorem yields_row {P : Program} {ops : Array Oper} {S : World → Prop} {o : Oper} {a : Act} (hg : o.guard = none) (ty : TypeId) (x : Operand) (ho : o.op = .load ty x) (g : Nat) (hx : a.eval x = .pointer (some ⟨g, 0, none⟩)) (t : TypeId) (cs : Array Value) (fr : Nat × Nat) (d : TypeDesc)
    (hS : ∀ w, S w → w.heap[g]? = some (.cells cs t fr)) (hu : P.underlying ty = some d) (hd : (match d with | .struct _ | .array _ _ => true | _ => false) = true) (hi : (P.info? ty).map (·.size) = some cs.size) : YieldsIf P ops S o (.agg cs) a :=
  .inl ⟨by simp [Region.wanted, hg], fun w h => by
    unfold execOp
    simp only [ho, hx, Instr.loadAt, Instr.sureAddr, Sem.run_bind, Sem.run_pure, Result.andThen_ok, run_loadVar_row w g t ty cs fr d (hS w h) hu hd hi]⟩
end Go.Proofs.YtpalbpjmjbcelaaDoor
