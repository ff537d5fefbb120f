/- A block that may be, and the code that is made of it, as lists. -/
import Derived.Test.YtpalbpjmjbcelaaDoorStrb
import Derived.Test.YtpalbpjmjbcelaaDoorKway
import Derived.Test.YtpalbpjmjbcelaaDoorIn4
import Derived.Test.YtpalbpjmjbcelaaDoorSlin
namespace Go.Proofs.YtpalbpjmjbcelaaDoor
open Go.RowKit
set_option linter.unusedVariables false
set_option linter.unusedSimpArgs false

abbrev In4.z : In4 := (0, 0, 0, 0)
/-- The instruction may be, of a guest; it ends a block; the End of a block that it ends. -/
def bok (i : In4) : Bool := mayB (rowOf i.1 false) i.2.1 i.2.2.1 i.2.2.2
def bnd (op : Int) : Bool := gE (tabF op)
def bEnd (op : Int) : Int := if bnd op = false then 1 else if op = 64 ∨ op = 72 then 2 else if 65 ≤ op ∧ op ≤ 71 then 3 else 4
def pln (i : In4) : Bool := bok i && !bnd i.1
def mid (I : List In4) : Bool := I.all pln
def lastI (I : List In4) : In4 := I.getD (I.length - 1) In4.z
def fitL (n nA : Nat) : Bool := decide (1 ≤ n ∧ n ≤ 32 ∧ nA = n)
def mayL (I : List In4) (nA : Nat) (e : Int) : Bool := fitL I.length nA && (mid (I.take (I.length - 1)) && (bok (lastI I) && decide (e = bEnd (lastI I).1)))

theorem mid_succ {I : List In4} {k : Nat} {i : In4} (h : I[k]? = some i) : mid (I.take (k + 1)) = (mid (I.take k) && pln i) := by
  unfold mid
  have hk := (List.getElem?_eq_some_iff.1 h)
  obtain ⟨h1, h2⟩ := hk
  rw [List.take_add_one, h]
  simp
theorem mid_no {I : List In4} {k m : Nat} {i : In4} (h : I[k]? = some i) (hk : k < m) (hp : pln i = false) : mid (I.take m) = false := by
  unfold mid
  rw [List.all_eq_false]
  refine ⟨i, ?_, by simp [hp]⟩
  exact List.mem_of_getElem? (i := k) (by rw [List.getElem?_take_of_lt hk]; exact h)
theorem mid_at {I : List In4} {k m : Nat} {i : In4} (h : I[k]? = some i) (hk : k < m) (hp : mid (I.take m) = true) : bok i = true ∧ bnd i.1 = false := by
  cases hq : pln i with
  | true => unfold pln at hq; simpa using hq
  | false => rw [mid_no h hk hq] at hp; cases hp
theorem last_at {I : List In4} (h : 1 ≤ I.length) : I[I.length - 1]? = some (lastI I) := by
  unfold lastI
  rw [List.getD_eq_getElem?_getD, List.getElem?_eq_getElem (by omega)]; rfl

/-- What a table of 256 says of operations. -/
theorem bnd_cf (op : Int) (h0 : 64 ≤ op) (h1 : op ≤ 72) : bnd op = true := by
  have := byte_all (p := fun op => decide (64 ≤ op ∧ op ≤ 72 → bnd op = true)) (by decide +kernel) op (by omega) (by omega)
  simpa using (of_decide_eq_true this) ⟨h0, h1⟩
theorem pln_op (op : Int) (h0 : 0 ≤ op) (h1 : op < 256) (hb : bnd op = false) (hr : rowOf op false ≠ 0) : op = 0 ∨ (16 ≤ op ∧ op ≤ 33) ∨ (48 ≤ op ∧ op ≤ 58) := by
  have := byte_all (p := fun op => decide (bnd op = false → rowOf op false ≠ 0 → op = 0 ∨ (16 ≤ op ∧ op ≤ 33) ∨ (48 ≤ op ∧ op ≤ 58))) (by decide +kernel) op h0 h1
  exact (of_decide_eq_true this) hb hr
theorem row_host (op : Int) (h0 : 0 ≤ op) (h1 : op < 256) (hr : rowOf op false ≠ 0) : rowOf op true = rowOf op false ∧ op ≠ 112 ∧ op ≠ 113 := by
  have := byte_all (p := fun op => decide (rowOf op false ≠ 0 → rowOf op true = rowOf op false ∧ op ≠ 112 ∧ op ≠ 113)) (by decide +kernel) op h0 h1
  exact (of_decide_eq_true this) hr

/-- What is laid in an instruction's place. -/
def s32 (n : Int) : Int := if n < 2147483648 then n else n - 4294967296
def lay4 (next : Int) (i : In4) : Option In4 :=
  if i.1 = 64 then none else if i.1 = 72 then some (32, 6, 0, s32 next) else if 65 ≤ i.1 ∧ i.1 ≤ 71 then some (i.1, i.2.1, i.2.2.1, 5) else some i
/-- An item of code: what is laid, and its row but for Off: PC, Done, Exit. -/
abbrev It := In4 × Int × Int × Int
def encH (h : In4) : List Int := encL (rowOf h.1 true) h.1 h.2.1 h.2.2.1 h.2.2.2
def itB (L : List It) : List Int := L.flatMap fun x => encH x.1
abbrev Rw4 := Int × Int × Int × Int
def itRo : Nat → List It → List Rw4
  | _, [] => []
  | o, x :: r => ((o : Int), x.2) :: itRo (o + (encH x.1).length) r
def itR (L : List It) : List Rw4 := itRo 0 L
def rwV (r : Rw4) : List Value := [.int .i64 r.1, .int .u32 r.2.1, .int .i64 r.2.2.1, .int .i64 r.2.2.2]
def rws (R : List Rw4) : List Value := R.flatMap rwV
theorem itB_append (L M : List It) : itB (L ++ M) = itB L ++ itB M := by simp [itB]
theorem itB_one (x : It) : itB [x] = encH x.1 := by simp [itB]
theorem itRo_append (L M : List It) : ∀ o, itRo o (L ++ M) = itRo o L ++ itRo (o + (itB L).length) M := by
  induction L with
  | nil => intro o; simp [itRo, itB]
  | cons x r ih =>
    intro o
    have e : (itB (x :: r)).length = (encH x.1).length + (itB r).length := by simp [itB]
    rw [List.cons_append, itRo, itRo, ih, e, Nat.add_assoc]; rfl
theorem itR_more (L : List It) (x : It) : itR (L ++ [x]) = itR L ++ [(((itB L).length : Int), x.2)] := by
  unfold itR; rw [itRo_append]; simp [itRo]
theorem itRo_len (L : List It) : ∀ o, (itRo o L).length = L.length := by
  induction L with
  | nil => intro o; rfl
  | cons x r ih => intro o; simp [itRo, ih]
theorem itR_len (L : List It) : (itR L).length = L.length := itRo_len L 0
theorem rws_append (R S : List Rw4) : rws (R ++ S) = rws R ++ rws S := by simp [rws]
theorem rws_len (R : List Rw4) : (rws R).length = R.length * 4 := by
  induction R with
  | nil => rfl
  | cons r R ih =>
    have e : rws (r :: R) = rwV r ++ rws R := rfl
    rw [e, List.length_append, ih, List.length_cons]
    show 4 + _ = _
    omega
theorem itR_at {L : List It} {k : Nat} {x : It} (h : L[k]? = some x) : (itR L)[k]? = some (((itB (L.take k)).length : Int), x.2) := by
  obtain ⟨h1, h2⟩ := List.getElem?_eq_some_iff.1 h
  have e : L = L.take k ++ ([x] ++ L.drop (k + 1)) := by
    have : L.drop k = x :: L.drop (k + 1) := by rw [List.drop_eq_getElem_cons h1, h2]
    rw [show [x] ++ L.drop (k + 1) = L.drop k by rw [this]; rfl, List.take_append_drop]
  unfold itR
  conv => lhs; rw [e]
  rw [itRo_append, List.getElem?_append_right (by rw [itRo_len, List.length_take]; omega), itRo_len, List.length_take, show k - min k L.length = 0 by omega]
  simp [itRo]
theorem rws_at {R : List Rw4} {k : Nat} {r : Rw4} (h : R[k]? = some r) (j : Nat) (hj : j < 4) : (rws R)[k * 4 + j]? = (rwV r)[j]? := by
  induction R generalizing k with
  | nil => simp at h
  | cons a R ih =>
    have hc : rws (a :: R) = rwV a ++ rws R := rfl
    have hl : (rwV a).length = 4 := rfl
    rw [hc]
    cases k with
    | zero =>
      obtain rfl : a = r := by simpa using h
      rw [List.getElem?_append_left (by omega)]
      congr 1; omega
    | succ k =>
      rw [List.getElem?_append_right (by omega), hl, ← ih (k := k) (by simpa using h)]
      congr 1; omega
/-- The bytes from where an item begins. -/
theorem itB_drop {L : List It} {k : Nat} {x : It} (h : L[k]? = some x) : (itB L).drop (itB (L.take k)).length = encH x.1 ++ itB (L.drop (k + 1)) := by
  obtain ⟨h1, h2⟩ := List.getElem?_eq_some_iff.1 h
  have e : L = L.take k ++ ([x] ++ L.drop (k + 1)) := by
    have : L.drop k = x :: L.drop (k + 1) := by rw [List.drop_eq_getElem_cons h1, h2]
    rw [show [x] ++ L.drop (k + 1) = L.drop k by rw [this]; rfl, List.take_append_drop]
  have e2 : itB L = itB (L.take k) ++ (encH x.1 ++ itB (L.drop (k + 1))) := by
    conv => lhs; rw [e]
    rw [itB_append, itB_append, itB_one]
  rw [e2, List.drop_left' rfl]
theorem itB_succ {L : List It} {k : Nat} {x : It} (h : L[k]? = some x) : (itB (L.take (k + 1))).length = (itB (L.take k)).length + (encH x.1).length := by
  rw [List.take_add_one, h]
  simp [itB_append, itB_one]
theorem itB_take_le (L : List It) (k : Nat) : (itB (L.take k)).length ≤ (itB L).length := by
  conv => rhs; rw [← List.take_append_drop k L, itB_append]
  simp

theorem In4.ok {a b c d : Int} (h0 : 0 ≤ a ∧ a < 256) (h1 : 0 ≤ b ∧ b < 256) (h2 : 0 ≤ c ∧ c < 256) (h3 : -2147483648 ≤ d ∧ d ≤ 2147483647) : In4.Ok (a, b, c, d) := ⟨h0, h1, h2, h3⟩
/-- An item that a host can read. -/
def GdI (h : In4) : Prop := In4.Ok h ∧ mayB (rowOf h.1 true) h.2.1 h.2.2.1 h.2.2.2 = true
theorem GdI.row {h : In4} (g : GdI h) : rowOf h.1 true ≠ 0 := (may_parts g.2).1
theorem GdI.ab {h : In4} (g : GdI h) : h.2.1 ≤ 7 ∧ h.2.2.1 ≤ 7 := by
  obtain ⟨_, m1, m2, _, _⟩ := may_parts g.2
  obtain ⟨p1, p2, _, _⟩ := f12 _ (rowOf_lt h.1 true)
  omega
theorem GdI.len {h : In4} (g : GdI h) : 1 ≤ (encH h).length ∧ (encH h).length ≤ 6 := by
  have := enc_len _ h.1 h.2.1 h.2.2.1 h.2.2.2 (rowOf_lt h.1 true) g.row
  unfold encH
  rcases sz_cases _ (rowOf_lt h.1 true) g.row with q | q | q | q <;> omega
theorem GdI.fit {h : In4} (g : GdI h) : ∀ x ∈ encH h, 0 ≤ x ∧ x < 256 :=
  enc_fit _ h.1 h.2.1 h.2.2.1 h.2.2.2 g.1.1.1 g.1.1.2 g.1.2.1.1 g.ab.1 g.1.2.2.1.1 g.ab.2
theorem GdI.dec {h : In4} (g : GdI h) (m : List Int) (len : Nat) (hl : (encH h).length ≤ len) : insD (rowOf h.1 true) (encH h ++ m) len = insA h.1 h.2.1 h.2.2.1 h.2.2.2 ∧ numD (rowOf h.1 true) (encH h ++ m) len = (encH h).length ∧ errD (rowOf h.1 true) (encH h ++ m) len = 0 ∧ zat (encH h ++ m) 0 = h.1 := by
  obtain ⟨m0, m1, m2, m3, m4⟩ := may_parts g.2
  have hlen := enc_len _ h.1 h.2.1 h.2.2.1 h.2.2.2 (rowOf_lt h.1 true) m0
  have hop := enc_op (rowOf h.1 true) h.1 h.2.1 h.2.2.1 h.2.2.2 m
  obtain ⟨b1, b2, b3⟩ := read_back _ (rowOf_lt h.1 true) h.1 h.2.1 h.2.2.1 h.2.2.2 m g.1.2.1.1 g.1.2.2.1.1 g.2
  unfold encH at hl ⊢
  have hok : okD (rowOf h.1 true) (encL (rowOf h.1 true) h.1 h.2.1 h.2.2.1 h.2.2.2 ++ m) len = true := by
    unfold okD
    rw [b1, b2]
    simp only [Bool.and_eq_true, decide_eq_true_eq, bne_iff_ne]
    exact ⟨m0, by omega, m1, m2⟩
  obtain ⟨y1, y2, y3, _⟩ := dec_yes hok
  rw [b1, b2, b3, hop] at y1
  exact ⟨y1, by rw [y2, hlen], y3, hop⟩
theorem gd_of_bok {i : In4} (o : In4.Ok i) (h : bok i = true) : GdI i := by
  unfold bok at h
  obtain ⟨r, _⟩ := may_parts h
  exact ⟨o, by rw [(row_host i.1 o.1.1 o.1.2 r).1]; exact h⟩
theorem enc_bok {i : In4} (o : In4.Ok i) (h : bok i = true) : encL (rowOf i.1 false) i.1 i.2.1 i.2.2.1 i.2.2.2 = encH i := by
  unfold bok at h
  obtain ⟨r, _⟩ := may_parts h
  unfold encH; rw [(row_host i.1 o.1.1 o.1.2 r).1]

/-- The items of a block's code. -/
def layI (next : Int) (A : List Int) (k : Nat) (i : In4) : List It :=
  match lay4 next i with
  | none => []
  | some h => [(h, A.getD k 0, (k : Int), -1)]
def runI (next : Int) (I : List In4) (A : List Int) : Nat → List It
  | 0 => []
  | k + 1 => runI next I A k ++ layI next A k (I.getD k In4.z)
def outI (pc done exit : Int) : List It := [((112, 0, 0, done), pc, done, -1), ((113, 0, 0, exit), pc, 0, exit)]
def trI (I : List In4) (A : List Int) (next tgt e first : Int) : List It :=
  if e = 2 then runI next I A I.length ++ outI tgt I.length first
  else if e = 3 then (runI next I A I.length ++ outI next I.length first) ++ outI tgt I.length (first + 1)
  else if e = 4 then runI next I A (I.length - 1) ++ outI (A.getD (I.length - 1) 0) ((I.length : Int) - 1) first
  else runI next I A I.length ++ outI next I.length first
theorem layI_le (next : Int) (A : List Int) (k : Nat) (i : In4) : (layI next A k i).length ≤ 1 := by
  unfold layI; split <;> simp
theorem runI_len (next : Int) (I : List In4) (A : List Int) : ∀ k, (runI next I A k).length ≤ k
  | 0 => Nat.le_refl _
  | k + 1 => by
    have := runI_len next I A k
    have := layI_le next A k (I.getD k In4.z)
    unfold runI; rw [List.length_append]; omega
theorem runI_mem {next : Int} {I : List In4} {A : List Int} : ∀ {k : Nat} {x : It}, k ≤ I.length → x ∈ runI next I A k → ∃ j i h, j < k ∧ I[j]? = some i ∧ lay4 next i = some h ∧ x = (h, A.getD j 0, (j : Int), -1)
  | 0, x, _, hx => by simp [runI] at hx
  | k + 1, x, hk, hx => by
    unfold runI at hx
    rcases List.mem_append.1 hx with h | h
    · obtain ⟨j, i, h', hj, r⟩ := runI_mem (by omega) h
      exact ⟨j, i, h', by omega, r⟩
    · unfold layI at h
      have hg : I[k]? = some (I.getD k In4.z) := by rw [List.getD_eq_getElem?_getD, List.getElem?_eq_getElem (by omega)]; rfl
      cases hl : lay4 next (I.getD k In4.z) with
      | none => rw [hl] at h; simp at h
      | some h' =>
        rw [hl] at h
        exact ⟨k, _, h', by omega, hg, hl, by simpa using h⟩
theorem s32_range {n : Int} (h0 : 0 ≤ n) (h1 : n < 4294967296) : -2147483648 ≤ s32 n ∧ s32 n ≤ 2147483647 := by unfold s32; split <;> omega
/-- What is laid is read by a host as no guest's privileged instruction. -/
theorem lay4_good {next : Int} (hn : 0 ≤ next ∧ next < 4294967296) {i h : In4} (o : In4.Ok i) (hb : bok i = true) (he : bnd i.1 = false ∨ (64 ≤ i.1 ∧ i.1 ≤ 72)) (hl : lay4 next i = some h) :
    GdI h ∧ bok h = true ∧ ((h.1 = 0 ∨ (16 ≤ h.1 ∧ h.1 ≤ 33) ∨ (48 ≤ h.1 ∧ h.1 ≤ 58)) ∨ (h.1 = i.1 ∧ (65 ≤ h.1 ∧ h.1 ≤ 71) ∧ h.2.2.2 = 5)) := by
  obtain ⟨r, m1, m2, _, _⟩ := may_parts (show mayB (rowOf i.1 false) i.2.1 i.2.2.1 i.2.2.2 = true from hb)
  unfold lay4 at hl
  split at hl
  · cases hl
  split at hl
  · cases hl
    have s := s32_range hn.1 hn.2
    have q : bok (32, 6, 0, s32 next) = true := by
      have e : rowOf 32 false = 9 := by decide
      unfold bok mayB
      simp only [e]
      have l : lo 9 = -2147483648 := by decide
      have u : hi 9 = 2147483647 := by decide
      have a1 : f1 9 = 7 := by decide
      have a2 : f2 9 = 0 := by decide
      rw [l, u, a1, a2]
      simp; omega
    have q0 : In4.Ok (32, 6, 0, s32 next) := In4.ok (by omega) (by omega) (by omega) s
    exact ⟨gd_of_bok q0 q, q, .inl (.inr (.inl (show (16 : Int) ≤ 32 ∧ (32 : Int) ≤ 33 by omega)))⟩
  split at hl
  · rename_i h1 h2 h3
    cases hl
    have e : rowOf i.1 false = 7 := by
      have := byte_all (p := fun op => decide (65 ≤ op ∧ op ≤ 71 → rowOf op false = 7)) (by decide +kernel) i.1 o.1.1 o.1.2
      exact (of_decide_eq_true this) h3
    have q : bok (i.1, i.2.1, i.2.2.1, 5) = true := by
      unfold bok mayB
      simp only
      rw [e] at m1 m2 ⊢
      have l : lo 7 = -32768 := by decide
      have u : hi 7 = 32767 := by decide
      rw [l, u]
      simp [m1, m2]
    have q0 : In4.Ok (i.1, i.2.1, i.2.2.1, 5) := In4.ok o.1 o.2.1 o.2.2.1 (by omega)
    exact ⟨gd_of_bok q0 q, q, .inr ⟨rfl, h3, rfl⟩⟩
  · rename_i h1 h2 h3
    cases hl
    have hb2 : bnd i.1 = false := by
      rcases he with h | h
      · exact h
      · omega
    exact ⟨gd_of_bok o hb, hb, .inl (pln_op i.1 o.1.1 o.1.2 hb2 r)⟩
theorem gd_tally {n : Int} (h0 : 0 ≤ n) (h1 : n ≤ 255) : GdI (112, 0, 0, n) := by
  refine ⟨In4.ok (by omega) (by omega) (by omega) (by omega), ?_⟩
  have e : rowOf 112 true = 4 := by decide
  unfold mayB
  simp only [e]
  have l : lo 4 = 0 := by decide
  have u : hi 4 = 255 := by decide
  rw [l, u]
  simp [h0, h1]; decide
theorem gd_leave {n : Int} (h0 : 0 ≤ n) (h1 : n ≤ 65535) : GdI (113, 0, 0, n) := by
  refine ⟨In4.ok (by omega) (by omega) (by omega) (by omega), ?_⟩
  have e : rowOf 113 true = 8 := by decide
  unfold mayB
  simp only [e]
  have l : lo 8 = 0 := by decide
  have u : hi 8 = 65535 := by decide
  rw [l, u]
  simp [h0, h1]; decide
theorem enc_tally {n : Int} (h0 : 0 ≤ n) (h1 : n ≤ 255) : encH (112, 0, 0, n) = [112, n] := by
  have e : rowOf 112 true = 4 := by decide
  unfold encH
  simp only [e]
  unfold encL preL
  have f : f3 4 = 1 := by decide
  have a : hasA 4 = false := by decide
  rw [f, a]
  simp [byteAt, List.range_succ]
  omega
theorem enc_leave {n : Int} (h0 : 0 ≤ n) (h1 : n ≤ 65535) : encH (113, 0, 0, n) = [113, n % 256, n / 256] := by
  have e : rowOf 113 true = 8 := by decide
  unfold encH
  simp only [e]
  unfold encL preL
  have f : f3 8 = 2 := by decide
  have a : hasA 8 = false := by decide
  rw [f, a]
  simp [byteAt, List.range_succ]
  omega
end Go.Proofs.YtpalbpjmjbcelaaDoor
