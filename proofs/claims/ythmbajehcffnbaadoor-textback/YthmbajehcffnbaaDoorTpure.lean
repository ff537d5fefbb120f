/- A text cut into words, put together again, and read: plain facts, no program. -/
import Derived.Test.YthmbajehcffnbaaDoorTnum
import Derived.Test.YthmbajehcffnbaaDoorTshowa
import Derived.Test.YthmbajehcffnbaaDoorTnamed
namespace Go.Proofs.YthmbajehcffnbaaDoor
set_option linter.unusedVariables false

def splitL : List UInt8 → List (List UInt8)
  | [] => [[]]
  | c :: cs => if c = 32 then [] :: splitL cs else match splitL cs with
    | [] => [[c]]
    | w :: ws => (c :: w) :: ws
def joinL : List (List UInt8) → List UInt8
  | [] => []
  | [w] => w
  | w :: v :: ws => w ++ 32 :: joinL (v :: ws)
theorem splitL_ne : ∀ s, splitL s ≠ []
  | [] => by simp [splitL]
  | c :: cs => by
    simp only [splitL]
    split
    · simp
    · split <;> simp
theorem join_split : ∀ s, joinL (splitL s) = s
  | [] => rfl
  | c :: cs => by
    have ih := join_split cs
    have hne := splitL_ne cs
    simp only [splitL]
    split
    · rename_i hc
      subst hc
      cases h : splitL cs with
      | nil => exact absurd h hne
      | cons w ws =>
        rw [h] at ih
        show [] ++ 32 :: joinL (w :: ws) = _
        rw [ih]; rfl
    · cases h : splitL cs with
      | nil => exact absurd h hne
      | cons w ws =>
        rw [h] at ih
        simp only
        cases ws with
        | nil => simp only [joinL] at ih ⊢; rw [ih]
        | cons v vs =>
          simp only [joinL] at ih ⊢
          rw [List.cons_append, ih]
theorem split_word : ∀ w, (32 : UInt8) ∉ w → splitL w = [w]
  | [], _ => rfl
  | c :: cs, h => by
    have h1 : c ≠ 32 := fun e => h (by simp [e])
    have h2 : (32 : UInt8) ∉ cs := fun e => h (by simp [e])
    simp only [splitL]
    rw [if_neg h1, split_word cs h2]
theorem split_cons : ∀ (w rest : List UInt8), (32 : UInt8) ∉ w → splitL (w ++ 32 :: rest) = w :: splitL rest
  | [], rest, _ => by simp [splitL]
  | c :: cs, rest, h => by
    have h1 : c ≠ 32 := fun e => h (by simp [e])
    have h2 : (32 : UInt8) ∉ cs := fun e => h (by simp [e])
    simp only [List.cons_append, splitL]
    rw [if_neg h1, split_cons cs rest h2]

def regL (w : List UInt8) (l : UInt8) : Option Int := match w with
  | [x, d] => if x = l ∧ 48 ≤ d.toNat ∧ d.toNat ≤ 55 then some (d.toNat - 48) else none
  | _ => none
theorem dg_nat (a : Int) (h0 : 0 ≤ a) (h1 : a ≤ 7) : (dg a).toNat = 48 + a.toNat := digit_nat _ (by omega)
theorem reg_back (l : UInt8) (a : Int) (h0 : 0 ≤ a) (h1 : a ≤ 7) : regL [l, dg a] l = some a := by
  have := dg_nat a h0 h1
  simp only [regL]
  rw [if_pos ⟨trivial, by omega, by omega⟩, this]
  congr 1
  omega
theorem reg_own {w : List UInt8} {l : UInt8} {a : Int} (h : regL w l = some a) : w = [l, dg a] ∧ 0 ≤ a ∧ a ≤ 7 := by
  unfold regL at h
  split at h
  · rename_i x d
    split at h
    · rename_i hc
      simp only [Option.some.injEq] at h
      subst h
      refine ⟨?_, by omega, by omega⟩
      rw [hc.1]
      congr 1
      unfold dg
      rw [show ((d.toNat : Int) - 48).toNat = d.toNat - 48 by omega, digit_of d hc.2.1 (by omega)]
    · cases h
  · cases h

abbrev Ins4 := Int × Int × Int × Int
def numE (op a b : Int) (n : List UInt8) : Except Int Ins4 := match numL n with
  | none => .error 41
  | some v => if mayB (rowOf op true) a b v then .ok (op, a, b, v) else .error 41
def readF (op : Int) (xa xb xn : Bool) (rest : List (List UInt8)) : Except Int Ins4 := match xa, xb, xn, rest with
  | false, false, false, [] => .ok (op, 0, 0, 0)
  | false, false, true, [n] => numE op 0 0 n
  | true, false, false, [p] => match regL p 114 with
    | none => .error 40
    | some a => .ok (op, a, 0, 0)
  | true, false, true, [p, n] => match regL p 114 with
    | none => .error 40
    | some a => numE op a 0 n
  | true, true, false, [p, q] => match regL p 114 with
    | none => .error 40
    | some a => match regL q (letB op) with
      | none => .error 40
      | some b => .ok (op, a, b, 0)
  | true, true, true, [p, q, n] => match regL p 114 with
    | none => .error 40
    | some a => match regL q (letB op) with
      | none => .error 40
      | some b => numE op a b n
  | _, _, _, _ => .error 40
def readP (ps : List (List UInt8)) : Except Int Ins4 := match ps with
  | [] => .error 40
  | n :: rest => match namedA n.toArray with
    | none => .error 40
    | some op => readF op (hA (rowOf op true)) (hB (rowOf op true)) (hN (rowOf op true)) rest
def readR (s : List UInt8) : Except Int Ins4 := if [] ∈ (splitL s).take 5 then .error 40 else readP ((splitL s).take 5)

theorem named_back_all : ∀ n : Nat, n < 256 → rowOf n true ≠ 0 → namedA (nameA n) = some (n : Int) ∧ nameA n ≠ #[] ∧ (32 : UInt8) ∉ (nameA n).toList := by decide +kernel
theorem named_back (op : Int) (h0 : 0 ≤ op) (h1 : op < 256) (h : rowOf op true ≠ 0) : namedA (nameA op) = some op ∧ nameA op ≠ #[] ∧ (32 : UInt8) ∉ (nameA op).toList := by
  obtain ⟨n, rfl⟩ : ∃ n : Nat, op = n := ⟨op.toNat, by omega⟩
  exact named_back_all n (by omega) h
theorem idxIn_some : ∀ (ns : List (Array UInt8)) (s : Array UInt8) (j k : Nat), idxIn ns s j = some k → j ≤ k ∧ ns[k - j]? = some s
  | [], s, j, k, h => by cases h
  | n :: ns, s, j, k, h => by
    simp only [idxIn] at h
    split at h
    · rename_i e
      simp only [Option.some.injEq] at h
      subst h
      exact ⟨Nat.le_refl _, by simp [e]⟩
    · obtain ⟨h1, h2⟩ := idxIn_some ns s (j + 1) k h
      refine ⟨by omega, ?_⟩
      rw [show k - j = (k - (j + 1)) + 1 by omega, List.getElem?_cons_succ]
      exact h2
theorem namedIn_some : ∀ (rs : List Run) (s : Array UInt8) (op : Int), namedIn rs s = some op → ∃ r ∈ rs, ∃ k : Nat, r.names[k]? = some s ∧ op = r.first + k
  | [], s, op, h => by cases h
  | r :: rs, s, op, h => by
    simp only [namedIn] at h
    split at h
    · rename_i k hk
      simp only [Option.some.injEq] at h
      obtain ⟨_, h2⟩ := idxIn_some _ _ _ _ hk
      exact ⟨r, by simp, k, h2, h.symm⟩
    · obtain ⟨r', h1, h2⟩ := namedIn_some rs s op h
      exact ⟨r', by simp [h1], h2⟩
theorem name_all : ∀ r ∈ runsT, ∀ k : Nat, k < r.names.length → nameA (r.first + k) = r.names.getD k #[] ∧ 0 ≤ r.first + k ∧ r.first + k < 256 ∧ rowOf (r.first + k) true ≠ 0 := by decide +kernel
theorem named_own {s : Array UInt8} {op : Int} (h : namedA s = some op) : nameA op = s ∧ 0 ≤ op ∧ op < 256 ∧ rowOf op true ≠ 0 := by
  obtain ⟨r, hr, k, hk, rfl⟩ := namedIn_some _ _ _ h
  have hl := (List.getElem?_eq_some_iff.1 hk).1
  obtain ⟨h1, h2, h3, h4⟩ := name_all r hr k hl
  refine ⟨?_, h2, h3, h4⟩
  rw [h1, List.getD_eq_getElem?_getD, hk]
  rfl
theorem dg_ne (a : Int) (h0 : 0 ≤ a) (h1 : a ≤ 7) : dg a ≠ 32 := by
  intro e
  have := dg_nat a h0 h1
  rw [e] at this
  simp at this
  omega
theorem dec_no : ∀ u : Nat, (32 : UInt8) ∉ Lib.decDigits u := by
  intro u
  induction u using Nat.strongRecOn with
  | _ u ih =>
    rw [Lib.decDigits]
    have key : ∀ v : Nat, v < 10 → (32 : UInt8) ≠ UInt8.ofNat (48 + v) := by
      intro v hv e
      have := digit_nat v hv
      rw [← e] at this
      simp at this
      omega
    split
    · rename_i h; simpa using key u h
    · rename_i h
      simp only [List.mem_append, List.mem_singleton, not_or]
      exact ⟨ih _ (by omega), key _ (Nat.mod_lt _ (by decide))⟩
theorem itoa_no (n : Int) : (32 : UInt8) ∉ Lib.itoa n := by
  unfold Lib.itoa
  split
  · simp only [List.mem_cons, not_or]; exact ⟨by decide, dec_no _⟩
  · exact dec_no _
theorem itoa_ne (n : Int) : Lib.itoa n ≠ [] := by
  unfold Lib.itoa
  split
  · simp
  · exact dec_ne _
theorem letB_ne (op : Int) : letB op ≠ 32 := by unfold letB; (repeat' split) <;> decide
end Go.Proofs.YthmbajehcffnbaaDoor
