/- Numbers in decimal digits, read as the code reads them: plain facts, no program. -/
import Derived.Test.YthmbajehcffnbaaDoorTtab
namespace Go.Proofs.YthmbajehcffnbaaDoor
set_option linter.unusedVariables false

/-- What the digits come to behind 'has'; none: one of them is refused. -/
def digL : List UInt8 → Int → Bool → Option Int
  | [], has, _ => some has
  | d :: ds, has, begun => if (begun = true ∧ has = 0) ∨ d.toNat < 48 ∨ 57 < d.toNat ∨ 2147483647 < has then none else digL ds (10 * has + (d.toNat - 48)) true
def finL (neg : Bool) (ds : List UInt8) : Option Int := match digL ds 0 false with
  | none => none
  | some v => if neg then (if 0 < v ∧ v ≤ 2147483648 then some (-v) else none) else (if ds ≠ [] ∧ v ≤ 2147483647 then some v else none)
def numL : List UInt8 → Option Int
  | [] => none
  | c :: cs => if c = 45 then finL true cs else finL false (c :: cs)

theorem digit_nat (u : Nat) (h : u < 10) : (UInt8.ofNat (48 + u)).toNat = 48 + u := by
  rw [UInt8.toNat_ofNat']; omega
theorem digL_append : ∀ (xs ys : List UInt8) (has : Int) (b : Bool), digL (xs ++ ys) has b = match digL xs has b with
    | none => none
    | some v => digL ys v (b || !xs.isEmpty)
  | [], ys, has, b => by simp [digL]
  | x :: xs, ys, has, b => by
    simp only [List.cons_append, digL]
    split
    · rfl
    · rw [digL_append xs ys]
      cases digL xs (10 * has + (x.toNat - 48)) true <;> simp
theorem digL_dec (u : Nat) (h : u ≤ 2147483648) : digL (Lib.decDigits u) 0 false = some (u : Int) := by
  induction u using Nat.strongRecOn with
  | _ u ih =>
    by_cases h10 : u < 10
    · rw [Lib.decDigits_one h10]
      simp only [digL]
      rw [digit_nat u h10, if_neg (by simp; omega)]
      simp; omega
    · rw [Lib.decDigits, dif_neg h10, digL_append, ih (u / 10) (by omega) (by omega)]
      have hne : (false || !(Lib.decDigits (u / 10)).isEmpty) = true := by
        rw [Lib.decDigits]
        split <;> simp
      simp only [hne, digL]
      rw [digit_nat _ (Nat.mod_lt _ (by decide)), if_neg (by simp; omega)]
      congr 1
      omega
theorem dec_ne (u : Nat) : Lib.decDigits u ≠ [] := by rw [Lib.decDigits]; split <;> simp
theorem dec_head : ∀ (u : Nat) (c : UInt8) (cs : List UInt8), Lib.decDigits u = c :: cs → c ≠ 45 ∧ c ≠ 32 := by
  intro u
  induction u using Nat.strongRecOn with
  | _ u ih =>
    intro c cs h
    by_cases h10 : u < 10
    · rw [Lib.decDigits_one h10] at h
      simp only [List.cons.injEq] at h
      have := digit_nat u h10
      rw [h.1] at this
      constructor <;> (rintro rfl; simp at this; omega)
    · rw [Lib.decDigits, dif_neg h10] at h
      cases hd : Lib.decDigits (u / 10) with
      | nil => exact absurd hd (dec_ne _)
      | cons d ds =>
        rw [hd] at h
        simp only [List.cons_append, List.cons.injEq] at h
        have := ih (u / 10) (by omega) d ds hd
        rw [h.1] at this
        exact this
theorem numL_itoa (n : Int) (h0 : -2147483648 ≤ n) (h1 : n ≤ 2147483647) : numL (Lib.itoa n) = some n := by
  unfold Lib.itoa
  by_cases hn : n < 0
  · rw [if_pos hn]
    simp only [numL, if_pos, finL]
    rw [digL_dec _ (by omega)]
    simp only
    rw [if_pos (by omega)]
    congr 1
    omega
  · rw [if_neg hn]
    cases hd : Lib.decDigits n.toNat with
    | nil => exact absurd hd (dec_ne _)
    | cons c cs =>
      have := dec_head _ _ _ hd
      simp only [numL]
      rw [if_neg this.1, ← hd]
      simp only [finL]
      rw [digL_dec _ (by omega)]
      simp only [Bool.false_eq_true, if_false]
      rw [if_pos ⟨dec_ne _, by omega⟩]
      congr 1
      omega
theorem digit_of (d : UInt8) (h0 : 48 ≤ d.toNat) (h1 : d.toNat ≤ 57) : UInt8.ofNat (48 + (d.toNat - 48)) = d := by
  rw [show 48 + (d.toNat - 48) = d.toNat by omega]
  exact UInt8.ofNat_toNat
/-- Digits that are taken are the number's own. -/
theorem digL_own : ∀ (ds pre : List UInt8) (has : Nat) (v : Int), Lib.decDigits has = pre → pre ≠ [] → digL ds has true = some v → 0 ≤ v ∧ Lib.decDigits v.toNat = pre ++ ds
  | [], pre, has, v, hp, _, h => by
    simp only [digL, Option.some.injEq] at h
    subst h
    simp [hp]
  | d :: ds, pre, has, v, hp, hne, h => by
    simp only [digL] at h
    split at h
    · cases h
    · rename_i hc
      have hc' : ¬ ((has : Int) = 0) ∧ 48 ≤ d.toNat ∧ d.toNat ≤ 57 := by
        refine ⟨fun e => hc (.inl ⟨trivial, e⟩), ?_, ?_⟩
        · rcases Nat.lt_or_ge d.toNat 48 with q | q
          · exact absurd (.inr (.inl q)) hc
          · exact q
        · rcases Nat.lt_or_ge 57 d.toNat with q | q
          · exact absurd (.inr (.inr (.inl q))) hc
          · exact q
      have e : (10 * (has : Int) + ((d.toNat : Int) - 48)) = ((10 * has + (d.toNat - 48) : Nat) : Int) := by omega
      rw [e] at h
      have hd : Lib.decDigits (10 * has + (d.toNat - 48)) = pre ++ [d] := by
        rw [Lib.decDigits, dif_neg (by omega)]
        rw [show (10 * has + (d.toNat - 48)) / 10 = has by omega, show (10 * has + (d.toNat - 48)) % 10 = d.toNat - 48 by omega, hp, digit_of d hc'.2.1 hc'.2.2]
      obtain ⟨h1, h2⟩ := digL_own ds (pre ++ [d]) _ v hd (by simp) h
      exact ⟨h1, by rw [h2]; simp⟩
theorem digL_all (ds : List UInt8) (v : Int) (hne : ds ≠ []) (h : digL ds 0 false = some v) : 0 ≤ v ∧ Lib.decDigits v.toNat = ds := by
  cases ds with
  | nil => exact absurd rfl hne
  | cons d ds =>
    simp only [digL] at h
    split at h
    · cases h
    · rename_i hc
      have hc' : 48 ≤ d.toNat ∧ d.toNat ≤ 57 := by
        constructor
        · rcases Nat.lt_or_ge d.toNat 48 with q | q
          · exact absurd (.inr (.inl q)) hc
          · exact q
        · rcases Nat.lt_or_ge 57 d.toNat with q | q
          · exact absurd (.inr (.inr (.inl q))) hc
          · exact q
      have e : (10 * (0 : Int) + ((d.toNat : Int) - 48)) = ((d.toNat - 48 : Nat) : Int) := by omega
      rw [e] at h
      have hd : Lib.decDigits (d.toNat - 48) = [d] := by rw [Lib.decDigits_one (by omega), digit_of d hc'.1 hc'.2]
      exact digL_own ds [d] _ v hd (by simp) h
theorem numL_own (w : List UInt8) (n : Int) (h : numL w = some n) : Lib.itoa n = w ∧ -2147483648 ≤ n ∧ n ≤ 2147483647 := by
  cases w with
  | nil => cases h
  | cons c cs =>
    simp only [numL] at h
    split at h
    · rename_i hc
      subst hc
      unfold finL at h
      cases hd : digL cs 0 false with
      | none => rw [hd] at h; cases h
      | some v =>
        rw [hd] at h
        simp only [if_true] at h
        split at h
        · rename_i hv
          simp only [Option.some.injEq] at h
          subst h
          have hne : cs ≠ [] := by
            rintro rfl
            simp only [digL, Option.some.injEq] at hd
            omega
          obtain ⟨_, h2⟩ := digL_all cs v hne hd
          refine ⟨?_, by omega, by omega⟩
          unfold Lib.itoa
          rw [if_pos (by omega), show (-v).natAbs = v.toNat by omega, h2]
        · cases h
    · unfold finL at h
      cases hd : digL (c :: cs) 0 false with
      | none => rw [hd] at h; cases h
      | some v =>
        rw [hd] at h
        simp only [Bool.false_eq_true, if_false] at h
        split at h
        · rename_i hv
          simp only [Option.some.injEq] at h
          subst h
          obtain ⟨h1, h2⟩ := digL_all _ v (by simp) hd
          refine ⟨?_, by omega, hv.2⟩
          unfold Lib.itoa
          rw [if_neg (by omega), h2]
        · cases h
end Go.Proofs.YthmbajehcffnbaaDoor
