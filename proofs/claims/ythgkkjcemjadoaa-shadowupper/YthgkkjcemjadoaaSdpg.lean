/- The pages of the document's shadow, as a row of entries tells them: plain. -/
import Derived.Test.YthgkkjcemjadoaaSdput
namespace Go.Proofs.Ythgkkjcemjadoaa
open Go.RowKit
set_option linter.unusedVariables false
set_option linter.unusedSimpArgs false

/-- The pages of a row of entries, its first one of number a: number and entry. -/
def pg : Nat → List Nat → List (Nat × Nat)
  | _, [] => []
  | a, e :: es => if e = 0 then pg (a + 1) es else (a, e) :: pg (a + 1) es
theorem pg_app : ∀ (xs ys : List Nat) (a : Nat), pg a (xs ++ ys) = pg a xs ++ pg (a + xs.length) ys
  | [], ys, a => rfl
  | e :: xs, ys, a => by
    have ih := pg_app xs ys (a + 1)
    have e1 : a + 1 + xs.length = a + (e :: xs).length := by simp; omega
    rw [e1] at ih
    show (if e = 0 then pg (a + 1) (xs ++ ys) else (a, e) :: pg (a + 1) (xs ++ ys)) = (if e = 0 then pg (a + 1) xs else (a, e) :: pg (a + 1) xs) ++ _
    split <;> simp [ih]
theorem pg_in : ∀ (xs : List Nat) (a : Nat) (x : Nat × Nat), x ∈ pg a xs → a ≤ x.1 ∧ x.1 < a + xs.length ∧ x.2 = xs.getD (x.1 - a) 0 ∧ x.2 ≠ 0
  | [], a, x, h => by simp [pg] at h
  | e :: xs, a, x, h => by
    have ih := fun h => pg_in xs (a + 1) x h
    have tl : x ∈ pg (a + 1) xs → a ≤ x.1 ∧ x.1 < a + (e :: xs).length ∧ x.2 = (e :: xs).getD (x.1 - a) 0 ∧ x.2 ≠ 0 := fun h => by
      obtain ⟨h1, h2, h3, h4⟩ := ih h
      refine ⟨by omega, by simp; omega, ?_, h4⟩
      rw [show x.1 - a = (x.1 - (a + 1)) + 1 by omega]
      exact h3
    unfold pg at h
    split at h
    · exact tl h
    · rename_i h0
      rcases List.mem_cons.1 h with rfl | h
      · exact ⟨Nat.le_refl _, by simp, by simp, h0⟩
      · exact tl h
theorem pg_len : ∀ (xs : List Nat) (a : Nat), (pg a xs).length ≤ xs.length
  | [], _ => Nat.le_refl _
  | e :: xs, a => by
    have := pg_len xs (a + 1)
    unfold pg
    split <;> simp <;> omega
theorem pg_zero (n a : Nat) : pg a (List.replicate n 0) = [] := by
  induction n generalizing a with
  | zero => rfl
  | succ n ih => rw [List.replicate_succ]; unfold pg; rw [if_pos rfl]; exact ih _
/-- A row around its entry i. -/
theorem around {E : List Nat} {i : Nat} (hi : i < E.length) : ∃ X Y, E = X ++ E.getD i 0 :: Y ∧ X.length = i ∧ ∀ e, E.set i e = X ++ e :: Y := by
  refine ⟨E.take i, E.drop (i + 1), ?_, by simp; omega, fun e => ?_⟩
  · have : E.getD i 0 = E[i] := by simp [List.getD, hi]
    rw [this, ← List.drop_eq_getElem_cons hi, List.take_append_drop]
  · rw [List.set_eq_take_append_cons_drop, if_pos hi]
def one (i e : Nat) : List (Nat × Nat) := if e = 0 then [] else [(i, e)]
theorem pg_around {X Y : List Nat} {i e : Nat} (hX : X.length = i) : pg 0 (X ++ e :: Y) = pg 0 X ++ (one i e ++ pg (i + 1) Y) := by
  rw [pg_app, hX, Nat.zero_add]
  congr 1
  unfold one
  show (if e = 0 then _ else _) = _
  split <;> rfl
/-- What Drop keeps. -/
def without (i : Nat) (P : List (Nat × Nat)) : List (Nat × Nat) := P.filter (fun x => x.1 != i)
theorem without_pg {E : List Nat} {i : Nat} (hi : i < E.length) : without i (pg 0 E) = pg 0 (E.set i 0) := by
  obtain ⟨X, Y, h1, hX, h2⟩ := around hi
  rw [h2 0, pg_around hX, h1, pg_around hX]
  unfold without
  rw [List.filter_append, List.filter_append]
  have a1 : (pg 0 X).filter (fun x => x.1 != i) = pg 0 X := List.filter_eq_self.2 fun x hx => by
    have := pg_in X 0 x hx
    simp; omega
  have a2 : (pg (i + 1) Y).filter (fun x => x.1 != i) = pg (i + 1) Y := List.filter_eq_self.2 fun x hx => by
    have := pg_in Y (i + 1) x hx
    simp; omega
  rw [a1, a2]
  unfold one
  split <;> simp
theorem without_far {E : List Nat} {i : Nat} (hi : E.length ≤ i) : without i (pg 0 E) = pg 0 (E.set i 0) := by
  rw [List.set_eq_of_length_le hi]
  refine List.filter_eq_self.2 fun x hx => ?_
  have := pg_in E 0 x hx
  simp; omega
/-- What Put makes of the pages: the new one ahead of the first greater one. -/
def insL (p : Nat × Nat) : List (Nat × Nat) → List (Nat × Nat)
  | [] => [p]
  | x :: xs => if p.1 < x.1 then p :: x :: xs else x :: insL p xs
/-- How far the loop is: what is told, and whether the new one is. -/
def insK (p : Nat × Nat) : Bool → List (Nat × Nat) → List (Nat × Nat) × Bool
  | b, [] => ([], b)
  | true, x :: xs => (x :: xs, true)
  | false, x :: xs => if p.1 < x.1 then (p :: x :: xs, true) else (x :: (insK p false xs).1, (insK p false xs).2)
theorem insK_true (p : Nat × Nat) (xs : List (Nat × Nat)) : insK p true xs = (xs, true) := by cases xs <;> rfl
theorem insK_more (p : Nat × Nat) : ∀ (xs : List (Nat × Nat)) (x : Nat × Nat), insK p false (xs ++ [x]) =
    if (insK p false xs).2 = true then ((insK p false xs).1 ++ [x], true) else if p.1 < x.1 then ((insK p false xs).1 ++ [p, x], true) else ((insK p false xs).1 ++ [x], false)
  | [], x => by simp [insK]
  | y :: ys, x => by
    have ih := insK_more p ys x
    by_cases h : p.1 < y.1
    · simp [insK, h]
    · rw [List.cons_append]
      simp only [insK, if_neg h]
      rw [ih]
      split
      · simp
      · split <;> simp
theorem insK_all (p : Nat × Nat) : ∀ xs, insL p xs = if (insK p false xs).2 = true then (insK p false xs).1 else (insK p false xs).1 ++ [p]
  | [] => by simp [insK, insL]
  | y :: ys => by
    have ih := insK_all p ys
    by_cases h : p.1 < y.1
    · simp [insK, insL, h]
    · simp only [insK, insL, if_neg h, ih]
      split <;> simp
theorem insK_len (p : Nat × Nat) : ∀ xs, (insK p false xs).1.length ≤ xs.length + 1
  | [] => by simp [insK]
  | y :: ys => by
    have := insK_len p ys
    by_cases h : p.1 < y.1
    · simp [insK, h]
    · simp [insK, h]; omega
theorem insL_cons (p x : Nat × Nat) (xs : List (Nat × Nat)) : insL p (x :: xs) = if p.1 < x.1 then p :: x :: xs else x :: insL p xs := rfl
theorem insL_hi (p : Nat × Nat) : ∀ xs : List (Nat × Nat), (∀ x ∈ xs, p.1 < x.1) → insL p xs = p :: xs
  | [], _ => rfl
  | x :: xs, h => by unfold insL; rw [if_pos (h x (by simp))]
theorem insL_lo (p : Nat × Nat) : ∀ xs ys : List (Nat × Nat), (∀ x ∈ xs, x.1 < p.1) → insL p (xs ++ ys) = xs ++ insL p ys
  | [], _, _ => rfl
  | x :: xs, ys, h => by
    have := h x (by simp)
    have ih := insL_lo p xs ys (fun y hy => h y (by simp [hy]))
    rw [List.cons_append, List.cons_append]
    rw [insL_cons, if_neg (by omega), ih]
theorem insL_pg {E : List Nat} {i e : Nat} (hi : i < E.length) (he : e ≠ 0) : insL (i, e) (pg 0 (E.set i 0)) = pg 0 (E.set i e) := by
  obtain ⟨X, Y, h1, hX, h2⟩ := around hi
  rw [h2 0, h2 e, pg_around hX, pg_around hX]
  unfold one
  rw [if_pos rfl, if_neg he, List.nil_append]
  rw [insL_lo _ _ _ fun x hx => by have := pg_in X 0 x hx; simp only; omega]
  rw [insL_hi _ _ fun x hx => by have := pg_in Y (i + 1) x hx; simp only; omega]
  rfl
/-- The addresses of the pages. -/
theorem pg_addr (E : List Nat) : ∀ (i : Nat), i ≤ E.length → (pg 0 (E.take i)).map (fun x => 64 * x.1) = ((List.range i).filter (fun j => E.getD j 0 != 0)).map (64 * ·)
  | 0, _ => by simp [pg]
  | i + 1, h => by
    have ih := pg_addr E i (by omega)
    have e0 : E.getD i 0 = E[i] := by simp [List.getD, show i < E.length by omega]
    rw [List.take_add_one, List.getElem?_eq_getElem (by omega), pg_app, List.map_append, ih, List.range_succ, List.filter_append, List.map_append]
    congr 1
    rw [List.length_take, Nat.min_eq_left (by omega), Nat.zero_add, List.filter_cons]
    show (if E[i] = 0 then _ else _ : List (Nat × Nat)).map _ = _
    rw [e0]
    by_cases h0 : E[i] = 0 <;> simp [h0, pg]
/-- A page is told where its entry is. -/
theorem pg_mem {E : List Nat} {i : Nat} (hi : i < E.length) (h : E.getD i 0 ≠ 0) : (i, E.getD i 0) ∈ pg 0 E := by
  obtain ⟨X, Y, h1, hX, h2⟩ := around hi
  have : (i, E.getD i 0) ∈ pg 0 (X ++ E.getD i 0 :: Y) := by
    rw [pg_around hX]
    unfold one
    rw [if_neg h]
    simp
  rwa [← h1] at this
end Go.Proofs.Ythgkkjcemjadoaa
