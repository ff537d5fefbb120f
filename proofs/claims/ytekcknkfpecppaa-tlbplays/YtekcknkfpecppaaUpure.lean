/- What is remembered of a page behind each call: no memory, no program. -/
import Derived.Test.YtekcknkfpecppaaUdo
namespace Go.Proofs.Ytekcknkfpecppaa
set_option linter.unusedVariables false

theorem slotOf_set {S : List Sl} (h : 1 ≤ S.length) (x page : Nat) (s : Sl) : slotOf (S.set (x % S.length) s) page = if x % S.length = page % S.length then s else slotOf S page := by
  have h1 := Nat.mod_lt x (show 0 < S.length by omega)
  unfold slotOf
  rw [List.length_set, List.getElem?_set]
  split
  · simp
  · rfl
theorem lookS_put {S : List Sl} (h : 1 ≤ S.length) (x page : Nat) (b f : Int) :
    lookS (putS S x b f) page = if x % S.length = page % S.length then (if x = page then some (b, f) else none) else lookS S page := by
  unfold lookS putS
  rw [slotOf_set h]
  by_cases e : x % S.length = page % S.length
  · rw [if_pos e, if_pos e]
    by_cases e2 : x = page
    · simp [e2]
    · have : ¬ (x : Int) = (page : Int) := by omega
      simp [e2, this]
  · rw [if_neg e, if_neg e]
theorem lookS_none (n page : Nat) : lookS (List.replicate n none) page = none := by
  have : slotOf (List.replicate n none) page = none := by
    unfold slotOf
    rw [List.getElem?_replicate]
    split <;> rfl
  unfold lookS
  rw [this]
theorem lookS_some {S : List Sl} {page : Nat} {x : Int × Int} (h : lookS S page = some x) : slotOf S page = some ((page : Int), x.1, x.2) := by
  unfold lookS at h
  split at h
  · rename_i p b f hs
    split at h
    · rename_i e
      cases h
      rw [hs, e]
    · cases h
  · cases h
theorem slotOf_congr {S : List Sl} {x page : Nat} (e : x % S.length = page % S.length) : slotOf S x = slotOf S page := by unfold slotOf; rw [e]
theorem lookS_drop {S : List Sl} (h : 1 ≤ S.length) (x page : Nat) : lookS (dropS S x) page = if x = page then none else lookS S page := by
  unfold dropS
  cases hx : lookS S x with
  | none =>
    by_cases e : x = page
    · subst e; simp [hx]
    · simp [e]
  | some v =>
    have hs := lookS_some hx
    simp only [Option.isSome_some, if_true]
    by_cases e : x % S.length = page % S.length
    · have : lookS (S.set (x % S.length) none) page = none := by
        unfold lookS
        rw [slotOf_set h, if_pos e]
      rw [this]
      by_cases e2 : x = page
      · rw [if_pos e2]
      · rw [if_neg e2]
        unfold lookS
        rw [← slotOf_congr e, hs]
        have : ¬ (x : Int) = (page : Int) := by omega
        simp [this]
    · have e2 : x ≠ page := by intro e2; exact e (by rw [e2])
      rw [if_neg e2]
      unfold lookS
      rw [slotOf_set h, if_neg e]
theorem lookS_step {S : List Sl} (h : 1 ≤ S.length) (kd : Int) (x page : Nat) (b f : Int) :
    lookS (stepS S kd x b f) page = if kd = 2 ∨ (kd = 1 ∧ x = page) then none else if kd = 0 ∧ x % S.length = page % S.length then (if x = page then some (b, f) else none) else lookS S page := by
  unfold stepS
  by_cases h0 : kd = 0
  · subst h0
    simp [lookS_put h]
  · by_cases h1 : kd = 1
    · subst h1
      simp [lookS_drop h]
    · by_cases h2 : kd = 2
      · subst h2
        simp [lookS_none]
      · simp [h0, h1, h2]
end Go.Proofs.Ytekcknkfpecppaa
