/- A frame written to a block and read back, as plain data. -/
import Derived.Test.YtpieeefeicdfgaaVbk
namespace Go.Proofs.Ytpieeefeicdfgaa
open Go.RowKit
set_option linter.unusedVariables false

theorem splice_get {α : Type} (B C : List α) (o j : Nat) (ho : o ≤ B.length) : (splice B o C)[j]? = if j < o then B[j]? else if j < o + C.length then C[j - o]? else B[j]? := by
  unfold Go.splice
  have hl : (B.take o).length = o := by simp; omega
  by_cases h1 : j < o
  · rw [if_pos h1, List.getElem?_append_left (by omega), List.getElem?_take_of_lt h1]
  · rw [if_neg h1]
    by_cases h2 : j < o + C.length
    · rw [if_pos h2, List.getElem?_append_right (by omega), List.getElem?_append_left (by omega), hl]
    · rw [if_neg h2, List.getElem?_append_right (by omega), List.getElem?_append_right (by omega), List.getElem?_drop, hl]
      congr 1; omega
theorem frame_splice (B C : List Int) (t k : Nat) (hC : C.length = 64) (ht : 64 * t + 64 ≤ B.length) : frameL (splice B (64 * t) C) k = if k = t then C else frameL B k := by
  refine List.ext_getElem? fun j => ?_
  by_cases hj : j < 64
  · rw [frameL_at hj, splice_get _ _ _ _ (by omega), hC]
    by_cases hk : k = t
    · subst hk
      rw [if_pos rfl, if_neg (by omega), if_pos (by omega)]
      congr 1; omega
    · rw [if_neg hk, frameL_at hj]
      by_cases h1 : 64 * k + j < 64 * t
      · rw [if_pos h1]
      · rw [if_neg h1, if_neg (by omega)]
  · have : ∀ A : List Int, (frameL A k)[j]? = none := fun A => List.getElem?_eq_none (by simp [frameL]; omega)
    rw [this]
    split
    · exact (List.getElem?_eq_none (by omega)).symm
    · exact (this B).symm
def zD : List Int := List.replicate 512 0
theorem zD_len : zD.length = 512 := List.length_replicate
/-- The devices, step by step. -/
def bs0 (b : Int) (D : List Int) (n a s k f t : Int) (E : List Ev) : DS := ⟨E, b, 0, [], [], D, n, a, s, k, f, t⟩
theorem can_is (D : List Int) (hD : D.length = 512) (b f : Nat) (hb : b < 8) (hf : f < 5) : canB D (List.range 5).length b (64 * f : Nat) = true := by
  unfold canB; rw [hD]; simp; omega
theorem getD5 (f : Nat) (hf : f < 5) : (List.range 5).getD (((64 * f : Nat) : Int) / 64).toNat 0 = f := by
  rw [show (((64 * f : Nat) : Int) / 64).toNat = f by omega]
  simp [List.getD, hf]
theorem blk1 (b f : Nat) (hb : b < 8) (hf : f < 5) (B : List Int) : comeC 1 (List.range 5) ⟨bs0 0 zD b (64 * f : Nat) 1 2 b (64 * f : Nat) [(1, 2, 0), (2, 2, 0)], B, [], []⟩ = ⟨bs0 4 (splice zD (64 * b) (frameL B f)) b (64 * f : Nat) 0 0 0 0 [(2, 2, 0)], B, [(1, 2, 0)], []⟩ := by
  have hc := can_is zD zD_len b f hb hf
  have hn : nxt 1 (List.range 5) ⟨bs0 0 zD b (64 * f : Nat) 1 2 b (64 * f : Nat) [(1, 2, 0), (2, 2, 0)], B, [], []⟩ = ⟨bs0 4 (splice zD (64 * b) (frameL B f)) b (64 * f : Nat) 0 0 0 0 [(2, 2, 0)], B, [(1, 2, 0)], []⟩ := by
    unfold nxt bs0
    simp only
    unfold evS evM evF finS finM finF
    simp only [hc]
    rw [getD5 f hf]
    rfl
  rw [comeC_due rfl, hn, comeC_done rfl]
theorem blk2 (b a t : Nat) (hb : b < 8) (ht : t < 5) (D B : List Int) (hD : D.length = 512) (hB : B.length = 320) : comeC 2 (List.range 5) ⟨bs0 4 D b (64 * t : Nat) 1 1 b (64 * t : Nat) [(2, 2, 0)], B, [], []⟩ = ⟨bs0 4 D b (64 * t : Nat) 0 0 0 0 [], splice B (64 * t) (frameL D b), [(2, 2, 0)], [(t : Int)]⟩ := by
  have hc := can_is D hD b t hb ht
  have hl := frameL_len (B := D) (i := b) (by omega)
  have hlay : layL B (List.range 5) (64 * t) (frameL D b) = splice B (64 * t) (frameL D b) := by
    rw [layL_chunk _ _ _ _ (by omega) (by rw [pos_range (by omega)]; omega), pos_range (by omega)]
  have hn : nxt 2 (List.range 5) ⟨bs0 4 D b (64 * t : Nat) 1 1 b (64 * t : Nat) [(2, 2, 0)], B, [], []⟩ = ⟨bs0 4 D b (64 * t : Nat) 0 0 0 0 [], splice B (64 * t) (frameL D b), [(2, 2, 0)], [(t : Int)]⟩ := by
    rw [← hlay]
    unfold nxt bs0
    simp only
    unfold evS evM evF finS finM finF
    simp only [hc]
    have e : ((64 * t : Nat) : Int) / 64 = t := by omega
    simp [DS.clear, orI]
    rfl
  rw [comeC_due rfl, hn, comeC_done rfl]
end Go.Proofs.Ytpieeefeicdfgaa
