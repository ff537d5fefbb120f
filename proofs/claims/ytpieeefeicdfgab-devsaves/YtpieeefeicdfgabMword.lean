/- Words of a memory, read and laid. -/
import Derived.Test.YtpieeefeicdfgabMget
namespace Go.Proofs.Ytpieeefeicdfgab
open Go.RowKit
set_option linter.unusedVariables false

/-- All are bytes. -/
def Byts (B : List Int) : Prop := ∀ b ∈ B, 0 ≤ b ∧ b < 256
theorem Byts.at {B : List Int} (h : Byts B) (k : Nat) : 0 ≤ B.getD k 0 ∧ B.getD k 0 < 256 := by
  rcases Nat.lt_or_ge k B.length with hk | hk
  · have : B.getD k 0 = B[k] := by simp [List.getD, hk]
    rw [this]; exact h _ (List.getElem_mem hk)
  · have : B.getD k 0 = 0 := by simp [List.getD, hk]
    rw [this]; omega
theorem Byts.set {B : List Int} (h : Byts B) (k : Nat) {b : Int} (h0 : 0 ≤ b) (h1 : b < 256) : Byts (B.set k b) := by
  intro x hx
  rcases List.mem_or_eq_of_mem_set hx with h' | h'
  · exact h x h'
  · subst h'; exact ⟨h0, h1⟩
def wordI (b0 b1 b2 b3 : Int) : Int := b0 + 256 * b1 + 65536 * b2 + 16777216 * b3
def wordAt (B : List Int) (q : Nat) : Int := wordI (B.getD q 0) (B.getD (q + 1) 0) (B.getD (q + 2) 0) (B.getD (q + 3) 0)
theorem or32_comm (x y : Int) : bits .or .u32 x y = bits .or .u32 y x := by simp only [bits, BitVec.or_comm]
theorem join32 (raw z : Int) (k : Nat) (hk : k ≤ 3) (h0 : 0 ≤ raw) (h1 : raw < 2 ^ (8 * k)) (z0 : 0 ≤ z) (z1 : z < 256) : bits .or .u32 raw (z * 2 ^ (8 * k)) = raw + z * 2 ^ (8 * k) := by
  rw [or32_comm, bits_join .u32 32 (by decide) (by intro n h₀ h₁; rw [IntKind.wrap_u32]; omega) (8 * k) (z * 2 ^ (8 * k)) raw]
  · omega
  · exact Int.mul_nonneg z0 (Int.le_of_lt (Int.pow_pos (by decide)))
  · exact Int.mul_emod_left _ _
  · rcases (by omega : k = 0 ∨ k = 1 ∨ k = 2 ∨ k = 3) with rfl | rfl | rfl | rfl <;> simp <;> omega
  · exact h0
  · exact h1
  · rcases (by omega : k = 0 ∨ k = 1 ∨ k = 2 ∨ k = 3) with rfl | rfl | rfl | rfl <;> simp at h1 ⊢ <;> omega
theorem or4 (b0 b1 b2 b3 : Int) (h0 : 0 ≤ b0 ∧ b0 < 256) (h1 : 0 ≤ b1 ∧ b1 < 256) (h2 : 0 ≤ b2 ∧ b2 < 256) (h3 : 0 ≤ b3 ∧ b3 < 256) :
    bits .or .u32 (bits .or .u32 (bits .or .u32 (bits .or .u32 0 (b0 % 4294967296)) (b1 % 4294967296 * 256 % 4294967296)) (b2 % 4294967296 * 65536 % 4294967296)) (b3 % 4294967296 * 16777216 % 4294967296) = wordI b0 b1 b2 b3 := by
  have e0 : b0 % 4294967296 = b0 * 2 ^ (8 * 0) := by simp; omega
  have e1 : b1 % 4294967296 * 256 % 4294967296 = b1 * 2 ^ (8 * 1) := by simp; omega
  have e2 : b2 % 4294967296 * 65536 % 4294967296 = b2 * 2 ^ (8 * 2) := by simp; omega
  have e3 : b3 % 4294967296 * 16777216 % 4294967296 = b3 * 2 ^ (8 * 3) := by simp; omega
  rw [e0, e1, e2, e3, join32 0 b0 0 (by decide) (by decide) (by decide) h0.1 h0.2, join32 _ b1 1 (by decide) (by simp; omega) (by simp; omega) h1.1 h1.2,
    join32 _ b2 2 (by decide) (by simp; omega) (by simp; omega) h2.1 h2.2, join32 _ b3 3 (by decide) (by simp; omega) (by simp; omega) h3.1 h3.2]
  unfold wordI
  simp
  omega

/-- The four bytes of x, laid at q. -/
def setW (B : List Int) (q : Nat) (x : Int) : List Int := (((B.set q (x % 256)).set (q + 1) (x / 256 % 256)).set (q + 2) (x / 65536 % 256)).set (q + 3) (x / 16777216 % 256)
theorem setW_len (B : List Int) (q : Nat) (x : Int) : (setW B q x).length = B.length := by simp [setW]
theorem Byts.setW {B : List Int} (h : Byts B) (q : Nat) (x : Int) : Byts (setW B q x) :=
  (((h.set _ (by omega) (by omega)).set _ (by omega) (by omega)).set _ (by omega) (by omega)).set _ (by omega) (by omega)

theorem setByte_put (w : World) (v : Value) (R : Nat) (ix : List Nat) (B : List Int) (h : Ram w v R ix) (hix : (ix.length : Int) ≤ 512) (hB : RowB w R B) (hf : Fits B ix) (a : Nat) (ha : (a : Int) < 4294967296) (b : Int) :
    Calls Try.prog 40 #[v, .int .u32 a, .int .u8 b] w fun e w' => e = .returned (.bool (decide (a < 64 * ix.length))) ∧ Put [R] w w' ∧ RowB w' R (if a < 64 * ix.length then B.set (pos ix a) b else B) := by
  refine (setByte_any w v R ix B h hix hB hf a ha b).mono ?_
  rintro e w' ⟨rfl, rfl⟩
  split
  · exact ⟨rfl, (Put.refl _).setCell (by simp) _, hB.set _ _⟩
  · exact ⟨rfl, Put.refl _, hB⟩

end Go.Proofs.Ytpieeefeicdfgab
