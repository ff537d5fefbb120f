/- Numbers read off bytes, the lowest first; what an instruction of a row has of A, B and Imm. -/
import Derived.Test.YtpalbpjmjbcelaaDoorSize
import Derived.Laws.BitsLemmas
namespace Go.Proofs.YtpalbpjmjbcelaaDoor
open Go.RowKit

/-- byte i of a row -/
def zat (zs : List Int) (i : Nat) : Int := zs.getD i 0
/-- the number of k bytes from place p on -/
def rawL (zs : List Int) (p : Nat) : Nat → Int
  | 0 => 0
  | k + 1 => rawL zs p k + zat zs (p + k) * 2 ^ (8 * k)
theorem zat_range {zs : List Int} (hz : ∀ n ∈ zs, 0 ≤ n ∧ n < 256) (i : Nat) : 0 ≤ zat zs i ∧ zat zs i < 256 := by
  unfold zat
  rw [List.getD_eq_getElem?_getD]
  cases h : zs[i]? with
  | none => simp
  | some x => exact hz x (List.mem_of_getElem? h)
theorem rawL_range {zs : List Int} (hz : ∀ n ∈ zs, 0 ≤ n ∧ n < 256) (p : Nat) : ∀ k, 0 ≤ rawL zs p k ∧ rawL zs p k < 2 ^ (8 * k)
  | 0 => by simp [rawL]
  | k + 1 => by
    have h1 := rawL_range hz p k
    have h2 := zat_range hz (p + k)
    have h3 : (2 : Int) ^ (8 * (k + 1)) = 2 ^ (8 * k) * 256 := by rw [Nat.mul_add, Int.pow_add]; rfl
    have h4 : (0 : Int) < 2 ^ (8 * k) := Int.pow_pos (by decide)
    simp only [rawL]
    rw [h3]
    generalize (2 : Int) ^ (8 * k) = P at h1 h4
    have h5 : 0 ≤ zat zs (p + k) * P := Int.mul_nonneg h2.1 (by omega)
    have h6 : zat zs (p + k) * P ≤ 255 * P := Int.mul_le_mul_of_nonneg_right (by omega) (by omega)
    omega
theorem or_comm64 (x y : Int) : bits .or .i64 x y = bits .or .i64 y x := by simp only [bits, BitVec.or_comm]
theorem join64 (raw z : Int) (k : Nat) (hk : k ≤ 3) (h0 : 0 ≤ raw) (h1 : raw < 2 ^ (8 * k)) (z0 : 0 ≤ z) (z1 : z < 256) : bits .or .i64 raw (z * 2 ^ (8 * k)) = raw + z * 2 ^ (8 * k) := by
  rw [or_comm64, bits_join .i64 40 (by decide) (by intro n h₀ h₁; rw [IntKind.wrap_i64]; omega) (8 * k) (z * 2 ^ (8 * k)) raw]
  · omega
  · exact Int.mul_nonneg z0 (Int.le_of_lt (Int.pow_pos (by decide)))
  · exact Int.mul_emod_left _ _
  · rcases (by omega : k = 0 ∨ k = 1 ∨ k = 2 ∨ k = 3) with rfl | rfl | rfl | rfl <;> simp <;> omega
  · exact h0
  · exact h1
  · rcases (by omega : k = 0 ∨ k = 1 ∨ k = 2 ∨ k = 3) with rfl | rfl | rfl | rfl <;> simp at h1 ⊢ <;> omega
set_option maxRecDepth 100000 in
theorem and15_all : ∀ n : Nat, n < 256 → bits .and .u8 (n : Int) 15 = (n : Int) % 16 := by decide +kernel
theorem and15 (x : Int) (h0 : 0 ≤ x) (h1 : x < 256) : bits .and .u8 x 15 = x % 16 := by
  obtain ⟨n, rfl⟩ : ∃ n : Nat, x = n := ⟨x.toNat, by omega⟩
  exact and15_all n (by omega)

/-- where Imm begins -/
def posI (r : Nat) : Nat := if hasA r then 2 else 1
def aOf (r : Nat) (zs : List Int) : Int := if hasA r then zat zs 1 / 16 else 0
def bOf (r : Nat) (zs : List Int) : Int := if hasA r then zat zs 1 % 16 else 0
def rawOf (r : Nat) (zs : List Int) : Int := rawL zs (posI r) (f3 r).toNat
def immOf (r : Nat) (zs : List Int) : Int := if rawOf r zs > hi r then rawOf r zs + 2 * lo r else rawOf r zs
theorem raw_hi (r : Nat) (hr : r < 10) : lo r ≤ 0 ∧ 0 ≤ hi r ∧ (2 : Int) ^ (8 * (f3 r).toNat) = (if lo r = 0 then hi r + 1 else 2 * (hi r + 1)) ∧ (lo r ≠ 0 → lo r = -(hi r + 1)) ∧ -2147483648 ≤ lo r ∧ hi r ≤ 2147483647 := by
  refine ten (p := fun r => lo r ≤ 0 ∧ 0 ≤ hi r ∧ (2 : Int) ^ (8 * (f3 r).toNat) = (if lo r = 0 then hi r + 1 else 2 * (hi r + 1)) ∧ (lo r ≠ 0 → lo r = -(hi r + 1)) ∧ -2147483648 ≤ lo r ∧ hi r ≤ 2147483647) r hr ?_ ?_ ?_ ?_ ?_ ?_ ?_ ?_ ?_ ?_ <;> decide
theorem immOf_range {zs : List Int} (hz : ∀ n ∈ zs, 0 ≤ n ∧ n < 256) (r : Nat) (hr : r < 10) : lo r ≤ immOf r zs ∧ immOf r zs ≤ hi r := by
  have h1 := rawL_range hz (posI r) (f3 r).toNat
  obtain ⟨h2, h3, h4, h5, _⟩ := raw_hi r hr
  unfold immOf
  have e : rawOf r zs = rawL zs (posI r) (f3 r).toNat := rfl
  rw [← e, h4] at h1
  split at h1 <;> split <;> omega
end Go.Proofs.YtpalbpjmjbcelaaDoor
