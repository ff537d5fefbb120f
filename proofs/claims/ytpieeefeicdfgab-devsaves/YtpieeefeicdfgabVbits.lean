/- What is waiting, as bits of a number: no function of the program is named here. -/
import Derived.Test.YtpieeefeicdfgabMath
import Derived.Test.YtpieeefeicdfgabPutl
namespace Go.Proofs.Ytpieeefeicdfgab
open Go.RowKit
set_option linter.unusedVariables false

/-- A number with the bit p set. -/
def orI (b p : Int) : Int := if b / p % 2 = 1 then b else b + p
/-- Without the bits of v. -/
def clrI (b v : Int) : Int := b - b % 2 * (v % 2) - b / 2 % 2 * (v / 2 % 2) * 2 - b / 4 % 2 * (v / 4 % 2) * 4
theorem low8 {b : Int} (h : 0 ≤ b ∧ b ≤ 7) : b = 0 ∨ b = 1 ∨ b = 2 ∨ b = 3 ∨ b = 4 ∨ b = 5 ∨ b = 6 ∨ b = 7 := by omega
theorem or1_is {b : Int} (h : 0 ≤ b ∧ b ≤ 7) : bits .or .u32 b 1 = orI b 1 := by rcases low8 h with rfl | rfl | rfl | rfl | rfl | rfl | rfl | rfl <;> rfl
theorem or2_is {b : Int} (h : 0 ≤ b ∧ b ≤ 7) : bits .or .u32 b 2 = orI b 2 := by rcases low8 h with rfl | rfl | rfl | rfl | rfl | rfl | rfl | rfl <;> rfl
theorem or4_is {b : Int} (h : 0 ≤ b ∧ b ≤ 7) : bits .or .u32 b 4 = orI b 4 := by rcases low8 h with rfl | rfl | rfl | rfl | rfl | rfl | rfl | rfl <;> rfl
theorem or_low {b p : Int} (h : 0 ≤ b ∧ b ≤ 7) (hp : p = 1 ∨ p = 2 ∨ p = 4) : 0 ≤ orI b p ∧ orI b p ≤ 7 := by
  rcases low8 h with rfl | rfl | rfl | rfl | rfl | rfl | rfl | rfl <;> rcases hp with rfl | rfl | rfl <;> decide
theorem and_low8 (m x : Nat) (h : m < 8) : m &&& x = m &&& (x % 8) := by
  have h1 : (m &&& x) % 2 ^ 3 = (m % 2 ^ 3) &&& (x % 2 ^ 3) := Nat.and_mod_two_pow
  have h2 : m &&& x ≤ m := Nat.and_le_left
  rw [Nat.mod_eq_of_lt (show m &&& x < 2 ^ 3 by omega), Nat.mod_eq_of_lt (show m < 2 ^ 3 by omega)] at h1
  exact h1
theorem andNot_is {b v : Int} (h : 0 ≤ b ∧ b ≤ 7) (hv : 0 ≤ v ∧ v < 4294967296) : bits .andNot .u32 b v = clrI b v := by
  obtain ⟨m, rfl⟩ : ∃ m : Nat, b = m := ⟨b.toNat, by omega⟩
  obtain ⟨n, rfl⟩ : ∃ n : Nat, v = n := ⟨v.toNat, by omega⟩
  rw [u32_andNot_nat m n (by omega) (by omega), and_low8 m _ (by omega), show (4294967295 - n) % 8 = 7 - n % 8 by omega]
  have e : clrI (m : Int) (n : Int) = clrI (m : Int) ((n % 8 : Nat) : Int) := by
    unfold clrI
    rw [show ((n % 8 : Nat) : Int) % 2 = (n : Int) % 2 by omega, show ((n % 8 : Nat) : Int) / 2 % 2 = (n : Int) / 2 % 2 by omega, show ((n % 8 : Nat) : Int) / 4 % 2 = (n : Int) / 4 % 2 by omega]
  rw [e]
  have hr : n % 8 < 8 := Nat.mod_lt _ (by decide)
  generalize n % 8 = r at hr
  have hm : m < 8 := by omega
  have : ∀ m < 8, ∀ r < 8, ((m &&& (7 - r) : Nat) : Int) = clrI (m : Int) (r : Int) := by decide
  exact this m hm r hr
theorem clr_low {b v : Int} (h : 0 ≤ b ∧ b ≤ 7) : 0 ≤ clrI b v ∧ clrI b v ≤ 7 := by
  have h1 := Int.emod_two_eq v
  have h2 := Int.emod_two_eq (v / 2)
  have h3 := Int.emod_two_eq (v / 4)
  unfold clrI
  rcases low8 h with rfl | rfl | rfl | rfl | rfl | rfl | rfl | rfl <;> rcases h1 with h1 | h1 <;> rcases h2 with h2 | h2 <;> rcases h3 with h3 | h3 <;> rw [h1, h2, h3] <;> decide
theorem and7_is (x : Int) (h : 0 ≤ x ∧ x < 4294967296) : bits .and .u32 x 7 = x % 8 := by
  obtain ⟨m, rfl⟩ : ∃ m : Nat, x = m := ⟨x.toNat, by omega⟩
  rw [show (7 : Int) = ((7 : Nat) : Int) from rfl, u32_and_nat m 7 (by omega) (by decide), show (m &&& 7) = m % 8 from Nat.and_two_pow_sub_one_eq_mod m 3]
  omega
end Go.Proofs.Ytpieeefeicdfgab
