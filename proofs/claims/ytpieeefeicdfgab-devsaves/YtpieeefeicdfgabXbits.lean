/- Which interrupt is taken, as numbers: no function of the program is named here. -/
import Derived.Test.YtpieeefeicdfgabMath
import Derived.Test.YtpieeefeicdfgabPutl
namespace Go.Proofs.Ytpieeefeicdfgab
open Go.RowKit
set_option linter.unusedVariables false

/-- The interrupt that is taken. -/
def wantsI (ps n : Int) : Int := if ps / 2 % 2 = 0 then 0 else if n % 2 = 1 then 9 else if n / 2 % 2 = 1 then 10 else if n / 4 % 2 = 1 then 11 else 0
/-- A status without its two lowest bits. -/
def lowI2 (x : Int) : Int := x - x % 2 - x / 2 % 2 * 2
def backI (pc k : Int) : Int := if k = 8 then (pc + 2) % 4294967296 else pc
theorem and_one_n (x : Nat) : x &&& 1 = x % 2 := Nat.and_one_is_mod x
theorem and_two_n (x : Nat) : x &&& 2 = x / 2 % 2 * 2 := by
  have h1 : (x &&& 2) / 2 = x / 2 % 2 := by
    have h : (x &&& 2) >>> 1 = x >>> 1 &&& 1 := by rw [Nat.shiftRight_and_distrib]; rfl
    rw [Nat.shiftRight_eq_div_pow, Nat.shiftRight_eq_div_pow, and_one_n] at h
    simpa using h
  have h2 : (x &&& 2) % 2 = 0 := by
    rw [show 2 = 2 ^ 1 by rfl, Nat.and_mod_two_pow, show 2 ^ 1 % 2 ^ 1 = 0 by decide, Nat.and_zero]
  omega
theorem and_three_n (x : Nat) : x &&& 3 = x % 4 := Nat.and_two_pow_sub_one_eq_mod x 2
theorem and_four_n (x : Nat) : x &&& 4 = x / 4 % 2 * 4 := by
  have h1 : (x &&& 4) / 4 = x / 4 % 2 := by
    have h : (x &&& 4) >>> 2 = x >>> 2 &&& 1 := by rw [Nat.shiftRight_and_distrib]; rfl
    rw [Nat.shiftRight_eq_div_pow, Nat.shiftRight_eq_div_pow, and_one_n] at h
    simpa using h
  have h2 : (x &&& 4) % 4 = 0 := by
    rw [show 4 = 2 ^ 2 by rfl, Nat.and_mod_two_pow, show 2 ^ 2 % 2 ^ 2 = 0 by decide, Nat.and_zero]
  omega
theorem and_low2 (x : Nat) (hx : x < 4294967296) : x &&& 4294967292 = x - x % 4 := by
  have h1 : (x &&& 4294967292) >>> 2 = x / 4 := by
    rw [Nat.shiftRight_and_distrib, Nat.shiftRight_eq_div_pow, show 4294967292 >>> 2 = 2 ^ 30 - 1 by decide, Nat.and_two_pow_sub_one_eq_mod]
    exact Nat.mod_eq_of_lt (by omega)
  have h2 : (x &&& 4294967292) % 4 = 0 := by
    rw [show 4 = 2 ^ 2 by rfl, Nat.and_mod_two_pow, show 4294967292 % 2 ^ 2 = 0 by decide, Nat.and_zero]
  rw [Nat.shiftRight_eq_div_pow] at h1
  omega
theorem low2_is (x : Int) (h : 0 ≤ x ∧ x < 4294967296) : bits .andNot .u32 x 3 = lowI2 x := by
  obtain ⟨m, rfl⟩ : ∃ m : Nat, x = m := ⟨x.toNat, by omega⟩
  rw [show (3 : Int) = ((3 : Nat) : Int) from rfl, u32_andNot_nat m 3 (by omega) (by decide), show 4294967295 - 3 = 4294967292 from rfl, and_low2 m (by omega)]
  unfold lowI2; omega
theorem low2_range (x : Int) (h : 0 ≤ x ∧ x < 4294967296) : 0 ≤ lowI2 x ∧ lowI2 x < 4294967296 := by unfold lowI2; omega
theorem and2_is (x : Int) (h : 0 ≤ x ∧ x < 4294967296) : bits .and .u32 x 2 = x / 2 % 2 * 2 := by
  obtain ⟨m, rfl⟩ : ∃ m : Nat, x = m := ⟨x.toNat, by omega⟩
  rw [show (2 : Int) = ((2 : Nat) : Int) from rfl, u32_and_nat m 2 (by omega) (by decide), and_two_n]
  omega
theorem and1_is (x : Int) (h : 0 ≤ x ∧ x < 4294967296) : bits .and .u32 x 1 = x % 2 := by
  obtain ⟨m, rfl⟩ : ∃ m : Nat, x = m := ⟨x.toNat, by omega⟩
  rw [show (1 : Int) = ((1 : Nat) : Int) from rfl, u32_and_nat m 1 (by omega) (by decide), and_one_n]
  omega
theorem and3_is (x : Int) (h : 0 ≤ x ∧ x < 4294967296) : bits .and .u32 x 3 = x % 4 := by
  obtain ⟨m, rfl⟩ : ∃ m : Nat, x = m := ⟨x.toNat, by omega⟩
  rw [show (3 : Int) = ((3 : Nat) : Int) from rfl, u32_and_nat m 3 (by omega) (by decide), and_three_n]
  omega
theorem and4_is (x : Int) (h : 0 ≤ x ∧ x < 4294967296) : bits .and .u32 x 4 = x / 4 % 2 * 4 := by
  obtain ⟨m, rfl⟩ : ∃ m : Nat, x = m := ⟨x.toNat, by omega⟩
  rw [show (4 : Int) = ((4 : Nat) : Int) from rfl, u32_and_nat m 4 (by omega) (by decide), and_four_n]
  omega
end Go.Proofs.Ytpieeefeicdfgab
