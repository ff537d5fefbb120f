/- Plain facts on products and quotients: no program is named here. -/
import Derived.Test.YtfpknklibiigfaaDoorMath
namespace Go.Proofs.YtfpknklibiigfaaDoor
open Go.RowKit

theorem mul_range (a b : Int) (h0 : 0 ≤ a) (h1 : a < 4294967296) (h2 : 0 ≤ b) (h3 : b < 4294967296) : 0 ≤ a * b ∧ a * b ≤ 18446744065119617025 := by
  refine ⟨Int.mul_nonneg h0 h2, ?_⟩
  have := Int.mul_le_mul (show a ≤ 4294967295 by omega) (show b ≤ 4294967295 by omega) h2 (by omega)
  omega

theorem div_range (a b : Int) (h0 : 0 ≤ a) (h1 : a < 4294967296) (h2 : 0 < b) : 0 ≤ a / b ∧ a / b < 4294967296 := by
  refine ⟨Int.ediv_nonneg h0 (by omega), ?_⟩
  have := Int.ediv_le_self b h0
  omega

theorem rest_range (a b : Int) (h0 : 0 ≤ a) (h1 : a < 4294967296) (h2 : 0 < b) : 0 ≤ a / b * b ∧ a / b * b ≤ a ∧ 0 ≤ a % b ∧ a % b < b ∧ a % b < 4294967296 := by
  have e := Int.mul_ediv_add_emod a b
  have e1 := Int.emod_nonneg a (show b ≠ 0 by omega)
  have e2 := Int.emod_lt_of_pos a h2
  have e3 := Int.mul_nonneg (Int.ediv_nonneg h0 (show 0 ≤ b by omega)) (show 0 ≤ b by omega)
  rw [Int.mul_comm] at e
  omega

theorem rest_is (a b : Int) : a - a / b * b = a % b := by
  have e := Int.mul_ediv_add_emod a b
  rw [Int.mul_comm] at e
  omega

theorem tdiv_is (a b : Int) (h0 : 0 ≤ a) (h1 : a < 4294967296) (h2 : 0 < b) : a.tdiv b % 4294967296 = a / b := by
  have := div_range a b h0 h1 h2
  rw [Int.tdiv_eq_ediv_of_nonneg h0]; omega

theorem tmod_is (a b : Int) (h0 : 0 ≤ a) : a.tmod b = a % b := Int.tmod_eq_emod_of_nonneg h0

end Go.Proofs.YtfpknklibiigfaaDoor
