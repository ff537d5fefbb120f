/- Plain facts on single steps of a shift: no program is named here. -/
import Derived.Test.YtfpknklibiigfaaDoorShiftm
namespace Go.Proofs.YtfpknklibiigfaaDoor
open Go.RowKit

theorem shlI_step (a j : Nat) : (shlI a j + shlI a j) % 4294967296 = shlI a (j + 1) := by
  unfold shlI
  rw [Nat.pow_succ, ← Nat.mul_assoc]
  generalize a * 2 ^ j = x
  omega

theorem shrI_step (a j : Nat) : shrI a j / 2 = shrI a (j + 1) := by
  unfold shrI
  rw [Nat.pow_succ, ← Nat.div_div_eq_div_mul]
  generalize a / 2 ^ j = x
  omega

theorem bt_shl (a j : Nat) (h : j < 32) : bt (shlI a j) 31 = outUp a (j + 1) := by
  unfold bt shlI outUp
  rw [Int.toNat_natCast, show 4294967296 = 2 ^ 32 by rfl, Nat.testBit_mod_two_pow, Nat.testBit_mul_two_pow]
  simp [show j ≤ 31 by omega]

theorem bt_shr (a j : Nat) : bt (shrI a j) 0 = outDown a (j + 1) := by
  unfold bt shrI outDown
  rw [Int.toNat_natCast, Nat.testBit_div_two_pow]
  simp

end Go.Proofs.YtfpknklibiigfaaDoor
