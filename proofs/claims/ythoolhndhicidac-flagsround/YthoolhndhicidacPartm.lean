/- Plain facts on a number's lower and upper bits, moved apart and back, and on whole turns: no program is named here. -/
import Derived.Test.YthoolhndhicidacTurnm
namespace Go.Proofs.Ythoolhndhicidac
open Go.RowKit

theorem part_high (a k : Nat) (ha : a < 4294967296) : shlI (a / 2 ^ k) k = ((a / 2 ^ k * 2 ^ k : Nat) : Int) ∧ a / 2 ^ k * 2 ^ k < 4294967296 := by
  have h : a / 2 ^ k * 2 ^ k ≤ a := Nat.div_mul_le_self _ _
  refine ⟨?_, by omega⟩
  unfold shlI; rw [Nat.mod_eq_of_lt (by omega)]

theorem part_low (a k : Nat) (h : k ≤ 32) : shrI (a * 2 ^ (32 - k) % 4294967296) (32 - k) = ((a % 2 ^ k : Nat) : Int) := by
  unfold shrI
  rw [shl_mod a (32 - k) (by omega), show 32 - (32 - k) = k by omega, Nat.mul_div_cancel _ (Nat.pow_pos (by omega))]

theorem part_sum (a k : Nat) : a / 2 ^ k * 2 ^ k + a % 2 ^ k = a := by
  rw [Nat.mul_comm]; exact Nat.div_add_mod _ _

theorem part_or (a k : Nat) : a / 2 ^ k * 2 ^ k ||| a % 2 ^ k = a := by
  rw [nat_join k _ _ (Nat.mul_mod_left _ _) (Nat.mod_lt _ (Nat.pow_pos (by omega)))]
  exact part_sum a k

theorem ror_back (a k : Nat) (ha : a < 4294967296) (hk : k < 32) : rorI (rorN a k) ((32 - k) % 32) = (a : Int) := by
  by_cases hz : k = 0
  · subst hz
    have e : rorN a 0 = a := by unfold rorN; rw [Nat.pow_zero, Nat.div_one, Nat.mod_one, Nat.zero_mul, Nat.add_zero]
    rw [show (32 - 0) % 32 = 0 by omega, e, rorI_zero]
  · rw [show (32 - k) % 32 = 32 - k by omega]
    unfold rorI
    have e : rorN (rorN a k) (32 - k) = rorN a k / 2 ^ (32 - k) + rorN a k % 2 ^ (32 - k) * 2 ^ k := by
      rw [rorN, show 32 - (32 - k) = k by omega]
    rw [e, rorN_high a k ha (by omega), rorN_low a k ha (by omega), Nat.add_comm, part_sum]

theorem sar_sign (a k : Nat) (ha : a < 4294967296) : decide (sg (sarI a k) < 0) = decide (sg (a : Int) < 0) := by
  have h1 := sarN_lt a k ha
  have h2 := sarN_top a k ha
  have e1 := sg_neg (sarI a k) (by unfold sarI; omega) (by unfold sarI; omega)
  have e2 := sg_neg (a : Int) (by omega) (by omega)
  rw [decide_eq_decide, e1, e2]
  have h3 : 2147483648 ≤ sarN a k ↔ 2147483648 ≤ a := by rw [h2]
  unfold sarI
  omega

end Go.Proofs.Ythoolhndhicidac
