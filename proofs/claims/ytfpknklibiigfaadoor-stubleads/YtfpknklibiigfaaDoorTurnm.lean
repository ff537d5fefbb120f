/- Plain facts on numbers that are moved down with their sign, or turned round: no program is named here. -/
import Derived.Test.YtfpknklibiigfaaDoorSteps
namespace Go.Proofs.YtfpknklibiigfaaDoor
open Go.RowKit

/-- moved down with the sign -/
def sarN (a k : Nat) : Nat := if a < 2147483648 then a / 2 ^ k else 4294967295 - (4294967295 - a) / 2 ^ k
def sarI (a k : Nat) : Int := ((sarN a k : Nat) : Int)

theorem sarN_lt (a k : Nat) (ha : a < 4294967296) : sarN a k < 4294967296 := by
  unfold sarN
  have := Nat.div_le_self a (2 ^ k)
  split
  · omega
  · generalize (4294967295 - a) / 2 ^ k = x at *
    omega
theorem sarI_range (a k : Nat) (ha : a < 4294967296) : 0 ≤ sarI a k ∧ sarI a k < 4294967296 := by
  have := sarN_lt a k ha
  unfold sarI; omega
theorem sarI_zero (a : Nat) (ha : a < 4294967296) : sarI a 0 = (a : Int) := by
  unfold sarI sarN
  rw [Nat.pow_zero, Nat.div_one, Nat.div_one]
  split <;> omega

theorem sarI_below (a k : Nat) (h : a < 2147483648) : sarI a k = shrI a k := by
  unfold sarI sarN shrI; rw [if_pos h]
theorem sarI_above (a k : Nat) (h : 2147483648 ≤ a) : sarI a k = 4294967295 - shrI (4294967295 - a) k := by
  unfold sarI sarN shrI
  rw [if_neg (by omega)]
  have := Nat.div_le_self (4294967295 - a) (2 ^ k)
  generalize (4294967295 - a) / 2 ^ k = x at *
  omega

/-- a bit of what is turned over -/
theorem bit_over (a i : Nat) (ha : a < 4294967296) (hi : i < 32) : (4294967295 - a).testBit i = !a.testBit i := by
  have h := Nat.testBit_two_pow_sub_succ (x := a) (n := 32) (by omega) i
  rw [show 2 ^ 32 - (a + 1) = 4294967295 - a by omega] at h
  rw [h]; simp [hi]

theorem bt_top (x : Nat) (hx : x < 4294967296) : x.testBit 31 = decide (2147483648 ≤ x) := by
  rw [Nat.testBit_eq_decide_div_mod_eq, Bool.eq_iff_iff]
  simp only [decide_eq_true_eq]
  omega
theorem bt_first (x : Nat) : x.testBit 0 = decide (x % 2 = 1) := by
  rw [Nat.testBit_eq_decide_div_mod_eq, Nat.pow_zero, Nat.div_one]

theorem sarN_top (a k : Nat) (ha : a < 4294967296) : (2147483648 ≤ sarN a k) = (2147483648 ≤ a) := by
  unfold sarN
  have h1 := Nat.div_le_self a (2 ^ k)
  have h2 := Nat.div_le_self (4294967295 - a) (2 ^ k)
  split
  · exact propext ⟨fun h => by omega, fun h => by omega⟩
  · generalize (4294967295 - a) / 2 ^ k = x at *
    exact propext ⟨fun h => by omega, fun h => by omega⟩

/-- one step of the document's: half, and the upper bit again -/
theorem sar_step (a j : Nat) (ha : a < 4294967296) : sarI a (j + 1) = sarI a j / 2 + wt (bt (sarI a j) 31) 2147483648 := by
  have ht : bt (sarI a j) 31 = decide (2147483648 ≤ a) := by
    unfold bt sarI
    rw [Int.toNat_natCast, bt_top _ (sarN_lt a j ha)]
    simp only [sarN_top a j ha]
  rw [ht]
  by_cases h : a < 2147483648
  · rw [sarI_below a _ h, sarI_below a _ h, ← shrI_step]
    simp [wt, show ¬ 2147483648 ≤ a by omega]
  · rw [sarI_above a _ (by omega), sarI_above a _ (by omega), ← shrI_step]
    simp only [wt, show 2147483648 ≤ a by omega, decide_true, if_true]
    have := shrI_range (4294967295 - a) j (by omega)
    omega
theorem sar_out (a j : Nat) (ha : a < 4294967296) (hj : j < 32) : bt (sarI a j) 0 = outDown a (j + 1) := by
  have h0 : outDown a (j + 1) = a.testBit j := by unfold outDown; simp
  rw [h0]
  by_cases h : a < 2147483648
  · rw [sarI_below a _ h, bt_shr]; unfold outDown; simp
  · have e : bt (shrI (4294967295 - a) j) 0 = !a.testBit j := by
      rw [bt_shr, ← bit_over a j ha hj]; unfold outDown; simp
    have hr := shrI_range (4294967295 - a) j (by omega)
    rw [sarI_above a _ (by omega)]
    have e2 : bt (4294967295 - shrI (4294967295 - a) j) 0 = !bt (shrI (4294967295 - a) j) 0 := by
      unfold bt
      rw [bt_first, bt_first]
      generalize shrI (4294967295 - a) j = x at *
      rw [Bool.eq_iff_iff]
      simp
      omega
    rw [e2, e]; simp

/-- one step of the document's turn -/
theorem ror_step (a j : Nat) (hj : j < 31) : rorI a (j + 1) = rorI a j / 2 + wt (bt (rorI a j) 0) 2147483648 := by
  have e0 : bt (rorI a j) 0 = decide (rorN a j % 2 = 1) := by unfold bt rorI; rw [Int.toNat_natCast, bt_first]
  rw [e0, rorN_one a j (by omega)]
  unfold rorI rorN
  have p1 : 2 ^ (32 - j) = 2 ^ (32 - (j + 1)) * 2 := by rw [pow_half (32 - j) (by omega), show 32 - j - 1 = 32 - (j + 1) by omega]
  have p2 : 2 ^ j * 2 ^ (32 - (j + 1)) = 2147483648 := by rw [← Nat.pow_add, show j + (32 - (j + 1)) = 31 by omega]
  have p3 : a % 2 ^ (j + 1) = a % 2 ^ j + 2 ^ j * (a / 2 ^ j % 2) := by rw [Nat.mod_pow_succ]
  have p4 : a / 2 ^ (j + 1) = a / 2 ^ j / 2 := by rw [Nat.pow_succ, Nat.div_div_eq_div_mul]
  rw [p3, p4, p1, Nat.add_mul, ← Nat.mul_assoc]
  have hm : a / 2 ^ j % 2 = 0 ∨ a / 2 ^ j % 2 = 1 := by omega
  generalize 2 ^ (32 - (j + 1)) = s at *
  generalize a % 2 ^ j * s = y at *
  rcases hm with hm | hm
  · rw [hm]
    simp [wt]
    generalize a / 2 ^ j = x at *
    omega
  · rw [hm, Nat.mul_one, p2]
    simp [wt]
    generalize a / 2 ^ j = x at *
    omega
theorem ror_outs (a j : Nat) (hj : j < 31) : bt (rorI a j) 0 = outDown a (j + 1) := by
  unfold bt rorI outDown
  rw [Int.toNat_natCast, bt_first, rorN_one a j (by omega)]
  simp [Nat.testBit_eq_decide_div_mod_eq]

theorem ob_range (p i : Nat) : 0 ≤ ob p i ∧ ob p i ≤ 1 := by
  unfold ob
  generalize p / 2 ^ i = x
  omega
theorem ob_over (p i : Nat) (hp : p < 4294967296) (hi : i < 32) : 1 - ob (4294967295 - p) i = ob p i := by
  have h := bit_over p i hp hi
  have h1 := ob_one p i
  have h2 := ob_one (4294967295 - p) i
  have r1 := ob_range p i
  have r2 := ob_range (4294967295 - p) i
  rw [h] at h2
  cases hb : p.testBit i
  · rw [hb] at h1 h2
    rw [beq_eq_false_iff_ne] at h1
    simp only [Bool.not_false, beq_iff_eq] at h2
    omega
  · rw [hb] at h1 h2
    rw [beq_iff_eq] at h1
    simp only [Bool.not_true, beq_eq_false_iff_ne] at h2
    omega
/-- turned over -/
theorem over_val (x : Int) (h0 : 0 ≤ x) (h1 : x < 4294967296) : bits .xor .u32 IntKind.u32.max x = 4294967295 - x := by
  obtain ⟨n, rfl⟩ := Int.eq_ofNat_of_zero_le h0
  have e : IntKind.u32.max = ((4294967295 : Nat) : Int) := by decide
  rw [e, u32_xor_nat 4294967295 n (by omega) (by omega)]
  have e2 : 4294967295 ^^^ n = 4294967295 - n := by
    refine Nat.eq_of_testBit_eq fun i => ?_
    rw [Nat.testBit_xor]
    by_cases hi : i < 32
    · rw [bit_over n i (by omega) hi, show (4294967295 : Nat) = 2 ^ 32 - 1 by rfl, Nat.testBit_two_pow_sub_one]
      simp [hi]
    · have hp : 2 ^ 32 ≤ 2 ^ i := Nat.pow_le_pow_right (by omega) (by omega)
      rw [Nat.testBit_lt_two_pow (x := 4294967295) (by omega), Nat.testBit_lt_two_pow (x := n) (by omega), Nat.testBit_lt_two_pow (x := 4294967295 - n) (by omega)]
      rfl
  rw [e2]
  omega

end Go.Proofs.YtfpknklibiigfaaDoor
