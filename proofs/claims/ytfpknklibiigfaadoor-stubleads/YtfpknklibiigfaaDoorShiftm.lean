/- Plain facts on shifted and turned numbers of 32 bits: no program is named here. -/
import Derived.Test.YtfpknklibiigfaaDoorBitm
namespace Go.Proofs.YtfpknklibiigfaaDoor
open Go.RowKit

/-- turned round, down, by n places -/
def rorN (p n : Nat) : Nat := p / 2 ^ n + p % 2 ^ n * 2 ^ (32 - n)

theorem pow_split (n : Nat) (h : n ≤ 32) : 2 ^ n * 2 ^ (32 - n) = 4294967296 := by
  rw [← Nat.pow_add, show n + (32 - n) = 32 by omega]
theorem pow_half (n : Nat) (h : 1 ≤ n) : 2 ^ n = 2 ^ (n - 1) * 2 := by
  rw [← Nat.pow_succ, show (n - 1).succ = n by omega]

theorem top_lt (p n : Nat) (hp : p < 4294967296) (h : n ≤ 32) : p / 2 ^ n < 2 ^ (32 - n) :=
  Nat.div_lt_of_lt_mul (by rw [pow_split n h]; exact hp)

theorem rorN_lt (p n : Nat) (hp : p < 4294967296) (h : n ≤ 32) : rorN p n < 4294967296 := by
  have a1 := top_lt p n hp h
  have a2 : p % 2 ^ n + 1 ≤ 2 ^ n := Nat.mod_lt _ (Nat.pow_pos (by omega))
  have a3 := Nat.mul_le_mul_right (2 ^ (32 - n)) a2
  rw [pow_split n h, Nat.add_mul] at a3
  unfold rorN; omega

theorem rorN_low (p n : Nat) (hp : p < 4294967296) (h : n ≤ 32) : rorN p n % 2 ^ (32 - n) = p / 2 ^ n := by
  unfold rorN; rw [Nat.add_mul_mod_self_right, Nat.mod_eq_of_lt (top_lt p n hp h)]

theorem rorN_high (p n : Nat) (hp : p < 4294967296) (h : n ≤ 32) : rorN p n / 2 ^ (32 - n) = p % 2 ^ n := by
  unfold rorN
  rw [Nat.add_mul_div_right _ _ (Nat.pow_pos (by omega)), Nat.div_eq_of_lt (top_lt p n hp h), Nat.zero_add]

theorem rorN_out (p n : Nat) (hp : p < 4294967296) (h1 : 1 ≤ n) (h2 : n ≤ 31) : rorN p n / 2147483648 = p / 2 ^ (n - 1) % 2 := by
  have e : 2147483648 = 2 ^ (32 - n) * 2 ^ (n - 1) := by
    rw [← Nat.pow_add, show 32 - n + (n - 1) = 31 by omega]
  rw [e, ← Nat.div_div_eq_div_mul, rorN_high p n hp (by omega), pow_half n h1, Nat.mod_mul_right_div_self]

theorem rorN_one (p n : Nat) (h2 : n ≤ 31) : rorN p n % 2 = p / 2 ^ n % 2 := by
  unfold rorN
  rw [pow_half (32 - n) (by omega), ← Nat.mul_assoc, Nat.add_mul_mod_self_right]

theorem shl_mod (p n : Nat) (h : n ≤ 32) : p * 2 ^ n % 4294967296 = p % 2 ^ (32 - n) * 2 ^ n := by
  rw [← pow_split (32 - n) (by omega), show 32 - (32 - n) = n by omega, Nat.mul_mod_mul_right]

theorem rorN_or (p n : Nat) (hp : p < 4294967296) (h : n ≤ 32) : p / 2 ^ n ||| p * 2 ^ (32 - n) % 4294967296 = rorN p n := by
  rw [shl_mod p (32 - n) (by omega), show 32 - (32 - n) = n by omega, Nat.or_comm,
    nat_join (32 - n) _ _ (Nat.mul_mod_left _ _) (top_lt p n hp h)]
  unfold rorN; omega

/-- cleared: the lower n bits -/
theorem clear_low (x n : Nat) (hx : x < 4294967296) (h : n ≤ 32) : x &&& (4294967295 - (2 ^ n - 1)) = x - x % 2 ^ n := by
  have e : x = x / 2 ^ n * 2 ^ n + x % 2 ^ n := by rw [Nat.mul_comm]; exact (Nat.div_add_mod _ _).symm
  refine Nat.eq_of_testBit_eq fun i => ?_
  have e2 : x - x % 2 ^ n = x / 2 ^ n * 2 ^ n := by omega
  rw [e2, Nat.testBit_and, Nat.testBit_mul_two_pow]
  have e3 : 4294967295 - (2 ^ n - 1) = (2 ^ (32 - n) - 1) * 2 ^ n := by
    rw [Nat.sub_mul, Nat.mul_comm, pow_split n h]; have := Nat.pow_pos (n := n) (show 0 < 2 by omega); omega
  rw [e3, Nat.testBit_mul_two_pow, Nat.testBit_two_pow_sub_one]
  by_cases hi : n ≤ i
  · have e4 : x.testBit i = (x / 2 ^ n).testBit (i - n) := by
      rw [Nat.testBit_div_two_pow, show i - n + n = i by omega]
    rw [e4]
    by_cases h32 : i < 32
    · simp [hi, show i - n < 32 - n by omega]
    · have h0 : (x / 2 ^ n).testBit (i - n) = false := by
        rw [← e4]; exact Nat.testBit_lt_two_pow (Nat.lt_of_lt_of_le hx (show 2 ^ 32 ≤ 2 ^ i from Nat.pow_le_pow_right (by omega) (by omega)))
      simp [h0]
  · simp [hi]

/-- what is turned, moved up, moved down; a bit as a number -/
def rorI (p n : Nat) : Int := ((rorN p n : Nat) : Int)
def shlI (p n : Nat) : Int := ((p * 2 ^ n % 4294967296 : Nat) : Int)
def shrI (p n : Nat) : Int := ((p / 2 ^ n : Nat) : Int)
def ob (p i : Nat) : Int := ((p / 2 ^ i % 2 : Nat) : Int)

theorem ob_one (p i : Nat) : (ob p i == 1) = p.testBit i := by
  unfold ob
  rw [Nat.testBit_eq_decide_div_mod_eq, Bool.eq_iff_iff]
  generalize p / 2 ^ i = x
  simp only [beq_iff_eq, decide_eq_true_eq]
  omega
theorem rorI_range (p n : Nat) (hp : p < 4294967296) (h : n ≤ 32) : 0 ≤ rorI p n ∧ rorI p n < 4294967296 := by
  have := rorN_lt p n hp h
  unfold rorI; omega
theorem shlI_range (p n : Nat) : 0 ≤ shlI p n ∧ shlI p n < 4294967296 := by
  unfold shlI; omega
theorem shrI_range (p n : Nat) (hp : p < 4294967296) : 0 ≤ shrI p n ∧ shrI p n < 4294967296 := by
  have := Nat.div_le_self p (2 ^ n)
  unfold shrI
  generalize p / 2 ^ n = x at *
  omega

theorem cast_div (p n : Nat) : (p : Int) / 2 ^ n = ((p / 2 ^ n : Nat) : Int) := by
  rw [Int.natCast_ediv, Int.natCast_pow]; rfl
theorem cast_mul (p n : Nat) : (p : Int) * 2 ^ n % 4294967296 = ((p * 2 ^ n % 4294967296 : Nat) : Int) := by
  rw [Int.natCast_emod, Int.natCast_mul, Int.natCast_pow]; rfl
theorem cast_mask (n : Nat) (h : n ≤ 32) : ((2 : Int) ^ n - 1) % 4294967296 = ((2 ^ n - 1 : Nat) : Int) ∧ 2 ^ n - 1 < 4294967296 := by
  have h1 : 1 ≤ 2 ^ n := Nat.one_le_two_pow
  have h2 : 2 ^ n ≤ 2 ^ 32 := Nat.pow_le_pow_right (by omega) h
  have h3 : (2 : Int) ^ n = ((2 ^ n : Nat) : Int) := by rw [Int.natCast_pow]; rfl
  rw [h3]
  omega

theorem round_val (p n : Nat) (hp : p < 4294967296) (h : n ≤ 32) :
    bits .or .u32 ((p : Int) / 2 ^ n) ((p : Int) * 2 ^ (32 - n) % 4294967296) = rorI p n := by
  have h1 := Nat.div_le_self p (2 ^ n)
  rw [cast_div, cast_mul, u32_or_nat _ _ (by omega) (by omega), rorN_or p n hp h]; rfl
theorem round_out (p n : Nat) (hp : p < 4294967296) (h1 : 1 ≤ n) (h2 : n ≤ 31) : rorI p n / 2147483648 = ob p (n - 1) := by
  have := rorN_out p n hp h1 h2
  unfold rorI ob; omega
theorem down_val (p n : Nat) (hp : p < 4294967296) (h : n ≤ 32) :
    bits .and .u32 (rorI p n) (((2 : Int) ^ (32 - n) - 1) % 4294967296) = shrI p n := by
  have h1 := cast_mask (32 - n) (by omega)
  unfold rorI
  rw [h1.1, u32_and_nat _ _ (rorN_lt p n hp h) h1.2, Nat.and_two_pow_sub_one_eq_mod, rorN_low p n hp h]; rfl
theorem up_val (p n : Nat) (hp : p < 4294967296) (h : n ≤ 32) :
    bits .andNot .u32 (rorI p (32 - n)) (((2 : Int) ^ n - 1) % 4294967296) = shlI p n := by
  have h1 := cast_mask n (by omega)
  have h2 := rorN_lt p (32 - n) hp (by omega)
  unfold rorI
  rw [h1.1, u32_andNot_nat _ _ h2 h1.2, clear_low _ n h2 h]
  unfold shlI
  rw [shl_mod p n h]
  have e := rorN_low p (32 - n) hp (by omega)
  rw [show 32 - (32 - n) = n by omega] at e
  rw [e]
  unfold rorN
  rw [show 32 - (32 - n) = n by omega]
  omega
theorem up_out (p n : Nat) (hp : p < 4294967296) (h1 : 1 ≤ n) (h : n ≤ 32) :
    bits .and .u32 (rorI p (32 - n)) 1 = ob p (32 - n) := by
  have h2 := rorN_lt p (32 - n) hp (by omega)
  have e := u32_and_nat (rorN p (32 - n)) 1 h2 (by omega)
  unfold rorI
  rw [show ((1 : Int)) = ((1 : Nat) : Int) by rfl, e, nat_mask1, rorN_one p (32 - n) (by omega)]; rfl

/-- the bit that went out last -/
def outUp (p k : Nat) : Bool := decide (k ≠ 0) && p.testBit (32 - k)
def outDown (p k : Nat) : Bool := decide (k ≠ 0) && p.testBit (k - 1)

theorem shlI_zero (p : Nat) (hp : p < 4294967296) : shlI p 0 = (p : Int) := by
  unfold shlI; rw [Nat.pow_zero, Nat.mul_one, Nat.mod_eq_of_lt hp]
theorem shrI_zero (p : Nat) : shrI p 0 = (p : Int) := by
  unfold shrI; rw [Nat.pow_zero, Nat.div_one]
theorem rorI_zero (p : Nat) : rorI p 0 = (p : Int) := by
  unfold rorI rorN; rw [Nat.pow_zero, Nat.div_one, Nat.mod_one, Nat.zero_mul, Nat.add_zero]

end Go.Proofs.YtfpknklibiigfaaDoor
