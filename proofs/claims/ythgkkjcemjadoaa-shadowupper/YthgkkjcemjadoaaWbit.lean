/- Plain facts on the bits of entries: no program is named here. -/
import Derived.Test.YthgkkjcemjadoaaMtwo
namespace Go.Proofs.Ythgkkjcemjadoaa
open Go.RowKit
set_option linter.unusedVariables false

theorem andN (a b : Nat) (ha : a < 4294967296) (hb : b < 4294967296) : bits .and .u32 (a : Int) (b : Int) = ((a &&& b : Nat) : Int) := u32_and_nat a b ha hb
theorem mask32 (x m : Nat) (hm : m < 32) : x &&& m = (x % 32) &&& m := by
  have h1 : x % 32 = x &&& 31 := (Nat.and_two_pow_sub_one_eq_mod x 5).symm
  have h2 : 31 &&& m = m := by rw [Nat.and_comm]; exact (Nat.and_two_pow_sub_one_eq_mod m 5).trans (Nat.mod_eq_of_lt hm)
  rw [h1, Nat.and_assoc, h2]
/-- Whether x has the bit of weight b. -/
def hasB (x b : Nat) : Bool := x / b % 2 == 1
theorem bit_tab : ∀ r < 32, (r &&& 1) = r % 2 ∧ (r &&& 4) = 4 * (r / 4 % 2) ∧ (r &&& 8) = 8 * (r / 8 % 2) ∧ (r &&& 16) = 16 * (r / 16 % 2) := by decide
theorem and1 (x : Nat) (hx : x < 4294967296) : bits .and .u32 (x : Int) 1 = ((x % 2 : Nat) : Int) := by
  rw [show (1 : Int) = ((1 : Nat) : Int) from rfl, andN x 1 hx (by decide), mask32 x 1 (by decide), (bit_tab _ (Nat.mod_lt _ (by decide))).1]
  omega
theorem and4 (x : Nat) (hx : x < 4294967296) : bits .and .u32 (x : Int) 4 = ((4 * (x / 4 % 2) : Nat) : Int) := by
  rw [show (4 : Int) = ((4 : Nat) : Int) from rfl, andN x 4 hx (by decide), mask32 x 4 (by decide), (bit_tab _ (Nat.mod_lt _ (by decide))).2.1]
  omega
theorem and8 (x : Nat) (hx : x < 4294967296) : bits .and .u32 (x : Int) 8 = ((8 * (x / 8 % 2) : Nat) : Int) := by
  rw [show (8 : Int) = ((8 : Nat) : Int) from rfl, andN x 8 hx (by decide), mask32 x 8 (by decide), (bit_tab _ (Nat.mod_lt _ (by decide))).2.2.1]
  omega
theorem wand16 (x : Nat) (hx : x < 4294967296) : bits .and .u32 (x : Int) 16 = ((16 * (x / 16 % 2) : Nat) : Int) := by
  rw [show (16 : Int) = ((16 : Nat) : Int) from rfl, andN x 16 hx (by decide), mask32 x 16 (by decide), (bit_tab _ (Nat.mod_lt _ (by decide))).2.2.2]
  omega
theorem down_nat (x : Nat) (hx : x < 4294967296) : x &&& 4294967232 = x - x % 64 := by
  have e1 : x - x % 64 = (x >>> 6) <<< 6 := by rw [Nat.shiftLeft_eq, Nat.shiftRight_eq_div_pow]; omega
  have e2 : 4294967232 = (2 ^ 26 - 1) <<< 6 := by decide
  rw [e1, e2]
  apply Nat.eq_of_testBit_eq
  intro i
  rw [Nat.testBit_and, Nat.testBit_shiftLeft, Nat.testBit_shiftLeft, Nat.testBit_shiftRight, Nat.testBit_two_pow_sub_one]
  by_cases h6 : 6 ≤ i
  · rw [show 6 + (i - 6) = i by omega]
    by_cases h32 : i < 32
    · simp [h6, show i - 6 < 26 by omega]
    · have : x.testBit i = false := Nat.testBit_lt_two_pow (Nat.lt_of_lt_of_le hx (Nat.pow_le_pow_right (n := 2) (by decide) (by omega : 32 ≤ i)))
      simp [this]
  · simp [show ¬ i ≥ 6 by omega]
theorem down64 (x : Nat) (hx : x < 4294967296) : bits .andNot .u32 (x : Int) 63 = ((x - x % 64 : Nat) : Int) := by
  rw [show (63 : Int) = ((63 : Nat) : Int) from rfl, u32_andNot_nat x 63 hx (by decide), show 4294967295 - 63 = 4294967232 from rfl, down_nat x hx]
/-- The bits of a way through two entries. -/
def joinN (x y : Nat) : Nat := (x % 2) * (y % 2) + 2 * ((x / 2 % 2) * (y / 2 % 2)) + 4 * ((x / 4 % 2) * (y / 4 % 2)) + 8 * (if x / 8 % 2 = 1 ∨ y / 8 % 2 = 1 then 1 else 0) + 16 * (y / 16 % 2)
theorem join_tab : ∀ x < 32, ∀ y < 32, ((x &&& y) &&& 7) ||| ((x ||| y) &&& 8) ||| (y &&& 16) = joinN x y := by decide +kernel
theorem joinN_mod (x y : Nat) : joinN (x % 32) (y % 32) = joinN x y := by
  unfold joinN
  have e : ∀ z : Nat, z % 32 % 2 = z % 2 ∧ z % 32 / 2 % 2 = z / 2 % 2 ∧ z % 32 / 4 % 2 = z / 4 % 2 ∧ z % 32 / 8 % 2 = z / 8 % 2 ∧ z % 32 / 16 % 2 = z / 16 % 2 := fun z => by omega
  rw [(e x).1, (e x).2.1, (e x).2.2.1, (e x).2.2.2.1, (e y).1, (e y).2.1, (e y).2.2.1, (e y).2.2.2.1, (e y).2.2.2.2]
theorem wjoin_nat (x y : Nat) : ((x &&& y) &&& 7) ||| ((x ||| y) &&& 8) ||| (y &&& 16) = joinN x y := by
  rw [← joinN_mod, ← join_tab _ (Nat.mod_lt _ (by decide)) _ (Nat.mod_lt _ (by decide))]
  have h31 : ∀ z : Nat, z % 32 = z &&& 31 := fun z => (Nat.and_two_pow_sub_one_eq_mod z 5).symm
  rw [mask32 (x &&& y) 7 (by decide), mask32 (x ||| y) 8 (by decide), mask32 y 16 (by decide)]
  rw [show (x &&& y) % 32 = (x % 32) &&& (y % 32) from Nat.and_mod_two_pow (n := 5), show (x ||| y) % 32 = (x % 32) ||| (y % 32) from Nat.or_mod_two_pow (n := 5)]
theorem joins32 (x y : Nat) (hx : x < 4294967296) (hy : y < 4294967296) :
    bits .or .u32 (bits .or .u32 (bits .and .u32 (bits .and .u32 (bits .and .u32 4294967295 x) y) 7) (bits .and .u32 (bits .or .u32 (bits .or .u32 0 x) y) 8)) (bits .and .u32 y 16) = ((joinN x y : Nat) : Int) := by
  have a1 : 4294967295 &&& x = x := by rw [Nat.and_comm]; exact (Nat.and_two_pow_sub_one_eq_mod x 32).trans (Nat.mod_eq_of_lt hx)
  have c1 : x &&& y < 4294967296 := Nat.and_lt_two_pow (n := 32) _ hy
  have c2 : x ||| y < 4294967296 := Nat.or_lt_two_pow (n := 32) hx hy
  have c3 : (x &&& y) &&& 7 < 4294967296 := Nat.and_lt_two_pow (n := 32) _ (by decide)
  have c4 : (x ||| y) &&& 8 < 4294967296 := Nat.and_lt_two_pow (n := 32) _ (by decide)
  have c5 : y &&& 16 < 4294967296 := Nat.and_lt_two_pow (n := 32) _ (by decide)
  have c6 : (x &&& y) &&& 7 ||| (x ||| y) &&& 8 < 4294967296 := Nat.or_lt_two_pow (n := 32) c3 c4
  rw [show (4294967295 : Int) = ((4294967295 : Nat) : Int) from rfl, show (7 : Int) = ((7 : Nat) : Int) from rfl, show (8 : Int) = ((8 : Nat) : Int) from rfl, show (16 : Int) = ((16 : Nat) : Int) from rfl, show (0 : Int) = ((0 : Nat) : Int) from rfl,
    u32_and_nat _ _ (by decide) hx, a1, u32_and_nat _ _ hx hy, u32_and_nat _ _ c1 (by decide), u32_or_nat _ _ (by decide) hx, Nat.zero_or, u32_or_nat _ _ hx hy, u32_and_nat _ _ c2 (by decide), u32_and_nat _ _ hy (by decide), u32_or_nat _ _ c3 c4, u32_or_nat _ _ c6 c5, wjoin_nat]
end Go.Proofs.Ythgkkjcemjadoaa
