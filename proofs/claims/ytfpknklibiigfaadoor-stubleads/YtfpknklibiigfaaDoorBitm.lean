/- Plain facts on the bits of numbers: no program is named here. -/
import Derived.Test.YtfpknklibiigfaaDoorMath
namespace Go.Proofs.YtfpknklibiigfaaDoor
open Go.RowKit

/-- 2 to the n -/
def pw (n : Nat) : Int := ((2 ^ n : Nat) : Int)

theorem pw_zero : pw 0 = 1 := rfl
theorem pw_succ (n : Nat) : pw (n + 1) = pw n * 2 := by unfold pw; rw [Nat.pow_succ]; omega
theorem pw_range (n : Nat) (h : n < 32) : 1 ≤ pw n ∧ pw n ≤ 2147483648 := by
  unfold pw
  have h1 : 2 ^ n ≤ 2 ^ 31 := Nat.pow_le_pow_right (by omega) (by omega)
  have h2 : 1 ≤ 2 ^ n := Nat.one_le_two_pow
  omega

/-- the bit of number i -/
def bt (a : Int) (i : Nat) : Bool := a.toNat.testBit i

theorem bt_is (a : Int) (i : Nat) (h0 : 0 ≤ a) : (a / pw i % 2 == 1) = bt a i := by
  obtain ⟨n, rfl⟩ := Int.eq_ofNat_of_zero_le h0
  unfold bt pw
  rw [Int.toNat_natCast, Nat.testBit_eq_decide_div_mod_eq, ← Int.natCast_ediv, Bool.eq_iff_iff]
  generalize n / 2 ^ i = x
  simp only [beq_iff_eq, decide_eq_true_eq]
  omega

/-- the first k bits of what is joined bit by bit -/
theorem low_succ (x k : Nat) : ((x % 2 ^ (k + 1) : Nat) : Int) = ((x % 2 ^ k : Nat) : Int) + if x.testBit k then pw k else 0 := by
  rw [Nat.mod_pow_succ, Nat.testBit_eq_decide_div_mod_eq]
  unfold pw
  have h : x / 2 ^ k % 2 = 0 ∨ x / 2 ^ k % 2 = 1 := by omega
  rcases h with h | h
  · rw [h]; simp
  · rw [h]; simp

/-- the first k bits of a number -/
def low (x k : Nat) : Int := ((x % 2 ^ k : Nat) : Int)

theorem low_zero (x : Nat) : low x 0 = 0 := by unfold low; simp [Nat.mod_one]
theorem low_step (x k : Nat) (b : Bool) (h : x.testBit k = b) : low x (k + 1) = low x k + wt b (pw k) := by
  unfold low wt; rw [low_succ, h]
theorem low_range (x k : Nat) (h : k < 32) : 0 ≤ low x k ∧ low x k + pw k ≤ 4294967295 := by
  have h1 : x % 2 ^ k < 2 ^ k := Nat.mod_lt _ (Nat.pow_pos (by omega))
  have h2 := pw_range k h
  unfold low
  unfold pw at *
  omega
theorem low_all (x : Nat) (h : x < 4294967296) : low x 32 = (x : Int) := by
  unfold low; rw [Nat.mod_eq_of_lt (by omega)]
theorem low_top (x : Nat) : 0 ≤ low x 32 ∧ low x 32 < 4294967296 := by
  have h1 : x % 2 ^ 32 < 2 ^ 32 := Nat.mod_lt _ (Nat.pow_pos (by omega))
  unfold low; omega

/-- the document's joins, bit by bit: And 0, Or 1, Xor 2 -/
def joined (which : Int) (x y : Bool) : Bool := if which = 1 then x || y else if which = 2 then !(x == y) else x && y

theorem and_bits (a b : Int) (h0 : 0 ≤ a) (h1 : a < 4294967296) (h2 : 0 ≤ b) (h3 : b < 4294967296) :
    bits .and .u32 a b = ((a.toNat &&& b.toNat : Nat) : Int) ∧ a.toNat &&& b.toNat < 4294967296 ∧ ∀ k, (a.toNat &&& b.toNat).testBit k = joined 0 (bt a k) (bt b k) :=
  ⟨u32_and a b h0 h1 h2 h3, Nat.and_lt_two_pow _ (n := 32) (by omega), fun k => by rw [Nat.testBit_and]; rfl⟩
theorem or_bits (a b : Int) (h0 : 0 ≤ a) (h1 : a < 4294967296) (h2 : 0 ≤ b) (h3 : b < 4294967296) :
    bits .or .u32 a b = ((a.toNat ||| b.toNat : Nat) : Int) ∧ a.toNat ||| b.toNat < 4294967296 ∧ ∀ k, (a.toNat ||| b.toNat).testBit k = joined 1 (bt a k) (bt b k) :=
  ⟨u32_or a b h0 h1 h2 h3, Nat.or_lt_two_pow (n := 32) (by omega) (by omega), fun k => by rw [Nat.testBit_or]; rfl⟩
theorem xor_bits (a b : Int) (h0 : 0 ≤ a) (h1 : a < 4294967296) (h2 : 0 ≤ b) (h3 : b < 4294967296) :
    bits .xor .u32 a b = ((a.toNat ^^^ b.toNat : Nat) : Int) ∧ a.toNat ^^^ b.toNat < 4294967296 ∧ ∀ k, (a.toNat ^^^ b.toNat).testBit k = joined 2 (bt a k) (bt b k) :=
  ⟨u32_xor a b h0 h1 h2 h3, Nat.xor_lt_two_pow (n := 32) (by omega) (by omega), fun k => by
    rw [Nat.testBit_xor]; show (bt a k ^^ bt b k) = joined 2 (bt a k) (bt b k); cases bt a k <;> cases bt b k <;> rfl⟩

end Go.Proofs.YtfpknklibiigfaaDoor
