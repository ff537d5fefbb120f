/- Plain facts on numbers of 32 bits and their flags: no program is named here. -/
import Derived.WalkKit
namespace Go.Proofs.YtfpknklibiigfaaDoor
open Go.RowKit

/-- a flag of a status: the bit of weight m -/
def bitB (ps m : Int) : Bool := ps / m % 2 == 1

/-- a condition of a status, as the document has it -/
def holdsB (c ps : Int) : Bool :=
  if c = 0 then true else if c = 1 then bitB ps 16 else if c = 2 then !bitB ps 16
  else if c = 3 then !(bitB ps 32 == bitB ps 128) else if c = 4 then bitB ps 32 == bitB ps 128
  else if c = 5 then bitB ps 64 else if c = 6 then !bitB ps 64 else if c = 7 then bitB ps 128 else false

/-- a condition's share of the flags -/
def wt (h : Bool) (f : Int) : Int := if h then f else 0

/-- the flags of a result, a carry and a lost sign -/
def fl (r : Int) (c v : Bool) : Int := wt (r == 0) 16 + wt (decide (2147483648 ≤ r)) 32 + (wt c 64 + wt v 128)

/-- a number, signed -/
def sg (a : Int) : Int := if 2147483648 ≤ a then a - 4294967296 else a
/-- the signed sum is not what the sum is, signed -/
def addV (a b : Int) : Bool := sg a + sg b != sg ((a + b) % 4294967296)
def subV (a b : Int) : Bool := sg a - sg b != sg ((a - b) % 4294967296)

theorem sg_wrap (a : Int) (h0 : 0 ≤ a) (h1 : a < 4294967296) : wrap64 (wrap32 a) = sg a := by
  unfold wrap64 wrap32 sg; omega
theorem sg_range (a : Int) (h0 : 0 ≤ a) (h1 : a < 4294967296) : -2147483648 ≤ sg a ∧ sg a ≤ 2147483647 := by
  unfold sg; omega
theorem sg_neg (a : Int) (h0 : 0 ≤ a) (h1 : a < 4294967296) : sg a < 0 ↔ 2147483648 ≤ a := by
  unfold sg; omega

theorem bit_and (i : Nat) (ps : Int) (h0 : 0 ≤ ps) (h1 : ps < 4294967296) (hi : i < 32) :
    (bits .and .u32 ps ((2 ^ i : Nat) : Int) != 0) = bitB ps ((2 ^ i : Nat) : Int) := by
  have hp : 2 ^ i < 4294967296 := by
    have := Nat.pow_lt_pow_right (a := 2) (by omega) hi
    omega
  have hpos : 0 < 2 ^ i := Nat.pow_pos (by omega)
  obtain ⟨n, rfl⟩ := Int.eq_ofNat_of_zero_le h0
  rw [u32_and_nat n (2 ^ i) (by omega) hp, nat_bit]
  unfold bitB
  have hm : n / 2 ^ i % 2 < 2 := Nat.mod_lt _ (by omega)
  generalize 2 ^ i = p at *
  have e : ((n : Int) / (p : Int) % 2) = ((n / p % 2 : Nat) : Int) := by rw [Int.natCast_emod, Int.natCast_ediv]; rfl
  rw [e]
  generalize n / p % 2 = x at *
  have hx : x = 0 ∨ x = 1 := by omega
  rcases hx with rfl | rfl
  · simp
  · rw [Nat.one_mul]
    have h : ((p : Int) != 0) = true := by rw [bne_iff_ne]; omega
    rw [h]; rfl

theorem and16 (ps : Int) (h0 : 0 ≤ ps) (h1 : ps < 4294967296) : (bits .and .u32 ps 16 != 0) = bitB ps 16 := bit_and 4 ps h0 h1 (by omega)
theorem and32 (ps : Int) (h0 : 0 ≤ ps) (h1 : ps < 4294967296) : (bits .and .u32 ps 32 != 0) = bitB ps 32 := bit_and 5 ps h0 h1 (by omega)
theorem and64 (ps : Int) (h0 : 0 ≤ ps) (h1 : ps < 4294967296) : (bits .and .u32 ps 64 != 0) = bitB ps 64 := bit_and 6 ps h0 h1 (by omega)
theorem and128 (ps : Int) (h0 : 0 ≤ ps) (h1 : ps < 4294967296) : (bits .and .u32 ps 128 != 0) = bitB ps 128 := bit_and 7 ps h0 h1 (by omega)

theorem fl_range (r : Int) (c v : Bool) : 0 ≤ fl r c v ∧ fl r c v ≤ 240 := by
  unfold fl
  generalize (r == 0) = z
  generalize decide (2147483648 ≤ r) = n
  cases z <;> cases n <;> cases c <;> cases v <;> decide
theorem fl_z (r : Int) (c v : Bool) : bitB (fl r c v) 16 = (r == 0) := by
  unfold fl
  generalize (r == 0) = z
  generalize decide (2147483648 ≤ r) = n
  cases z <;> cases n <;> cases c <;> cases v <;> decide
theorem fl_n (r : Int) (c v : Bool) : bitB (fl r c v) 32 = decide (2147483648 ≤ r) := by
  unfold fl
  generalize (r == 0) = z
  generalize decide (2147483648 ≤ r) = n
  cases z <;> cases n <;> cases c <;> cases v <;> decide
theorem fl_c (r : Int) (c v : Bool) : bitB (fl r c v) 64 = c := by
  unfold fl
  generalize (r == 0) = z
  generalize decide (2147483648 ≤ r) = n
  cases z <;> cases n <;> cases c <;> cases v <;> decide
theorem fl_v (r : Int) (c v : Bool) : bitB (fl r c v) 128 = v := by
  unfold fl
  generalize (r == 0) = z
  generalize decide (2147483648 ≤ r) = n
  cases z <;> cases n <;> cases c <;> cases v <;> decide

theorem holds0 (ps : Int) : holdsB 0 ps = true := rfl
theorem holds5 (r : Int) (c v : Bool) : holdsB 5 (fl r c v) = c := fl_c r c v
theorem holds6 (r : Int) (c v : Bool) : holdsB 6 (fl r c v) = !c := congrArg (!·) (fl_c r c v)
theorem holds1 (r : Int) (c v : Bool) : holdsB 1 (fl r c v) = (r == 0) := fl_z r c v
theorem holds2 (r : Int) (c v : Bool) : holdsB 2 (fl r c v) = !(r == 0) := congrArg (!·) (fl_z r c v)
theorem holds4 (r : Int) (c v : Bool) : holdsB 4 (fl r c v) = (decide (2147483648 ≤ r) == v) := by
  show (bitB (fl r c v) 32 == bitB (fl r c v) 128) = _
  rw [fl_n, fl_v]
theorem holds3 (r : Int) (c v : Bool) : holdsB 3 (fl r c v) = !(decide (2147483648 ≤ r) == v) := congrArg (!·) (holds4 r c v)

/-- how two numbers stand: equal -/
theorem sub_eq (a b : Int) (h0 : 0 ≤ a) (h1 : a < 4294967296) (h2 : 0 ≤ b) (h3 : b < 4294967296) : ((a - b) % 4294967296 == 0) = (a == b) := by
  rw [Bool.eq_iff_iff]; simp; omega
/-- how two numbers stand: below, signed -/
theorem sub_less (a b : Int) (h0 : 0 ≤ a) (h1 : a < 4294967296) (h2 : 0 ≤ b) (h3 : b < 4294967296) :
    (decide (2147483648 ≤ (a - b) % 4294967296) == subV a b) = decide (sg b ≤ sg a) := by
  have e : subV a b = decide (sg a - sg b ≠ sg ((a - b) % 4294967296)) := by
    unfold subV; rw [Bool.eq_iff_iff]; simp
  rw [e, Bool.eq_iff_iff]
  simp only [beq_iff_eq, decide_eq_decide, decide_eq_true_eq]
  unfold sg
  omega
theorem sg_wrap32 (a : Int) (h0 : 0 ≤ a) (h1 : a < 4294967296) : wrap32 a = sg a := by unfold wrap32 sg; omega

end Go.Proofs.YtfpknklibiigfaaDoor
