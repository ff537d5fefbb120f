/- Plain facts on numbers of 32 bits and their flags: no program is named here. -/
import Derived.WalkKit
namespace Go.Proofs.Ythoolhndhicidaa

/-- a flag of a status: the bit of weight m -/
def bitB (ps m : Int) : Bool := ps / m % 2 == 1

/-- a condition of a status, as the document has it -/
def holdsB (c ps : Int) : Bool :=
  if c = 0 then true else if c = 1 then bitB ps 16 else if c = 2 then !bitB ps 16
  else if c = 3 then !(bitB ps 32 == bitB ps 128) else if c = 4 then bitB ps 32 == bitB ps 128
  else if c = 5 then bitB ps 64 else if c = 6 then !bitB ps 64 else if c = 7 then bitB ps 128 else false

theorem bit_and (i : Nat) (ps : Int) (h0 : 0 ≤ ps) (h1 : ps < 4294967296) (hi : i < 32) :
    (bits .and .u32 ps ((2 ^ i : Nat) : Int) != 0) = bitB ps ((2 ^ i : Nat) : Int) := by
  have hp : 2 ^ i < 4294967296 := by
    have := Nat.pow_lt_pow_right (a := 2) (by omega) hi
    omega
  have hpos : 0 < 2 ^ i := Nat.pow_pos (by omega)
  obtain ⟨n, rfl⟩ := Int.eq_ofNat_of_zero_le h0
  rw [u32_and_nat n (2 ^ i) (by omega) hp, nat_bit]
  unfold bitB
  have hm : n / 2 ^ i % 2 < 2 := Nat.mod_lt _ (by omega)
  generalize 2 ^ i = p at *
  have e : ((n : Int) / (p : Int) % 2) = ((n / p % 2 : Nat) : Int) := by rw [Int.natCast_emod, Int.natCast_ediv]; rfl
  rw [e]
  generalize n / p % 2 = x at *
  have hx : x = 0 ∨ x = 1 := by omega
  rcases hx with rfl | rfl
  · simp
  · rw [Nat.one_mul]
    have h : ((p : Int) != 0) = true := by rw [bne_iff_ne]; omega
    rw [h]; rfl

theorem and16 (ps : Int) (h0 : 0 ≤ ps) (h1 : ps < 4294967296) : (bits .and .u32 ps 16 != 0) = bitB ps 16 := bit_and 4 ps h0 h1 (by omega)
theorem and32 (ps : Int) (h0 : 0 ≤ ps) (h1 : ps < 4294967296) : (bits .and .u32 ps 32 != 0) = bitB ps 32 := bit_and 5 ps h0 h1 (by omega)
theorem and64 (ps : Int) (h0 : 0 ≤ ps) (h1 : ps < 4294967296) : (bits .and .u32 ps 64 != 0) = bitB ps 64 := bit_and 6 ps h0 h1 (by omega)
theorem and128 (ps : Int) (h0 : 0 ≤ ps) (h1 : ps < 4294967296) : (bits .and .u32 ps 128 != 0) = bitB ps 128 := bit_and 7 ps h0 h1 (by omega)

end Go.Proofs.Ythoolhndhicidaa
