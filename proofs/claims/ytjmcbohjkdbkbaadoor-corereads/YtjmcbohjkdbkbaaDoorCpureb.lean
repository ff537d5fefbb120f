/- Which registers an instruction turns, and which it hangs on. -/
import Derived.Test.YtjmcbohjkdbkbaaDoorCkind
namespace Go.Proofs.YtjmcbohjkdbkbaaDoor
open Go.RowKit
set_option linter.unusedVariables false
set_option linter.unusedSimpArgs false

/-- Is a register in a set? -/
def inS (w : Int) (k : Nat) : Bool := w.toNat.testBit k
theorem two_mod (k : Nat) (h : k < 8) : (2 : Int) ^ k % 256 = ((2 ^ k : Nat) : Int) ∧ 2 ^ k < 256 := by
  have t : ∀ k, k < 8 → (2 : Int) ^ k % 256 = ((2 ^ k : Nat) : Int) ∧ 2 ^ k < 256 := by decide
  exact t k h
theorem or8 (x : Int) (k : Nat) (h0 : 0 ≤ x) (h1 : x < 256) (hk : k < 8) : bits .or .u8 x (2 ^ k % 256) = ((x.toNat ||| 2 ^ k : Nat) : Int) ∧ x.toNat ||| 2 ^ k < 256 := by
  obtain ⟨n, rfl⟩ : ∃ n : Nat, x = n := ⟨x.toNat, by omega⟩
  obtain ⟨e, hl⟩ := two_mod k hk
  rw [e, u8_or_nat n (2 ^ k) (by omega) hl]
  exact ⟨rfl, Nat.or_lt_two_pow (n := 8) (by omega) (by omega)⟩
theorem inS_or (x : Int) (k n : Nat) (h0 : 0 ≤ x) (h1 : x < 256) (hk : k < 8) : inS (bits .or .u8 x (2 ^ k % 256)) n = (inS x n || decide (n = k)) := by
  obtain ⟨e, _⟩ := or8 x k h0 h1 hk
  unfold inS
  rw [e, Int.toNat_natCast, Nat.testBit_or, Nat.testBit_two_pow]
  congr 1
  rw [Bool.eq_iff_iff]; simp; omega
theorem inS_orB (pa pb : Bool) (it : Int) (a b n : Nat) (h0 : 0 ≤ it) (h1 : it < 256) (ha : a < 8) (hb : b < 8) : inS (orB pa pb it a b) n = (inS it n || (pa && decide (n = a)) || (pb && decide (n = b))) := by
  cases pa <;> cases pb
  · simp [orB]
  · show inS (bits .or .u8 it (2 ^ ((b : Int).toNat) % 256)) n = _
    rw [Int.toNat_natCast, inS_or _ _ _ h0 h1 hb]; simp
  · show inS (bits .or .u8 it (2 ^ ((a : Int).toNat) % 256)) n = _
    rw [Int.toNat_natCast, inS_or _ _ _ h0 h1 ha]; simp
  · show inS (bits .or .u8 (bits .or .u8 it (2 ^ ((a : Int).toNat) % 256)) (2 ^ ((b : Int).toNat) % 256)) n = _
    obtain ⟨e, hl⟩ := or8 it a h0 h1 ha
    rw [Int.toNat_natCast, Int.toNat_natCast, inS_or _ _ _ (by rw [e]; omega) (by rw [e]; omega) hb, inS_or _ _ _ h0 h1 ha]; simp
theorem orB_range (pa pb : Bool) (it : Int) (a b : Nat) (h0 : 0 ≤ it) (h1 : it < 256) (ha : a < 8) (hb : b < 8) : 0 ≤ orB pa pb it a b ∧ orB pa pb it a b < 256 := by
  cases pa <;> cases pb
  · exact ⟨h0, h1⟩
  · show 0 ≤ bits .or .u8 it (2 ^ ((b : Int).toNat) % 256) ∧ bits .or .u8 it (2 ^ ((b : Int).toNat) % 256) < 256
    obtain ⟨e, hl⟩ := or8 it b h0 h1 hb
    rw [Int.toNat_natCast, e]; omega
  · show 0 ≤ bits .or .u8 it (2 ^ ((a : Int).toNat) % 256) ∧ bits .or .u8 it (2 ^ ((a : Int).toNat) % 256) < 256
    obtain ⟨e, hl⟩ := or8 it a h0 h1 ha
    rw [Int.toNat_natCast, e]; omega
  · show 0 ≤ bits .or .u8 (bits .or .u8 it (2 ^ ((a : Int).toNat) % 256)) (2 ^ ((b : Int).toNat) % 256) ∧ bits .or .u8 (bits .or .u8 it (2 ^ ((a : Int).toNat) % 256)) (2 ^ ((b : Int).toNat) % 256) < 256
    obtain ⟨e, hl⟩ := or8 it a h0 h1 ha
    obtain ⟨e2, hl2⟩ := or8 ((it.toNat ||| 2 ^ a : Nat) : Int) b (by omega) (by omega) hb
    rw [Int.toNat_natCast, Int.toNat_natCast, e, e2]; omega
theorem set_tab : ∀ n : Nat, n < 256 → 0 ≤ gWi (tabF (n : Int)) ∧ gWi (tabF (n : Int)) < 256 ∧ 0 ≤ gRi (tabF (n : Int)) ∧ gRi (tabF (n : Int)) < 256 := by decide +kernel
theorem row_tab : ∀ n : Nat, n < 112 → rowOf (n : Int) true = rowOf (n : Int) false := by decide +kernel
theorem wa_alu : ∀ n : Nat, n < 256 → 16 ≤ n ∧ n ≤ 33 → keepsB (n : Int) = true → gWa (tabF (n : Int)) = true := by decide +kernel
theorem wa_mem : ∀ n : Nat, n < 256 → 48 ≤ n ∧ n ≤ 58 → takes (n : Int) = true → gWa (tabF (n : Int)) = true := by decide +kernel
theorem wi_stk : ∀ n : Nat, n < 256 → n = 56 ∨ n = 57 → inS (gWi (tabF (n : Int))) 7 = true := by decide +kernel
theorem wi_lnk : ∀ n : Nat, n < 256 → n = 72 ∨ n = 74 → inS (gWi (tabF (n : Int))) 6 = true := by decide +kernel
theorem turn_tab : ∀ n : Nat, n < 256 → 16 ≤ n ∧ n ≤ 33 → turnsB (n : Int) = true → gT (tabF (n : Int)) = true := by decide +kernel
theorem ra_alu : ∀ n : Nat, n < 256 → 16 ≤ n ∧ n ≤ 33 → n ≠ 16 → n ≠ 32 → gRa (tabF (n : Int)) = true := by decide +kernel
theorem rb_alu : ∀ n : Nat, n < 256 → 16 ≤ n ∧ n ≤ 31 → gRb (tabF (n : Int)) = true := by decide +kernel
theorem rb_mem : ∀ n : Nat, n < 256 → 48 ≤ n ∧ n ≤ 58 → n ≠ 56 → n ≠ 57 → gRb (tabF (n : Int)) = true := by decide +kernel
theorem ri_stk : ∀ n : Nat, n < 256 → n = 56 ∨ n = 57 → inS (gRi (tabF (n : Int))) 7 = true := by decide +kernel
theorem ra_jmp : ∀ n : Nat, n < 256 → n = 73 ∨ n = 74 → gRa (tabF (n : Int)) = true := by decide +kernel
end Go.Proofs.YtjmcbohjkdbkbaaDoor
