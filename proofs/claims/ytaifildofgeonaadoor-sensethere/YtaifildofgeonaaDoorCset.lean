/- Sets of registers, as bits; the control registers' cells. -/
import Derived.Test.YtaifildofgeonaaDoorCst
import Derived.Test.YtaifildofgeonaaDoorKsets
namespace Go.Proofs.YtaifildofgeonaaDoor
open Go.RowKit
set_option linter.unusedVariables false
set_option linter.unusedSimpArgs false

/-- Is a register in a set? -/
def inS (w : Int) (k : Nat) : Bool := w.toNat.testBit k
theorem two_mod (k : Nat) (h : k < 8) : (2 : Int) ^ k % 256 = ((2 ^ k : Nat) : Int) ∧ 2 ^ k < 256 := by
  have t : ∀ k, k < 8 → (2 : Int) ^ k % 256 = ((2 ^ k : Nat) : Int) ∧ 2 ^ k < 256 := by decide
  exact t k h
theorem or8 (x : Int) (k : Nat) (h0 : 0 ≤ x) (h1 : x < 256) (hk : k < 8) : bits .or .u8 x (2 ^ k % 256) = ((x.toNat ||| 2 ^ k : Nat) : Int) ∧ x.toNat ||| 2 ^ k < 256 := by
  obtain ⟨n, rfl⟩ : ∃ n : Nat, x = n := ⟨x.toNat, by omega⟩
  obtain ⟨e, hl⟩ := two_mod k hk
  rw [e, u8_or_nat n (2 ^ k) (by omega) hl]
  exact ⟨rfl, Nat.or_lt_two_pow (n := 8) (by omega) (by omega)⟩
theorem inS_or (x : Int) (k n : Nat) (h0 : 0 ≤ x) (h1 : x < 256) (hk : k < 8) : inS (bits .or .u8 x (2 ^ k % 256)) n = (inS x n || decide (n = k)) := by
  obtain ⟨e, _⟩ := or8 x k h0 h1 hk
  unfold inS
  rw [e, Int.toNat_natCast, Nat.testBit_or, Nat.testBit_two_pow]
  congr 1
  rw [Bool.eq_iff_iff]; simp; omega
theorem inS_orB (pa pb : Bool) (it : Int) (a b n : Nat) (h0 : 0 ≤ it) (h1 : it < 256) (ha : a < 8) (hb : b < 8) : inS (orB pa pb it a b) n = (inS it n || (pa && decide (n = a)) || (pb && decide (n = b))) := by
  cases pa <;> cases pb
  · simp [orB]
  · show inS (bits .or .u8 it (2 ^ ((b : Int).toNat) % 256)) n = _
    rw [Int.toNat_natCast, inS_or _ _ _ h0 h1 hb]; simp
  · show inS (bits .or .u8 it (2 ^ ((a : Int).toNat) % 256)) n = _
    rw [Int.toNat_natCast, inS_or _ _ _ h0 h1 ha]; simp
  · show inS (bits .or .u8 (bits .or .u8 it (2 ^ ((a : Int).toNat) % 256)) (2 ^ ((b : Int).toNat) % 256)) n = _
    obtain ⟨e, hl⟩ := or8 it a h0 h1 ha
    rw [Int.toNat_natCast, Int.toNat_natCast, inS_or _ _ _ (by rw [e]; omega) (by rw [e]; omega) hb, inS_or _ _ _ h0 h1 ha]; simp
theorem orB_range (pa pb : Bool) (it : Int) (a b : Nat) (h0 : 0 ≤ it) (h1 : it < 256) (ha : a < 8) (hb : b < 8) : 0 ≤ orB pa pb it a b ∧ orB pa pb it a b < 256 := by
  cases pa <;> cases pb
  · exact ⟨h0, h1⟩
  · show 0 ≤ bits .or .u8 it (2 ^ ((b : Int).toNat) % 256) ∧ bits .or .u8 it (2 ^ ((b : Int).toNat) % 256) < 256
    obtain ⟨e, hl⟩ := or8 it b h0 h1 hb
    rw [Int.toNat_natCast, e]; omega
  · show 0 ≤ bits .or .u8 it (2 ^ ((a : Int).toNat) % 256) ∧ bits .or .u8 it (2 ^ ((a : Int).toNat) % 256) < 256
    obtain ⟨e, hl⟩ := or8 it a h0 h1 ha
    rw [Int.toNat_natCast, e]; omega
  · show 0 ≤ bits .or .u8 (bits .or .u8 it (2 ^ ((a : Int).toNat) % 256)) (2 ^ ((b : Int).toNat) % 256) ∧ bits .or .u8 (bits .or .u8 it (2 ^ ((a : Int).toNat) % 256)) (2 ^ ((b : Int).toNat) % 256) < 256
    obtain ⟨e, hl⟩ := or8 it a h0 h1 ha
    obtain ⟨e2, hl2⟩ := or8 ((it.toNat ||| 2 ^ a : Nat) : Int) b (by omega) (by omega) hb
    rw [Int.toNat_natCast, Int.toNat_natCast, e, e2]; omega
theorem set_tab : ∀ n : Nat, n < 256 → 0 ≤ gWi (tabF (n : Int)) ∧ gWi (tabF (n : Int)) < 256 ∧ 0 ≤ gRi (tabF (n : Int)) ∧ gRi (tabF (n : Int)) < 256 := by decide +kernel
theorem row_tab : ∀ n : Nat, n < 112 → rowOf (n : Int) true = rowOf (n : Int) false := by decide +kernel
/-- The set of written registers. -/
def wset (op : Int) (a b : Nat) (imm : Int) : Int := setB (mayB (rowOf op true) a b imm) (gWa (tabF op)) (gWb (tabF op)) (gWi (tabF op)) a b
def rset (op : Int) (a b : Nat) (imm : Int) : Int := setB (mayB (rowOf op true) a b imm) (gRa (tabF op)) (gRb (tabF op)) (gRi (tabF op)) a b
theorem setB_range (op : Int) (a b : Nat) (imm : Int) (pa pb : Bool) (it : Int) (h0 : 0 ≤ it) (h1 : it < 256) : 0 ≤ setB (mayB (rowOf op true) a b imm) pa pb it a b ∧ setB (mayB (rowOf op true) a b imm) pa pb it a b < 256 := by
  unfold setB
  split
  · rename_i hm
    obtain ⟨ha, hb⟩ := may_seven _ (rowOf_lt op true) _ _ _ hm
    exact orB_range pa pb it a b h0 h1 (by omega) (by omega)
  · exact ⟨by decide, by decide⟩
theorem wset_range (op : Int) (a b : Nat) (imm : Int) (h0 : 0 ≤ op) (h1 : op < 256) : 0 ≤ wset op a b imm ∧ wset op a b imm < 256 := by
  obtain ⟨n, rfl⟩ : ∃ n : Nat, op = n := ⟨op.toNat, by omega⟩
  obtain ⟨t0, t1, t2, t3⟩ := set_tab n (by omega)
  exact setB_range _ a b imm _ _ _ t0 t1
theorem pow_cast : ∀ r : Nat, (2 : Int) ^ r = ((2 ^ r : Nat) : Int)
  | 0 => rfl
  | r + 1 => by rw [Int.pow_succ, pow_cast r, Nat.pow_succ]; rfl
theorem bit_val (x : Int) (r : Nat) (h0 : 0 ≤ x) (h1 : x < 256) : bits .and .u8 (x / 2 ^ r) 1 = (if inS x r then 1 else 0) := by
  obtain ⟨n, rfl⟩ : ∃ n : Nat, x = n := ⟨x.toNat, by omega⟩
  have e : (n : Int) / 2 ^ r = ((n / 2 ^ r : Nat) : Int) := by rw [pow_cast r]; rfl
  have hl : n / 2 ^ r < 256 := Nat.lt_of_le_of_lt (Nat.div_le_self _ _) (by omega)
  rw [e, show (1 : Int) = ((1 : Nat) : Int) from rfl, u8_and_nat _ 1 hl (by decide), Nat.and_one_is_mod]
  unfold inS
  rw [Int.toNat_natCast, Nat.testBit_eq_decide_div_mod_eq]
  by_cases q : n / 2 ^ r % 2 = 1
  · rw [q]; simp
  · have : n / 2 ^ r % 2 = 0 := by omega
    rw [this]; simp
theorem bit_one (x : Int) (r : Nat) (h0 : 0 ≤ x) (h1 : x < 256) : (bits .and .u8 (x / 2 ^ r) 1 == 1) = inS x r := by
  rw [bit_val x r h0 h1]; cases inS x r <;> rfl
theorem bit_zero (x : Int) (r : Nat) (h0 : 0 ≤ x) (h1 : x < 256) : (bits .and .u8 (x / 2 ^ r) 1 == 0) = !inS x r := by
  rw [bit_val x r h0 h1]; cases inS x r <;> rfl
theorem At.cr {w : World} {p : Nat} {s : Sta} (h : At w p s) : w.cell? ⟨p, 10, none⟩ = some (.int .u32 (s.c 0)) ∧ w.cell? ⟨p, 11, none⟩ = some (.int .u32 (s.c 1)) ∧ w.cell? ⟨p, 12, none⟩ = some (.int .u32 (s.c 2)) ∧ w.cell? ⟨p, 13, none⟩ = some (.int .u32 (s.c 3)) ∧
    w.cell? ⟨p, 14, none⟩ = some (.int .u32 (s.c 4)) ∧ w.cell? ⟨p, 15, none⟩ = some (.int .u32 (s.c 5)) ∧ w.cell? ⟨p, 16, none⟩ = some (.int .u32 (s.c 6)) ∧ w.cell? ⟨p, 17, none⟩ = some (.int .u32 (s.c 7)) ∧ w.cell? ⟨p, 18, none⟩ = some (.bool s.h) :=
  ⟨cell_of_block h, cell_of_block h, cell_of_block h, cell_of_block h, cell_of_block h, cell_of_block h, cell_of_block h, cell_of_block h, cell_of_block h⟩
end Go.Proofs.YtaifildofgeonaaDoor
