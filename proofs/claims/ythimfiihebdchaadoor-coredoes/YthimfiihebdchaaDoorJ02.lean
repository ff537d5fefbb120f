/- Part of a proof. -/
import Derived.ChangeKeysEq
import Derived.WalkKit
import Derived.Test.YthimfiihebdchaaDoorJ01
namespace Go.Proofs.YthimfiihebdchaaDoor
open Go.RowKit
set_option linter.unusedVariables false
set_option linter.unusedSimpArgs false
theorem fields_same {P : Program} (w : World) (d : Nat) (xs : Array Value) : ∀ (fs : List Field), (∀ f ∈ fs, ∃ v, (Go.part f.type xs f.offset).run P w = .ok v w ∧ (Op.equalIn d f.type v v).run P w = .ok true w) → (Op.eqFields d xs xs fs).run P w = .ok true w
  | [], _ => by simp [Op.eqFields]
  | f :: fs, h => by
    obtain ⟨v, h1, h2⟩ := h f (by simp)
    have ih := fields_same w d xs fs (fun g hg => h g (by simp [hg]))
    simp only [Op.eqFields]
    split
    · simp only [Sem.run_bind, h1, h2, Result.andThen_ok, Bool.not_true, Bool.false_eq_true, if_false]
      exact ih
    · exact ih
theorem items_same {P : Program} (w : World) (d : Nat) (e : TypeId) (k : IntKind) (c : Nat) (xs : Array Value) (hu : P.underlying e = some (.int k)) : ∀ (is : List Nat), (∀ i ∈ is, ∃ a, (Go.part e xs (i * c)).run P w = .ok (.int k a) w) → (Op.eqItems (d + 1) e c xs xs is).run P w = .ok true w
  | [], _ => by simp [Op.eqItems]
  | i :: is, h => by
    obtain ⟨a, h1⟩ := h i (by simp)
    have ih := items_same w d e k c xs hu is (fun g hg => h g (by simp [hg]))
    simp only [Op.eqItems, Sem.run_bind, h1, Result.andThen_ok, run_equalIn_int w d e k k a a hu, beq_self_eq_true, Bool.not_true, Bool.false_eq_true, if_false]
    exact ih
theorem arr8_same (a0 a1 a2 a3 a4 a5 a6 a7 : Int) (w : World) : (Op.equalIn 9999 23 (.agg #[.int .u32 a0, .int .u32 a1, .int .u32 a2, .int .u32 a3, .int .u32 a4, .int .u32 a5, .int .u32 a6, .int .u32 a7]) (.agg #[.int .u32 a0, .int .u32 a1, .int .u32 a2, .int .u32 a3, .int .u32 a4, .int .u32 a5, .int .u32 a6, .int .u32 a7])).run Tryd.prog w = .ok true w := by
  obtain ⟨i, hi⟩ : ∃ i, Tryd.prog.info? 22 = some i := Option.isSome_iff_exists.1 (by kernel_rfl)
  have e := run_equalIn_array (P := Tryd.prog) w 9998 #[.int .u32 a0, .int .u32 a1, .int .u32 a2, .int .u32 a3, .int .u32 a4, .int .u32 a5, .int .u32 a6, .int .u32 a7] #[.int .u32 a0, .int .u32 a1, .int .u32 a2, .int .u32 a3, .int .u32 a4, .int .u32 a5, .int .u32 a6, .int .u32 a7] Tryd.underlying23 hi
  rw [e]
  refine items_same w 9997 22 .u32 _ _ Tryd.underlying22 _ (fun i hm => ?_)
  have hc : Tryd.prog.cellsOf 22 = 1 := by kernel_rfl
  rw [hc]
  have h8 : i < 8 := by simpa using hm
  rcases (by omega : i = 0 ∨ i = 1 ∨ i = 2 ∨ i = 3 ∨ i = 4 ∨ i = 5 ∨ i = 6 ∨ i = 7) with rfl | rfl | rfl | rfl | rfl | rfl | rfl | rfl
  · exact ⟨a0, by kernel_rfl⟩
  · exact ⟨a1, by kernel_rfl⟩
  · exact ⟨a2, by kernel_rfl⟩
  · exact ⟨a3, by kernel_rfl⟩
  · exact ⟨a4, by kernel_rfl⟩
  · exact ⟨a5, by kernel_rfl⟩
  · exact ⟨a6, by kernel_rfl⟩
  · exact ⟨a7, by kernel_rfl⟩
theorem sta_same (s : Sta) (w : World) : (Op.equalIn 10000 25 (.agg s.v) (.agg s.v)).run Tryd.prog w = .ok true w := by
  rw [run_equalIn_agg (P := Tryd.prog) w 9999 25 s.v s.v (by kernel_rfl) (by kernel_rfl)]
  refine fields_same w 9999 s.v _ (fun f hf => ?_)
  have hall : ((Tryd.prog.fieldsOf 25).toList.all fun f => (f.type == 23 && f.offset == 0) || (f.type == 22 && f.offset == 8) || (f.type == 22 && f.offset == 9) || (f.type == 23 && f.offset == 10) || (f.type == 4 && f.offset == 18)) = true := by kernel_rfl
  have h := List.all_eq_true.1 hall f hf
  simp only [Bool.or_eq_true, Bool.and_eq_true, beq_iff_eq] at h
  rcases h with (((⟨h1, h2⟩ | ⟨h1, h2⟩) | ⟨h1, h2⟩) | ⟨h1, h2⟩) | ⟨h1, h2⟩
  all_goals rw [h1, h2]
  · exact ⟨.agg #[.int .u32 (s.r 0), .int .u32 (s.r 1), .int .u32 (s.r 2), .int .u32 (s.r 3), .int .u32 (s.r 4), .int .u32 (s.r 5), .int .u32 (s.r 6), .int .u32 (s.r 7)], by kernel_rfl, arr8_same _ _ _ _ _ _ _ _ w⟩
  · exact ⟨.int .u32 s.pc, by kernel_rfl, by rw [run_equalIn_int w 9998 _ _ _ _ _ Tryd.underlying22]; simp⟩
  · exact ⟨.int .u32 s.ps, by kernel_rfl, by rw [run_equalIn_int w 9998 _ _ _ _ _ Tryd.underlying22]; simp⟩
  · exact ⟨.agg #[.int .u32 (s.c 0), .int .u32 (s.c 1), .int .u32 (s.c 2), .int .u32 (s.c 3), .int .u32 (s.c 4), .int .u32 (s.c 5), .int .u32 (s.c 6), .int .u32 (s.c 7)], by kernel_rfl, arr8_same _ _ _ _ _ _ _ _ w⟩
  · exact ⟨.bool s.h, by kernel_rfl, by rw [run_equalIn_bool' w 9998 _ _ _ Tryd.underlying4]; simp⟩
theorem blkA {P : Prop} (h : P := by (repeat (first | (with_reducible assumption) | (with_reducible exact Hid.out (by assumption)) | (with_reducible refine (hsk _ _ _ (by (first | omega | (simp only [World.size_alloc, World.size_setCell, size_setRow, World.size_drew]; done) | (simp only [World.size_alloc, World.size_setCell, size_setRow, World.size_drew]; omega)))).trans ?_) | (with_reducible refine (hat _ _ _ (by (first | omega | (simp only [World.size_alloc, World.size_setCell, size_setRow, World.size_drew]; done) | (simp only [World.size_alloc, World.size_setCell, size_setRow, World.size_drew]; omega))))) | (with_reducible refine Kep.block (Kep.alloc (Kep.refl _) _) ?_) | (with_reducible refine (heap_setCell_other _ _ _ _ (by (first | omega | (simp only []; omega) | (show _ ≠ _; omega)))).trans ?_) | (with_reducible refine (setRow_other _ _ _ _ (by (first | omega | (simp only []; omega) | (show _ ≠ _; omega)))).trans ?_) | (with_reducible refine (drew_heap _ _).trans ?_) | (with_reducible refine (drewN_heap _ _ _).trans ?_) | (with_reducible refine Kep.block (by assumption) ?_) | (with_reducible exact setRow_heap _ _ _ _ _ _ (by (repeat (first | (with_reducible assumption) | (with_reducible exact Hid.out (by assumption)) | (with_reducible refine (hsk _ _ _ (by (first | omega | (simp only [World.size_alloc, World.size_setCell, size_setRow, World.size_drew]; done) | (simp only [World.size_alloc, World.size_setCell, size_setRow, World.size_drew]; omega)))).trans ?_) | (with_reducible refine (hat _ _ _ (by (first | omega | (simp only [World.size_alloc, World.size_setCell, size_setRow, World.size_drew]; done) | (simp only [World.size_alloc, World.size_setCell, size_setRow, World.size_drew]; omega))))) | (with_reducible refine Kep.block (Kep.alloc (Kep.refl _) _) ?_) | (with_reducible refine (heap_setCell_other _ _ _ _ (by (first | omega | (simp only []; omega) | (show _ ≠ _; omega)))).trans ?_) | (with_reducible refine (setRow_other _ _ _ _ (by (first | omega | (simp only []; omega) | (show _ ≠ _; omega)))).trans ?_) | (with_reducible refine (drew_heap _ _).trans ?_) | (with_reducible refine (drewN_heap _ _ _).trans ?_)))))))) : P := h
theorem kepA {P : Prop} (h : P := by (repeat (first | (with_reducible assumption) | (with_reducible exact Kep.refl _) | (with_reducible exact Hid.out (by assumption)) | (with_reducible refine Kep.alloc ?_ _) | (with_reducible refine Kep.drew ?_) | (with_reducible refine Kep.drewN ?_ _) | (with_reducible refine Kep.setRow ?_ _ _ (by (first | omega | (simp only [World.size_alloc, World.size_setCell, size_setRow, World.size_drew]; done) | (simp only [World.size_alloc, World.size_setCell, size_setRow, World.size_drew]; omega)))) | (with_reducible refine Kep.setCell ?_ (by first | omega | (simp only []; omega) | (show _ ≤ _; omega)) _)))) : P := h
theorem putA {P : Prop} (h : P := by (repeat (first | (with_reducible assumption) | (with_reducible exact Hid.out (by assumption)) | (with_reducible exact Put.of_kep (Hid.out (by assumption))) | (with_reducible exact Put.of_kep (by assumption)) | (with_reducible exact Put.refl _) | (with_reducible refine Put.drew ?_) | (with_reducible refine Put.drewN ?_ _) | (with_reducible refine Put.alloc ?_ _) | (with_reducible refine Put.setRowNew ?_ (by (first | omega | (simp only [World.size_alloc, World.size_setCell, size_setRow, World.size_drew]; done) | (simp only [World.size_alloc, World.size_setCell, size_setRow, World.size_drew]; omega))) _) | (with_reducible refine Put.setCell ?_ (by simp) _) | (with_reducible refine Put.setCellNew ?_ (by first | omega | (simp only []; omega) | (show _ ≤ _; omega)) _)))) : P := h
theorem atA {P : Prop} (h : P := by (repeat (first | (with_reducible assumption) | (with_reducible refine At.kep ?_ (by assumption)) | (with_reducible exact Hid.out (by assumption)) | (with_reducible refine At.drew ?_) | (with_reducible refine At.drewN ?_ _) | (with_reducible refine At.alloc ?_ _) | (with_reducible refine At.setRow ?_ (by (first | omega | (simp only []; omega) | (show _ ≠ _; omega))) _) | (with_reducible refine At.set ?_ _ (by omega) _) | (with_reducible refine At.setPc ?_ _) | (with_reducible refine At.setPs ?_ _) | (with_reducible refine At.setOther ?_ (by (first | omega | (simp only []; omega) | (show _ ≠ _; omega))) _)))) : P := h
def bitB (ps m : Int) : Bool := ps / m % 2 == 1
def holdsB (c ps : Int) : Bool :=
  if c = 0 then true else if c = 1 then bitB ps 16 else if c = 2 then !bitB ps 16
  else if c = 3 then !(bitB ps 32 == bitB ps 128) else if c = 4 then bitB ps 32 == bitB ps 128
  else if c = 5 then bitB ps 64 else if c = 6 then !bitB ps 64 else if c = 7 then bitB ps 128 else false
def wt (h : Bool) (f : Int) : Int := if h then f else 0
def fl (r : Int) (c v : Bool) : Int := wt (r == 0) 16 + wt (decide (2147483648 ≤ r)) 32 + (wt c 64 + wt v 128)
def sg (a : Int) : Int := if 2147483648 ≤ a then a - 4294967296 else a
def addV (a b : Int) : Bool := sg a + sg b != sg ((a + b) % 4294967296)
def subV (a b : Int) : Bool := sg a - sg b != sg ((a - b) % 4294967296)
theorem sg_wrap (a : Int) (h0 : 0 ≤ a) (h1 : a < 4294967296) : wrap64 (wrap32 a) = sg a := by
  unfold wrap64 wrap32 sg; omega
theorem sg_range (a : Int) (h0 : 0 ≤ a) (h1 : a < 4294967296) : -2147483648 ≤ sg a ∧ sg a ≤ 2147483647 := by
  unfold sg; omega
theorem sg_neg (a : Int) (h0 : 0 ≤ a) (h1 : a < 4294967296) : sg a < 0 ↔ 2147483648 ≤ a := by
  unfold sg; omega
theorem bit_and (i : Nat) (ps : Int) (h0 : 0 ≤ ps) (h1 : ps < 4294967296) (hi : i < 32) :
    (bits .and .u32 ps ((2 ^ i : Nat) : Int) != 0) = bitB ps ((2 ^ i : Nat) : Int) := by
  have hp : 2 ^ i < 4294967296 := by
    have := Nat.pow_lt_pow_right (a := 2) (by omega) hi
    omega
  have hpos : 0 < 2 ^ i := Nat.pow_pos (by omega)
  obtain ⟨n, rfl⟩ := Int.eq_ofNat_of_zero_le h0
  rw [u32_and_nat n (2 ^ i) (by omega) hp, nat_bit]
  unfold bitB
  have hm : n / 2 ^ i % 2 < 2 := Nat.mod_lt _ (by omega)
  generalize 2 ^ i = p at *
  have e : ((n : Int) / (p : Int) % 2) = ((n / p % 2 : Nat) : Int) := by rw [Int.natCast_emod, Int.natCast_ediv]; rfl
  rw [e]
  generalize n / p % 2 = x at *
  have hx : x = 0 ∨ x = 1 := by omega
  rcases hx with rfl | rfl
  · simp
  · rw [Nat.one_mul]
    have h : ((p : Int) != 0) = true := by rw [bne_iff_ne]; omega
    rw [h]; rfl
theorem and16 (ps : Int) (h0 : 0 ≤ ps) (h1 : ps < 4294967296) : (bits .and .u32 ps 16 != 0) = bitB ps 16 := bit_and 4 ps h0 h1 (by omega)
theorem and32 (ps : Int) (h0 : 0 ≤ ps) (h1 : ps < 4294967296) : (bits .and .u32 ps 32 != 0) = bitB ps 32 := bit_and 5 ps h0 h1 (by omega)
theorem and64 (ps : Int) (h0 : 0 ≤ ps) (h1 : ps < 4294967296) : (bits .and .u32 ps 64 != 0) = bitB ps 64 := bit_and 6 ps h0 h1 (by omega)
theorem and128 (ps : Int) (h0 : 0 ≤ ps) (h1 : ps < 4294967296) : (bits .and .u32 ps 128 != 0) = bitB ps 128 := bit_and 7 ps h0 h1 (by omega)
def pw (n : Nat) : Int := ((2 ^ n : Nat) : Int)
theorem pw_succ (n : Nat) : pw (n + 1) = pw n * 2 := by unfold pw; rw [Nat.pow_succ]; omega
theorem pw_range (n : Nat) (h : n < 32) : 1 ≤ pw n ∧ pw n ≤ 2147483648 := by
  unfold pw
  have h1 : 2 ^ n ≤ 2 ^ 31 := Nat.pow_le_pow_right (by omega) (by omega)
  have h2 : 1 ≤ 2 ^ n := Nat.one_le_two_pow
  omega
def bt (a : Int) (i : Nat) : Bool := a.toNat.testBit i
theorem bt_is (a : Int) (i : Nat) (h0 : 0 ≤ a) : (a / pw i % 2 == 1) = bt a i := by
  obtain ⟨n, rfl⟩ := Int.eq_ofNat_of_zero_le h0
  unfold bt pw
  rw [Int.toNat_natCast, Nat.testBit_eq_decide_div_mod_eq, ← Int.natCast_ediv, Bool.eq_iff_iff]
  generalize n / 2 ^ i = x
  simp only [beq_iff_eq, decide_eq_true_eq]
  omega
theorem low_succ (x k : Nat) : ((x % 2 ^ (k + 1) : Nat) : Int) = ((x % 2 ^ k : Nat) : Int) + if x.testBit k then pw k else 0 := by
  rw [Nat.mod_pow_succ, Nat.testBit_eq_decide_div_mod_eq]
  unfold pw
  have h : x / 2 ^ k % 2 = 0 ∨ x / 2 ^ k % 2 = 1 := by omega
  rcases h with h | h
  · rw [h]; simp
  · rw [h]; simp
def low (x k : Nat) : Int := ((x % 2 ^ k : Nat) : Int)
theorem low_zero (x : Nat) : low x 0 = 0 := by unfold low; simp [Nat.mod_one]
theorem low_step (x k : Nat) (b : Bool) (h : x.testBit k = b) : low x (k + 1) = low x k + wt b (pw k) := by
  unfold low wt; rw [low_succ, h]
theorem low_range (x k : Nat) (h : k < 32) : 0 ≤ low x k ∧ low x k + pw k ≤ 4294967295 := by
  have h1 : x % 2 ^ k < 2 ^ k := Nat.mod_lt _ (Nat.pow_pos (by omega))
  have h2 := pw_range k h
  unfold low
  unfold pw at *
  omega
theorem low_all (x : Nat) (h : x < 4294967296) : low x 32 = (x : Int) := by
  unfold low; rw [Nat.mod_eq_of_lt (by omega)]
theorem low_top (x : Nat) : 0 ≤ low x 32 ∧ low x 32 < 4294967296 := by
  have h1 : x % 2 ^ 32 < 2 ^ 32 := Nat.mod_lt _ (Nat.pow_pos (by omega))
  unfold low; omega
def joined (which : Int) (x y : Bool) : Bool := if which = 1 then x || y else if which = 2 then !(x == y) else x && y
theorem and_bits (a b : Int) (h0 : 0 ≤ a) (h1 : a < 4294967296) (h2 : 0 ≤ b) (h3 : b < 4294967296) :
    bits .and .u32 a b = ((a.toNat &&& b.toNat : Nat) : Int) ∧ a.toNat &&& b.toNat < 4294967296 ∧ ∀ k, (a.toNat &&& b.toNat).testBit k = joined 0 (bt a k) (bt b k) :=
  ⟨u32_and a b h0 h1 h2 h3, Nat.and_lt_two_pow _ (n := 32) (by omega), fun k => by rw [Nat.testBit_and]; rfl⟩
theorem or_bits (a b : Int) (h0 : 0 ≤ a) (h1 : a < 4294967296) (h2 : 0 ≤ b) (h3 : b < 4294967296) :
    bits .or .u32 a b = ((a.toNat ||| b.toNat : Nat) : Int) ∧ a.toNat ||| b.toNat < 4294967296 ∧ ∀ k, (a.toNat ||| b.toNat).testBit k = joined 1 (bt a k) (bt b k) :=
  ⟨u32_or a b h0 h1 h2 h3, Nat.or_lt_two_pow (n := 32) (by omega) (by omega), fun k => by rw [Nat.testBit_or]; rfl⟩
theorem xor_bits (a b : Int) (h0 : 0 ≤ a) (h1 : a < 4294967296) (h2 : 0 ≤ b) (h3 : b < 4294967296) :
    bits .xor .u32 a b = ((a.toNat ^^^ b.toNat : Nat) : Int) ∧ a.toNat ^^^ b.toNat < 4294967296 ∧ ∀ k, (a.toNat ^^^ b.toNat).testBit k = joined 2 (bt a k) (bt b k) :=
  ⟨u32_xor a b h0 h1 h2 h3, Nat.xor_lt_two_pow (n := 32) (by omega) (by omega), fun k => by
    rw [Nat.testBit_xor]; show (bt a k ^^ bt b k) = joined 2 (bt a k) (bt b k); cases bt a k <;> cases bt b k <;> rfl⟩
def rorN (p n : Nat) : Nat := p / 2 ^ n + p % 2 ^ n * 2 ^ (32 - n)
theorem pow_split (n : Nat) (h : n ≤ 32) : 2 ^ n * 2 ^ (32 - n) = 4294967296 := by
  rw [← Nat.pow_add, show n + (32 - n) = 32 by omega]
theorem pow_half (n : Nat) (h : 1 ≤ n) : 2 ^ n = 2 ^ (n - 1) * 2 := by
  rw [← Nat.pow_succ, show (n - 1).succ = n by omega]
theorem top_lt (p n : Nat) (hp : p < 4294967296) (h : n ≤ 32) : p / 2 ^ n < 2 ^ (32 - n) :=
  Nat.div_lt_of_lt_mul (by rw [pow_split n h]; exact hp)
theorem rorN_lt (p n : Nat) (hp : p < 4294967296) (h : n ≤ 32) : rorN p n < 4294967296 := by
  have a1 := top_lt p n hp h
  have a2 : p % 2 ^ n + 1 ≤ 2 ^ n := Nat.mod_lt _ (Nat.pow_pos (by omega))
  have a3 := Nat.mul_le_mul_right (2 ^ (32 - n)) a2
  rw [pow_split n h, Nat.add_mul] at a3
  unfold rorN; omega
theorem rorN_low (p n : Nat) (hp : p < 4294967296) (h : n ≤ 32) : rorN p n % 2 ^ (32 - n) = p / 2 ^ n := by
  unfold rorN; rw [Nat.add_mul_mod_self_right, Nat.mod_eq_of_lt (top_lt p n hp h)]
theorem rorN_high (p n : Nat) (hp : p < 4294967296) (h : n ≤ 32) : rorN p n / 2 ^ (32 - n) = p % 2 ^ n := by
  unfold rorN
  rw [Nat.add_mul_div_right _ _ (Nat.pow_pos (by omega)), Nat.div_eq_of_lt (top_lt p n hp h), Nat.zero_add]
theorem rorN_out (p n : Nat) (hp : p < 4294967296) (h1 : 1 ≤ n) (h2 : n ≤ 31) : rorN p n / 2147483648 = p / 2 ^ (n - 1) % 2 := by
  have e : 2147483648 = 2 ^ (32 - n) * 2 ^ (n - 1) := by
    rw [← Nat.pow_add, show 32 - n + (n - 1) = 31 by omega]
  rw [e, ← Nat.div_div_eq_div_mul, rorN_high p n hp (by omega), pow_half n h1, Nat.mod_mul_right_div_self]
theorem rorN_one (p n : Nat) (h2 : n ≤ 31) : rorN p n % 2 = p / 2 ^ n % 2 := by
  unfold rorN
  rw [pow_half (32 - n) (by omega), ← Nat.mul_assoc, Nat.add_mul_mod_self_right]
theorem shl_mod (p n : Nat) (h : n ≤ 32) : p * 2 ^ n % 4294967296 = p % 2 ^ (32 - n) * 2 ^ n := by
  rw [← pow_split (32 - n) (by omega), show 32 - (32 - n) = n by omega, Nat.mul_mod_mul_right]
theorem rorN_or (p n : Nat) (hp : p < 4294967296) (h : n ≤ 32) : p / 2 ^ n ||| p * 2 ^ (32 - n) % 4294967296 = rorN p n := by
  rw [shl_mod p (32 - n) (by omega), show 32 - (32 - n) = n by omega, Nat.or_comm,
    nat_join (32 - n) _ _ (Nat.mul_mod_left _ _) (top_lt p n hp h)]
  unfold rorN; omega
theorem clear_low (x n : Nat) (hx : x < 4294967296) (h : n ≤ 32) : x &&& (4294967295 - (2 ^ n - 1)) = x - x % 2 ^ n := by
  have e : x = x / 2 ^ n * 2 ^ n + x % 2 ^ n := by rw [Nat.mul_comm]; exact (Nat.div_add_mod _ _).symm
  refine Nat.eq_of_testBit_eq fun i => ?_
  have e2 : x - x % 2 ^ n = x / 2 ^ n * 2 ^ n := by omega
  rw [e2, Nat.testBit_and, Nat.testBit_mul_two_pow]
  have e3 : 4294967295 - (2 ^ n - 1) = (2 ^ (32 - n) - 1) * 2 ^ n := by
    rw [Nat.sub_mul, Nat.mul_comm, pow_split n h]; have := Nat.pow_pos (n := n) (show 0 < 2 by omega); omega
  rw [e3, Nat.testBit_mul_two_pow, Nat.testBit_two_pow_sub_one]
  by_cases hi : n ≤ i
  · have e4 : x.testBit i = (x / 2 ^ n).testBit (i - n) := by
      rw [Nat.testBit_div_two_pow, show i - n + n = i by omega]
    rw [e4]
    by_cases h32 : i < 32
    · simp [hi, show i - n < 32 - n by omega]
    · have h0 : (x / 2 ^ n).testBit (i - n) = false := by
        rw [← e4]; exact Nat.testBit_lt_two_pow (Nat.lt_of_lt_of_le hx (show 2 ^ 32 ≤ 2 ^ i from Nat.pow_le_pow_right (by omega) (by omega)))
      simp [h0]
  · simp [hi]
def rorI (p n : Nat) : Int := ((rorN p n : Nat) : Int)
def shlI (p n : Nat) : Int := ((p * 2 ^ n % 4294967296 : Nat) : Int)
def shrI (p n : Nat) : Int := ((p / 2 ^ n : Nat) : Int)
def ob (p i : Nat) : Int := ((p / 2 ^ i % 2 : Nat) : Int)
theorem ob_one (p i : Nat) : (ob p i == 1) = p.testBit i := by
  unfold ob
  rw [Nat.testBit_eq_decide_div_mod_eq, Bool.eq_iff_iff]
  generalize p / 2 ^ i = x
  simp only [beq_iff_eq, decide_eq_true_eq]
  omega
theorem rorI_range (p n : Nat) (hp : p < 4294967296) (h : n ≤ 32) : 0 ≤ rorI p n ∧ rorI p n < 4294967296 := by
  have := rorN_lt p n hp h
  unfold rorI; omega
theorem shlI_range (p n : Nat) : 0 ≤ shlI p n ∧ shlI p n < 4294967296 := by
  unfold shlI; omega
theorem shrI_range (p n : Nat) (hp : p < 4294967296) : 0 ≤ shrI p n ∧ shrI p n < 4294967296 := by
  have := Nat.div_le_self p (2 ^ n)
  unfold shrI
  generalize p / 2 ^ n = x at *
  omega
theorem cast_div (p n : Nat) : (p : Int) / 2 ^ n = ((p / 2 ^ n : Nat) : Int) := by
  rw [Int.natCast_ediv, Int.natCast_pow]; rfl
theorem cast_mul (p n : Nat) : (p : Int) * 2 ^ n % 4294967296 = ((p * 2 ^ n % 4294967296 : Nat) : Int) := by
  rw [Int.natCast_emod, Int.natCast_mul, Int.natCast_pow]; rfl
theorem cast_mask (n : Nat) (h : n ≤ 32) : ((2 : Int) ^ n - 1) % 4294967296 = ((2 ^ n - 1 : Nat) : Int) ∧ 2 ^ n - 1 < 4294967296 := by
  have h1 : 1 ≤ 2 ^ n := Nat.one_le_two_pow
  have h2 : 2 ^ n ≤ 2 ^ 32 := Nat.pow_le_pow_right (by omega) h
  have h3 : (2 : Int) ^ n = ((2 ^ n : Nat) : Int) := by rw [Int.natCast_pow]; rfl
  rw [h3]
  omega
theorem round_val (p n : Nat) (hp : p < 4294967296) (h : n ≤ 32) :
    bits .or .u32 ((p : Int) / 2 ^ n) ((p : Int) * 2 ^ (32 - n) % 4294967296) = rorI p n := by
  have h1 := Nat.div_le_self p (2 ^ n)
  rw [cast_div, cast_mul, u32_or_nat _ _ (by omega) (by omega), rorN_or p n hp h]; rfl
theorem round_out (p n : Nat) (hp : p < 4294967296) (h1 : 1 ≤ n) (h2 : n ≤ 31) : rorI p n / 2147483648 = ob p (n - 1) := by
  have := rorN_out p n hp h1 h2
  unfold rorI ob; omega
theorem down_val (p n : Nat) (hp : p < 4294967296) (h : n ≤ 32) :
    bits .and .u32 (rorI p n) (((2 : Int) ^ (32 - n) - 1) % 4294967296) = shrI p n := by
  have h1 := cast_mask (32 - n) (by omega)
  unfold rorI
  rw [h1.1, u32_and_nat _ _ (rorN_lt p n hp h) h1.2, Nat.and_two_pow_sub_one_eq_mod, rorN_low p n hp h]; rfl
theorem up_val (p n : Nat) (hp : p < 4294967296) (h : n ≤ 32) :
    bits .andNot .u32 (rorI p (32 - n)) (((2 : Int) ^ n - 1) % 4294967296) = shlI p n := by
  have h1 := cast_mask n (by omega)
  have h2 := rorN_lt p (32 - n) hp (by omega)
  unfold rorI
  rw [h1.1, u32_andNot_nat _ _ h2 h1.2, clear_low _ n h2 h]
  unfold shlI
  rw [shl_mod p n h]
  have e := rorN_low p (32 - n) hp (by omega)
  rw [show 32 - (32 - n) = n by omega] at e
  rw [e]
  unfold rorN
  rw [show 32 - (32 - n) = n by omega]
  omega
theorem up_out (p n : Nat) (hp : p < 4294967296) (h1 : 1 ≤ n) (h : n ≤ 32) :
    bits .and .u32 (rorI p (32 - n)) 1 = ob p (32 - n) := by
  have h2 := rorN_lt p (32 - n) hp (by omega)
  have e := u32_and_nat (rorN p (32 - n)) 1 h2 (by omega)
  unfold rorI
  rw [show ((1 : Int)) = ((1 : Nat) : Int) by rfl, e, nat_mask1, rorN_one p (32 - n) (by omega)]; rfl
def outUp (p k : Nat) : Bool := decide (k ≠ 0) && p.testBit (32 - k)
def outDown (p k : Nat) : Bool := decide (k ≠ 0) && p.testBit (k - 1)
theorem shlI_zero (p : Nat) (hp : p < 4294967296) : shlI p 0 = (p : Int) := by
  unfold shlI; rw [Nat.pow_zero, Nat.mul_one, Nat.mod_eq_of_lt hp]
theorem shrI_zero (p : Nat) : shrI p 0 = (p : Int) := by
  unfold shrI; rw [Nat.pow_zero, Nat.div_one]
theorem rorI_zero (p : Nat) : rorI p 0 = (p : Int) := by
  unfold rorI rorN; rw [Nat.pow_zero, Nat.div_one, Nat.mod_one, Nat.zero_mul, Nat.add_zero]
theorem shlI_step (a j : Nat) : (shlI a j + shlI a j) % 4294967296 = shlI a (j + 1) := by
  unfold shlI
  rw [Nat.pow_succ, ← Nat.mul_assoc]
  generalize a * 2 ^ j = x
  omega
theorem shrI_step (a j : Nat) : shrI a j / 2 = shrI a (j + 1) := by
  unfold shrI
  rw [Nat.pow_succ, ← Nat.div_div_eq_div_mul]
  generalize a / 2 ^ j = x
  omega
theorem bt_shl (a j : Nat) (h : j < 32) : bt (shlI a j) 31 = outUp a (j + 1) := by
  unfold bt shlI outUp
  rw [Int.toNat_natCast, show 4294967296 = 2 ^ 32 by rfl, Nat.testBit_mod_two_pow, Nat.testBit_mul_two_pow]
  simp [show j ≤ 31 by omega]
theorem bt_shr (a j : Nat) : bt (shrI a j) 0 = outDown a (j + 1) := by
  unfold bt shrI outDown
  rw [Int.toNat_natCast, Nat.testBit_div_two_pow]
  simp
def sarN (a k : Nat) : Nat := if a < 2147483648 then a / 2 ^ k else 4294967295 - (4294967295 - a) / 2 ^ k
def sarI (a k : Nat) : Int := ((sarN a k : Nat) : Int)
theorem sarN_lt (a k : Nat) (ha : a < 4294967296) : sarN a k < 4294967296 := by
  unfold sarN
  have := Nat.div_le_self a (2 ^ k)
  split
  · omega
  · generalize (4294967295 - a) / 2 ^ k = x at *
    omega
theorem sarI_range (a k : Nat) (ha : a < 4294967296) : 0 ≤ sarI a k ∧ sarI a k < 4294967296 := by
  have := sarN_lt a k ha
  unfold sarI; omega
theorem sarI_zero (a : Nat) (ha : a < 4294967296) : sarI a 0 = (a : Int) := by
  unfold sarI sarN
  rw [Nat.pow_zero, Nat.div_one, Nat.div_one]
  split <;> omega
theorem sarI_below (a k : Nat) (h : a < 2147483648) : sarI a k = shrI a k := by
  unfold sarI sarN shrI; rw [if_pos h]
theorem sarI_above (a k : Nat) (h : 2147483648 ≤ a) : sarI a k = 4294967295 - shrI (4294967295 - a) k := by
  unfold sarI sarN shrI
  rw [if_neg (by omega)]
  have := Nat.div_le_self (4294967295 - a) (2 ^ k)
  generalize (4294967295 - a) / 2 ^ k = x at *
  omega
theorem bit_over (a i : Nat) (ha : a < 4294967296) (hi : i < 32) : (4294967295 - a).testBit i = !a.testBit i := by
  have h := Nat.testBit_two_pow_sub_succ (x := a) (n := 32) (by omega) i
  rw [show 2 ^ 32 - (a + 1) = 4294967295 - a by omega] at h
  rw [h]; simp [hi]
theorem bt_top (x : Nat) (hx : x < 4294967296) : x.testBit 31 = decide (2147483648 ≤ x) := by
  rw [Nat.testBit_eq_decide_div_mod_eq, Bool.eq_iff_iff]
  simp only [decide_eq_true_eq]
  omega
theorem bt_first (x : Nat) : x.testBit 0 = decide (x % 2 = 1) := by
  rw [Nat.testBit_eq_decide_div_mod_eq, Nat.pow_zero, Nat.div_one]
theorem sarN_top (a k : Nat) (ha : a < 4294967296) : (2147483648 ≤ sarN a k) = (2147483648 ≤ a) := by
  unfold sarN
  have h1 := Nat.div_le_self a (2 ^ k)
  have h2 := Nat.div_le_self (4294967295 - a) (2 ^ k)
  split
  · exact propext ⟨fun h => by omega, fun h => by omega⟩
  · generalize (4294967295 - a) / 2 ^ k = x at *
    exact propext ⟨fun h => by omega, fun h => by omega⟩
theorem sar_step (a j : Nat) (ha : a < 4294967296) : sarI a (j + 1) = sarI a j / 2 + wt (bt (sarI a j) 31) 2147483648 := by
  have ht : bt (sarI a j) 31 = decide (2147483648 ≤ a) := by
    unfold bt sarI
    rw [Int.toNat_natCast, bt_top _ (sarN_lt a j ha)]
    simp only [sarN_top a j ha]
  rw [ht]
  by_cases h : a < 2147483648
  · rw [sarI_below a _ h, sarI_below a _ h, ← shrI_step]
    simp [wt, show ¬ 2147483648 ≤ a by omega]
  · rw [sarI_above a _ (by omega), sarI_above a _ (by omega), ← shrI_step]
    simp only [wt, show 2147483648 ≤ a by omega, decide_true, if_true]
    have := shrI_range (4294967295 - a) j (by omega)
    omega
theorem sar_out (a j : Nat) (ha : a < 4294967296) (hj : j < 32) : bt (sarI a j) 0 = outDown a (j + 1) := by
  have h0 : outDown a (j + 1) = a.testBit j := by unfold outDown; simp
  rw [h0]
  by_cases h : a < 2147483648
  · rw [sarI_below a _ h, bt_shr]; unfold outDown; simp
  · have e : bt (shrI (4294967295 - a) j) 0 = !a.testBit j := by
      rw [bt_shr, ← bit_over a j ha hj]; unfold outDown; simp
    have hr := shrI_range (4294967295 - a) j (by omega)
    rw [sarI_above a _ (by omega)]
    have e2 : bt (4294967295 - shrI (4294967295 - a) j) 0 = !bt (shrI (4294967295 - a) j) 0 := by
      unfold bt
      rw [bt_first, bt_first]
      generalize shrI (4294967295 - a) j = x at *
      rw [Bool.eq_iff_iff]
      simp
      omega
    rw [e2, e]; simp
theorem ror_step (a j : Nat) (hj : j < 31) : rorI a (j + 1) = rorI a j / 2 + wt (bt (rorI a j) 0) 2147483648 := by
  have e0 : bt (rorI a j) 0 = decide (rorN a j % 2 = 1) := by unfold bt rorI; rw [Int.toNat_natCast, bt_first]
  rw [e0, rorN_one a j (by omega)]
  unfold rorI rorN
  have p1 : 2 ^ (32 - j) = 2 ^ (32 - (j + 1)) * 2 := by rw [pow_half (32 - j) (by omega), show 32 - j - 1 = 32 - (j + 1) by omega]
  have p2 : 2 ^ j * 2 ^ (32 - (j + 1)) = 2147483648 := by rw [← Nat.pow_add, show j + (32 - (j + 1)) = 31 by omega]
  have p3 : a % 2 ^ (j + 1) = a % 2 ^ j + 2 ^ j * (a / 2 ^ j % 2) := by rw [Nat.mod_pow_succ]
  have p4 : a / 2 ^ (j + 1) = a / 2 ^ j / 2 := by rw [Nat.pow_succ, Nat.div_div_eq_div_mul]
  rw [p3, p4, p1, Nat.add_mul, ← Nat.mul_assoc]
  have hm : a / 2 ^ j % 2 = 0 ∨ a / 2 ^ j % 2 = 1 := by omega
  generalize 2 ^ (32 - (j + 1)) = s at *
  generalize a % 2 ^ j * s = y at *
  rcases hm with hm | hm
  · rw [hm]
    simp [wt]
    generalize a / 2 ^ j = x at *
    omega
  · rw [hm, Nat.mul_one, p2]
    simp [wt]
    generalize a / 2 ^ j = x at *
    omega
theorem ror_outs (a j : Nat) (hj : j < 31) : bt (rorI a j) 0 = outDown a (j + 1) := by
  unfold bt rorI outDown
  rw [Int.toNat_natCast, bt_first, rorN_one a j (by omega)]
  simp [Nat.testBit_eq_decide_div_mod_eq]
theorem ob_range (p i : Nat) : 0 ≤ ob p i ∧ ob p i ≤ 1 := by
  unfold ob
  generalize p / 2 ^ i = x
  omega
theorem ob_over (p i : Nat) (hp : p < 4294967296) (hi : i < 32) : 1 - ob (4294967295 - p) i = ob p i := by
  have h := bit_over p i hp hi
  have h1 := ob_one p i
  have h2 := ob_one (4294967295 - p) i
  have r1 := ob_range p i
  have r2 := ob_range (4294967295 - p) i
  rw [h] at h2
  cases hb : p.testBit i
  · rw [hb] at h1 h2
    rw [beq_eq_false_iff_ne] at h1
    simp only [Bool.not_false, beq_iff_eq] at h2
    omega
  · rw [hb] at h1 h2
    rw [beq_iff_eq] at h1
    simp only [Bool.not_true, beq_eq_false_iff_ne] at h2
    omega
theorem over_val (x : Int) (h0 : 0 ≤ x) (h1 : x < 4294967296) : bits .xor .u32 IntKind.u32.max x = 4294967295 - x := by
  obtain ⟨n, rfl⟩ := Int.eq_ofNat_of_zero_le h0
  have e : IntKind.u32.max = ((4294967295 : Nat) : Int) := by decide
  rw [e, u32_xor_nat 4294967295 n (by omega) (by omega)]
  have e2 : 4294967295 ^^^ n = 4294967295 - n := by
    refine Nat.eq_of_testBit_eq fun i => ?_
    rw [Nat.testBit_xor]
    by_cases hi : i < 32
    · rw [bit_over n i (by omega) hi, show (4294967295 : Nat) = 2 ^ 32 - 1 by rfl, Nat.testBit_two_pow_sub_one]
      simp [hi]
    · have hp : 2 ^ 32 ≤ 2 ^ i := Nat.pow_le_pow_right (by omega) (by omega)
      rw [Nat.testBit_lt_two_pow (x := 4294967295) (by omega), Nat.testBit_lt_two_pow (x := n) (by omega), Nat.testBit_lt_two_pow (x := 4294967295 - n) (by omega)]
      rfl
  rw [e2]
  omega
end Go.Proofs.YthimfiihebdchaaDoor
