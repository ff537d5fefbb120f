/- Part of a proof. -/
import Derived.Lib.SmallJoins
import Derived.WalkKit
import Derived.LoopTactic
import Derived.Test.YthimfiihebdchaaDoorJ01
namespace Go.Proofs.YthimfiihebdchaaDoor
open Go.RowKit Go.ChangeShapes Go.WideShapes Go.ChangeAt
set_option linter.unusedVariables false
theorem trod_five {H : Type} {enc : TypeId × Value → H} {P : Program} {w : World} {base : Nat} {spare : Nat → Bool} {held : Bool} {t : TypeId} {f0 f1 f2 f3 f4 : Field} {fuel : Nat} {cs : List Value} {x : DataW H × List MemPlace}
    (ht : P.underlying t = some (.struct #[f0, f1, f2, f3, f4])) (h : DataW.trod enc P w base spare held fuel t cs = some x) :
    ∃ y0 y1 y2 y3 y4 n, cs.length = P.cellsOf t ∧ DataW.trod enc P w base spare held n f0.type ((cs.drop f0.offset).take (P.cellsOf f0.type)) = some y0 ∧
      DataW.trod enc P w base spare held n f1.type ((cs.drop f1.offset).take (P.cellsOf f1.type)) = some y1 ∧ DataW.trod enc P w base spare held n f2.type ((cs.drop f2.offset).take (P.cellsOf f2.type)) = some y2 ∧
      DataW.trod enc P w base spare held n f3.type ((cs.drop f3.offset).take (P.cellsOf f3.type)) = some y3 ∧ DataW.trod enc P w base spare held n f4.type ((cs.drop f4.offset).take (P.cellsOf f4.type)) = some y4 := by
  obtain ⟨xs, n, _, rfl, hl, hlen, hf⟩ := DataW.trod_struct ht h
  match xs, hlen with
  | [y0, y1, y2, y3, y4], _ => exact ⟨y0, y1, y2, y3, y4, n, hl, by simpa using hf 0 f0 rfl, by simpa using hf 1 f1 rfl, by simpa using hf 2 f2 rfl, by simpa using hf 3 f3 rfl, by simpa using hf 4 f4 rfl⟩
theorem list19 {α : Type} (l : List α) (h : l.length = 19) : ∃ v0 v1 v2 v3 v4 v5 v6 v7 v8 v9 v10 v11 v12 v13 v14 v15 v16 v17 v18, l = [v0, v1, v2, v3, v4, v5, v6, v7, v8, v9, v10, v11, v12, v13, v14, v15, v16, v17, v18] := by
  match l, h with
  | [v0, v1, v2, v3, v4, v5, v6, v7, v8, v9, v10, v11, v12, v13, v14, v15, v16, v17, v18], _ => exact ⟨v0, v1, v2, v3, v4, v5, v6, v7, v8, v9, v10, v11, v12, v13, v14, v15, v16, v17, v18, rfl⟩
theorem list8 {α : Type} (l : List α) (h : l.length = 8) : ∃ a b c d e f g i, l = [a, b, c, d, e, f, g, i] := by
  match l, h with
  | [a, b, c, d, e, f, g, i], _ => exact ⟨a, b, c, d, e, f, g, i, rfl⟩
theorem arr_in {H : Type} {enc : TypeId × Value → H} {P : Program} {w : World} {base : Nat} {sp : Nat → Bool} {held : Bool} {t e : TypeId} {n fuel : Nat} {k : IntKind} {cs : List Value} {y : DataW H × List MemPlace} (ht : P.underlying t = some (.array n e)) (he : P.underlying e = some (.int k)) (hc : P.cellsOf e = 1) (hl : cs.length = n)
    (hf : DataW.trod enc P w base sp held fuel t cs = some y) : ∃ zs : List Int, zs.length = n ∧ cs = zs.map (Value.int k) ∧ ∀ z ∈ zs, (Lit.int k z).wf = true := by
  obtain ⟨xs, m, _, _, _, hxl, hx⟩ := DataW.trod_array ht hf
  have each : ∀ i, i < n → ∃ z : Int, cs[i]? = some (.int k z) ∧ (Lit.int k z).wf = true := by
    intro i hi
    have h1 := hx i hi
    rw [hc, List.getElem?_eq_getElem (by omega)] at h1
    obtain ⟨z, e1, _, q⟩ := DataW.trod_int he h1
    refine ⟨z, ?_, q⟩
    simp only [Nat.mul_one] at e1
    have := congrArg (fun l => l[0]?) e1
    simpa using this
  obtain ⟨zs, hzs⟩ : ∃ zs : List Int, zs.length = n ∧ ∀ i, i < n → ∃ z, zs[i]? = some z ∧ cs[i]? = some (.int k z) ∧ (Lit.int k z).wf = true := by
    refine ⟨(List.range n).map fun i => if hi : i < n then (each i hi).choose else 0, by simp, fun i hi => ⟨(each i hi).choose, by simp [hi], (each i hi).choose_spec⟩⟩
  refine ⟨zs, hzs.1, ?_, fun z hz => ?_⟩
  · apply List.ext_getElem?
    intro i
    by_cases hi : i < n
    · obtain ⟨z, e1, e2, _⟩ := hzs.2 i hi
      rw [e2, List.getElem?_map, e1]; rfl
    · rw [List.getElem?_eq_none (by omega), List.getElem?_eq_none (by rw [List.length_map]; omega)]
  · obtain ⟨i, hi, rfl⟩ := List.mem_iff_getElem.1 hz
    obtain ⟨z, e1, _, q⟩ := hzs.2 i (by omega)
    rw [List.getElem?_eq_getElem hi] at e1
    obtain rfl := Option.some.inj e1
    exact q
theorem getD_range (zs : List Int) (h : ∀ z ∈ zs, (Lit.int .u32 z).wf = true) (n : Nat) : 0 ≤ zs.getD n 0 ∧ zs.getD n 0 < 4294967296 := by
  rw [List.getD_eq_getElem?_getD]
  cases e : zs[n]? with
  | none => exact ⟨by decide, by decide⟩
  | some z =>
    have hz : z ∈ zs := List.mem_of_getElem? e
    have := bounds_u32 (h z hz)
    simp only [Option.getD_some]
    omega
theorem sta_of {H : Type} {enc : TypeId × Value → H} {w : World} {base : Nat} {sp : Nat → Bool} {held : Bool} {fuel : Nat} {cs : List Value} {y : DataW H × List MemPlace}
    (h : DataW.trod enc Tryd.prog w base sp held fuel 25 cs = some y) : ∃ s : Sta, s.Ok ∧ cs = s.v.toList := by
  obtain ⟨y0, y1, y2, y3, y4, n, hl, g0, g1, g2, g3, g4⟩ := trod_five Tryd.underlying25 h
  have c19 : Tryd.prog.cellsOf 25 = 19 := by kernel_rfl
  have c8 : Tryd.prog.cellsOf 23 = 8 := by kernel_rfl
  have c1 : Tryd.prog.cellsOf 22 = 1 := by kernel_rfl
  have cb : Tryd.prog.cellsOf 4 = 1 := by kernel_rfl
  rw [c19] at hl
  obtain ⟨v0, v1, v2, v3, v4, v5, v6, v7, v8, v9, v10, v11, v12, v13, v14, v15, v16, v17, v18, rfl⟩ := list19 cs hl
  rw [c8] at g0 g3
  rw [c1] at g1 g2
  rw [cb] at g4
  obtain ⟨zs, l0, e0, q0⟩ := arr_in Tryd.underlying23 Tryd.underlying22 c1 (by simp) g0
  obtain ⟨pc, e1, _, q1⟩ := DataW.trod_int Tryd.underlying22 g1
  obtain ⟨ps, e2, _, q2⟩ := DataW.trod_int Tryd.underlying22 g2
  obtain ⟨xs, l3, e3, q3⟩ := arr_in Tryd.underlying23 Tryd.underlying22 c1 (by simp) g3
  obtain ⟨hb, e4, _⟩ := DataW.trod_bool Tryd.underlying4 g4
  refine ⟨⟨fun k => zs.getD k 0, pc, ps, fun k => xs.getD k 0, hb⟩, ⟨getD_range zs q0, ?_, ?_, getD_range xs q3⟩, ?_⟩
  · have := bounds_u32 q1; exact ⟨by show 0 ≤ pc; omega, by show pc < _; omega⟩
  · have := bounds_u32 q2; exact ⟨by show 0 ≤ ps; omega, by show ps < _; omega⟩
  obtain ⟨a0, a1, a2, a3, a4, a5, a6, a7, rfl⟩ := list8 zs l0
  obtain ⟨b0, b1, b2, b3, b4, b5, b6, b7, rfl⟩ := list8 xs l3
  simp at e0 e1 e2 e3 e4
  simp [Sta.v, e0, e1, e2, e3, e4]
set_option maxRecDepth 100000 in
theorem open_sta {H : Type} {enc : TypeId × Value → H} {w : World} {r : Reach} {b0 base : Nat} {sp : Nat → Bool} {held : Bool} {v : Value} {d : DataW H} {p : List MemPlace} (hv : Value.okWide Tryd.prog w r b0 25 v) (h : DataW.Trod enc Tryd.prog w base sp held 25 v d p) :
    ∃ s : Sta, v = .agg s.v ∧ s.Ok := by
  obtain ⟨cs, rfl, _⟩ := okWide_struct Tryd.underlying25 hv
  obtain ⟨fuel, hf⟩ := h
  obtain ⟨s, ok, e⟩ := sta_of hf
  refine ⟨s, ?_, ok⟩
  have : cs = s.v := Array.toList_inj.1 (by simpa [Value.cells] using e)
  rw [this]
end Go.Proofs.YthimfiihebdchaaDoor
namespace Go.Proofs.YthimfiihebdchaaDoor
open Go.RowKit
set_option linter.unusedVariables false
set_option linter.unusedSimpArgs false
def bitB (ps m : Int) : Bool := ps / m % 2 == 1
def holdsB (c ps : Int) : Bool :=
  if c = 0 then true else if c = 1 then bitB ps 16 else if c = 2 then !bitB ps 16
  else if c = 3 then !(bitB ps 32 == bitB ps 128) else if c = 4 then bitB ps 32 == bitB ps 128
  else if c = 5 then bitB ps 64 else if c = 6 then !bitB ps 64 else if c = 7 then bitB ps 128 else false
def wt (h : Bool) (f : Int) : Int := if h then f else 0
def fl (r : Int) (c v : Bool) : Int := wt (r == 0) 16 + wt (decide (2147483648 ≤ r)) 32 + (wt c 64 + wt v 128)
def sg (a : Int) : Int := if 2147483648 ≤ a then a - 4294967296 else a
def addV (a b : Int) : Bool := sg a + sg b != sg ((a + b) % 4294967296)
def subV (a b : Int) : Bool := sg a - sg b != sg ((a - b) % 4294967296)
theorem sg_wrap (a : Int) (h0 : 0 ≤ a) (h1 : a < 4294967296) : wrap64 (wrap32 a) = sg a := by
  unfold wrap64 wrap32 sg; omega
theorem sg_range (a : Int) (h0 : 0 ≤ a) (h1 : a < 4294967296) : -2147483648 ≤ sg a ∧ sg a ≤ 2147483647 := by
  unfold sg; omega
theorem bit_and (i : Nat) (ps : Int) (h0 : 0 ≤ ps) (h1 : ps < 4294967296) (hi : i < 32) :
    (bits .and .u32 ps ((2 ^ i : Nat) : Int) != 0) = bitB ps ((2 ^ i : Nat) : Int) := by
  have hp : 2 ^ i < 4294967296 := by
    have := Nat.pow_lt_pow_right (a := 2) (by omega) hi
    omega
  have hpos : 0 < 2 ^ i := Nat.pow_pos (by omega)
  obtain ⟨n, rfl⟩ := Int.eq_ofNat_of_zero_le h0
  rw [u32_and_nat n (2 ^ i) (by omega) hp, nat_bit]
  unfold bitB
  have hm : n / 2 ^ i % 2 < 2 := Nat.mod_lt _ (by omega)
  generalize 2 ^ i = p at *
  have e : ((n : Int) / (p : Int) % 2) = ((n / p % 2 : Nat) : Int) := by rw [Int.natCast_emod, Int.natCast_ediv]; rfl
  rw [e]
  generalize n / p % 2 = x at *
  have hx : x = 0 ∨ x = 1 := by omega
  rcases hx with rfl | rfl
  · simp
  · rw [Nat.one_mul]
    have h : ((p : Int) != 0) = true := by rw [bne_iff_ne]; omega
    rw [h]; rfl
theorem and16 (ps : Int) (h0 : 0 ≤ ps) (h1 : ps < 4294967296) : (bits .and .u32 ps 16 != 0) = bitB ps 16 := bit_and 4 ps h0 h1 (by omega)
theorem and32 (ps : Int) (h0 : 0 ≤ ps) (h1 : ps < 4294967296) : (bits .and .u32 ps 32 != 0) = bitB ps 32 := bit_and 5 ps h0 h1 (by omega)
theorem and64 (ps : Int) (h0 : 0 ≤ ps) (h1 : ps < 4294967296) : (bits .and .u32 ps 64 != 0) = bitB ps 64 := bit_and 6 ps h0 h1 (by omega)
theorem and128 (ps : Int) (h0 : 0 ≤ ps) (h1 : ps < 4294967296) : (bits .and .u32 ps 128 != 0) = bitB ps 128 := bit_and 7 ps h0 h1 (by omega)
def bt (a : Int) (i : Nat) : Bool := a.toNat.testBit i
def rorN (p n : Nat) : Nat := p / 2 ^ n + p % 2 ^ n * 2 ^ (32 - n)
theorem pow_split (n : Nat) (h : n ≤ 32) : 2 ^ n * 2 ^ (32 - n) = 4294967296 := by
  rw [← Nat.pow_add, show n + (32 - n) = 32 by omega]
theorem pow_half (n : Nat) (h : 1 ≤ n) : 2 ^ n = 2 ^ (n - 1) * 2 := by
  rw [← Nat.pow_succ, show (n - 1).succ = n by omega]
theorem top_lt (p n : Nat) (hp : p < 4294967296) (h : n ≤ 32) : p / 2 ^ n < 2 ^ (32 - n) :=
  Nat.div_lt_of_lt_mul (by rw [pow_split n h]; exact hp)
theorem rorN_lt (p n : Nat) (hp : p < 4294967296) (h : n ≤ 32) : rorN p n < 4294967296 := by
  have a1 := top_lt p n hp h
  have a2 : p % 2 ^ n + 1 ≤ 2 ^ n := Nat.mod_lt _ (Nat.pow_pos (by omega))
  have a3 := Nat.mul_le_mul_right (2 ^ (32 - n)) a2
  rw [pow_split n h, Nat.add_mul] at a3
  unfold rorN; omega
theorem rorN_low (p n : Nat) (hp : p < 4294967296) (h : n ≤ 32) : rorN p n % 2 ^ (32 - n) = p / 2 ^ n := by
  unfold rorN; rw [Nat.add_mul_mod_self_right, Nat.mod_eq_of_lt (top_lt p n hp h)]
theorem rorN_high (p n : Nat) (hp : p < 4294967296) (h : n ≤ 32) : rorN p n / 2 ^ (32 - n) = p % 2 ^ n := by
  unfold rorN
  rw [Nat.add_mul_div_right _ _ (Nat.pow_pos (by omega)), Nat.div_eq_of_lt (top_lt p n hp h), Nat.zero_add]
theorem rorN_out (p n : Nat) (hp : p < 4294967296) (h1 : 1 ≤ n) (h2 : n ≤ 31) : rorN p n / 2147483648 = p / 2 ^ (n - 1) % 2 := by
  have e : 2147483648 = 2 ^ (32 - n) * 2 ^ (n - 1) := by
    rw [← Nat.pow_add, show 32 - n + (n - 1) = 31 by omega]
  rw [e, ← Nat.div_div_eq_div_mul, rorN_high p n hp (by omega), pow_half n h1, Nat.mod_mul_right_div_self]
theorem rorN_one (p n : Nat) (h2 : n ≤ 31) : rorN p n % 2 = p / 2 ^ n % 2 := by
  unfold rorN
  rw [pow_half (32 - n) (by omega), ← Nat.mul_assoc, Nat.add_mul_mod_self_right]
theorem shl_mod (p n : Nat) (h : n ≤ 32) : p * 2 ^ n % 4294967296 = p % 2 ^ (32 - n) * 2 ^ n := by
  rw [← pow_split (32 - n) (by omega), show 32 - (32 - n) = n by omega, Nat.mul_mod_mul_right]
theorem rorN_or (p n : Nat) (hp : p < 4294967296) (h : n ≤ 32) : p / 2 ^ n ||| p * 2 ^ (32 - n) % 4294967296 = rorN p n := by
  rw [shl_mod p (32 - n) (by omega), show 32 - (32 - n) = n by omega, Nat.or_comm,
    nat_join (32 - n) _ _ (Nat.mul_mod_left _ _) (top_lt p n hp h)]
  unfold rorN; omega
theorem clear_low (x n : Nat) (hx : x < 4294967296) (h : n ≤ 32) : x &&& (4294967295 - (2 ^ n - 1)) = x - x % 2 ^ n := by
  have e : x = x / 2 ^ n * 2 ^ n + x % 2 ^ n := by rw [Nat.mul_comm]; exact (Nat.div_add_mod _ _).symm
  refine Nat.eq_of_testBit_eq fun i => ?_
  have e2 : x - x % 2 ^ n = x / 2 ^ n * 2 ^ n := by omega
  rw [e2, Nat.testBit_and, Nat.testBit_mul_two_pow]
  have e3 : 4294967295 - (2 ^ n - 1) = (2 ^ (32 - n) - 1) * 2 ^ n := by
    rw [Nat.sub_mul, Nat.mul_comm, pow_split n h]; have := Nat.pow_pos (n := n) (show 0 < 2 by omega); omega
  rw [e3, Nat.testBit_mul_two_pow, Nat.testBit_two_pow_sub_one]
  by_cases hi : n ≤ i
  · have e4 : x.testBit i = (x / 2 ^ n).testBit (i - n) := by
      rw [Nat.testBit_div_two_pow, show i - n + n = i by omega]
    rw [e4]
    by_cases h32 : i < 32
    · simp [hi, show i - n < 32 - n by omega]
    · have h0 : (x / 2 ^ n).testBit (i - n) = false := by
        rw [← e4]; exact Nat.testBit_lt_two_pow (Nat.lt_of_lt_of_le hx (show 2 ^ 32 ≤ 2 ^ i from Nat.pow_le_pow_right (by omega) (by omega)))
      simp [h0]
  · simp [hi]
def rorI (p n : Nat) : Int := ((rorN p n : Nat) : Int)
def shlI (p n : Nat) : Int := ((p * 2 ^ n % 4294967296 : Nat) : Int)
def shrI (p n : Nat) : Int := ((p / 2 ^ n : Nat) : Int)
def ob (p i : Nat) : Int := ((p / 2 ^ i % 2 : Nat) : Int)
theorem ob_one (p i : Nat) : (ob p i == 1) = p.testBit i := by
  unfold ob
  rw [Nat.testBit_eq_decide_div_mod_eq, Bool.eq_iff_iff]
  generalize p / 2 ^ i = x
  simp only [beq_iff_eq, decide_eq_true_eq]
  omega
theorem shrI_range (p n : Nat) (hp : p < 4294967296) : 0 ≤ shrI p n ∧ shrI p n < 4294967296 := by
  have := Nat.div_le_self p (2 ^ n)
  unfold shrI
  generalize p / 2 ^ n = x at *
  omega
theorem cast_div (p n : Nat) : (p : Int) / 2 ^ n = ((p / 2 ^ n : Nat) : Int) := by
  rw [Int.natCast_ediv, Int.natCast_pow]; rfl
theorem cast_mul (p n : Nat) : (p : Int) * 2 ^ n % 4294967296 = ((p * 2 ^ n % 4294967296 : Nat) : Int) := by
  rw [Int.natCast_emod, Int.natCast_mul, Int.natCast_pow]; rfl
theorem cast_mask (n : Nat) (h : n ≤ 32) : ((2 : Int) ^ n - 1) % 4294967296 = ((2 ^ n - 1 : Nat) : Int) ∧ 2 ^ n - 1 < 4294967296 := by
  have h1 : 1 ≤ 2 ^ n := Nat.one_le_two_pow
  have h2 : 2 ^ n ≤ 2 ^ 32 := Nat.pow_le_pow_right (by omega) h
  have h3 : (2 : Int) ^ n = ((2 ^ n : Nat) : Int) := by rw [Int.natCast_pow]; rfl
  rw [h3]
  omega
theorem round_val (p n : Nat) (hp : p < 4294967296) (h : n ≤ 32) :
    bits .or .u32 ((p : Int) / 2 ^ n) ((p : Int) * 2 ^ (32 - n) % 4294967296) = rorI p n := by
  have h1 := Nat.div_le_self p (2 ^ n)
  rw [cast_div, cast_mul, u32_or_nat _ _ (by omega) (by omega), rorN_or p n hp h]; rfl
theorem round_out (p n : Nat) (hp : p < 4294967296) (h1 : 1 ≤ n) (h2 : n ≤ 31) : rorI p n / 2147483648 = ob p (n - 1) := by
  have := rorN_out p n hp h1 h2
  unfold rorI ob; omega
theorem down_val (p n : Nat) (hp : p < 4294967296) (h : n ≤ 32) :
    bits .and .u32 (rorI p n) (((2 : Int) ^ (32 - n) - 1) % 4294967296) = shrI p n := by
  have h1 := cast_mask (32 - n) (by omega)
  unfold rorI
  rw [h1.1, u32_and_nat _ _ (rorN_lt p n hp h) h1.2, Nat.and_two_pow_sub_one_eq_mod, rorN_low p n hp h]; rfl
theorem up_val (p n : Nat) (hp : p < 4294967296) (h : n ≤ 32) :
    bits .andNot .u32 (rorI p (32 - n)) (((2 : Int) ^ n - 1) % 4294967296) = shlI p n := by
  have h1 := cast_mask n (by omega)
  have h2 := rorN_lt p (32 - n) hp (by omega)
  unfold rorI
  rw [h1.1, u32_andNot_nat _ _ h2 h1.2, clear_low _ n h2 h]
  unfold shlI
  rw [shl_mod p n h]
  have e := rorN_low p (32 - n) hp (by omega)
  rw [show 32 - (32 - n) = n by omega] at e
  rw [e]
  unfold rorN
  rw [show 32 - (32 - n) = n by omega]
  omega
theorem up_out (p n : Nat) (hp : p < 4294967296) (h1 : 1 ≤ n) (h : n ≤ 32) :
    bits .and .u32 (rorI p (32 - n)) 1 = ob p (32 - n) := by
  have h2 := rorN_lt p (32 - n) hp (by omega)
  have e := u32_and_nat (rorN p (32 - n)) 1 h2 (by omega)
  unfold rorI
  rw [show ((1 : Int)) = ((1 : Nat) : Int) by rfl, e, nat_mask1, rorN_one p (32 - n) (by omega)]; rfl
def outUp (p k : Nat) : Bool := decide (k ≠ 0) && p.testBit (32 - k)
def outDown (p k : Nat) : Bool := decide (k ≠ 0) && p.testBit (k - 1)
theorem shlI_zero (p : Nat) (hp : p < 4294967296) : shlI p 0 = (p : Int) := by
  unfold shlI; rw [Nat.pow_zero, Nat.mul_one, Nat.mod_eq_of_lt hp]
theorem shrI_zero (p : Nat) : shrI p 0 = (p : Int) := by
  unfold shrI; rw [Nat.pow_zero, Nat.div_one]
theorem rorI_zero (p : Nat) : rorI p 0 = (p : Int) := by
  unfold rorI rorN; rw [Nat.pow_zero, Nat.div_one, Nat.mod_one, Nat.zero_mul, Nat.add_zero]
def sarN (a k : Nat) : Nat := if a < 2147483648 then a / 2 ^ k else 4294967295 - (4294967295 - a) / 2 ^ k
def sarI (a k : Nat) : Int := ((sarN a k : Nat) : Int)
theorem sarI_zero (a : Nat) (ha : a < 4294967296) : sarI a 0 = (a : Int) := by
  unfold sarI sarN
  rw [Nat.pow_zero, Nat.div_one, Nat.div_one]
  split <;> omega
theorem sarI_below (a k : Nat) (h : a < 2147483648) : sarI a k = shrI a k := by
  unfold sarI sarN shrI; rw [if_pos h]
theorem sarI_above (a k : Nat) (h : 2147483648 ≤ a) : sarI a k = 4294967295 - shrI (4294967295 - a) k := by
  unfold sarI sarN shrI
  rw [if_neg (by omega)]
  have := Nat.div_le_self (4294967295 - a) (2 ^ k)
  generalize (4294967295 - a) / 2 ^ k = x at *
  omega
theorem bit_over (a i : Nat) (ha : a < 4294967296) (hi : i < 32) : (4294967295 - a).testBit i = !a.testBit i := by
  have h := Nat.testBit_two_pow_sub_succ (x := a) (n := 32) (by omega) i
  rw [show 2 ^ 32 - (a + 1) = 4294967295 - a by omega] at h
  rw [h]; simp [hi]
theorem ob_range (p i : Nat) : 0 ≤ ob p i ∧ ob p i ≤ 1 := by
  unfold ob
  generalize p / 2 ^ i = x
  omega
theorem ob_over (p i : Nat) (hp : p < 4294967296) (hi : i < 32) : 1 - ob (4294967295 - p) i = ob p i := by
  have h := bit_over p i hp hi
  have h1 := ob_one p i
  have h2 := ob_one (4294967295 - p) i
  have r1 := ob_range p i
  have r2 := ob_range (4294967295 - p) i
  rw [h] at h2
  cases hb : p.testBit i
  · rw [hb] at h1 h2
    rw [beq_eq_false_iff_ne] at h1
    simp only [Bool.not_false, beq_iff_eq] at h2
    omega
  · rw [hb] at h1 h2
    rw [beq_iff_eq] at h1
    simp only [Bool.not_true, beq_eq_false_iff_ne] at h2
    omega
theorem over_val (x : Int) (h0 : 0 ≤ x) (h1 : x < 4294967296) : bits .xor .u32 IntKind.u32.max x = 4294967295 - x := by
  obtain ⟨n, rfl⟩ := Int.eq_ofNat_of_zero_le h0
  have e : IntKind.u32.max = ((4294967295 : Nat) : Int) := by decide
  rw [e, u32_xor_nat 4294967295 n (by omega) (by omega)]
  have e2 : 4294967295 ^^^ n = 4294967295 - n := by
    refine Nat.eq_of_testBit_eq fun i => ?_
    rw [Nat.testBit_xor]
    by_cases hi : i < 32
    · rw [bit_over n i (by omega) hi, show (4294967295 : Nat) = 2 ^ 32 - 1 by rfl, Nat.testBit_two_pow_sub_one]
      simp [hi]
    · have hp : 2 ^ 32 ≤ 2 ^ i := Nat.pow_le_pow_right (by omega) (by omega)
      rw [Nat.testBit_lt_two_pow (x := 4294967295) (by omega), Nat.testBit_lt_two_pow (x := n) (by omega), Nat.testBit_lt_two_pow (x := 4294967295 - n) (by omega)]
      rfl
  rw [e2]
  omega
theorem size43 : (Tryd.prog.info? 89).map (·.size) = some 5 := by kernel_rfl
theorem form_one (r : Nat) : (formA r).all (·.oneCell') = true := by simp [formA, Value.oneCell']
theorem span_at (k : Nat) (hk : k < 14) (w : World) : (Instr.index 119 (.agg spansC) (.int .i64 k)).run Tryd.prog w = .ok (.agg (spanA k)) w := by
  rcases (by omega : k = 0 ∨ k = 1 ∨ k = 2 ∨ k = 3 ∨ k = 4 ∨ k = 5 ∨ k = 6 ∨ k = 7 ∨ k = 8 ∨ k = 9 ∨ k = 10 ∨ k = 11 ∨ k = 12 ∨ k = 13) with rfl | rfl | rfl | rfl | rfl | rfl | rfl | rfl | rfl | rfl | rfl | rfl | rfl | rfl <;> kernel_rfl
set_option maxHeartbeats 1000000 in
set_option maxRecDepth 100000 in
theorem formOf_any (op : Int) (host : Bool) (w : World) (h0 : 0 ≤ op) (h1 : op < 256) (hT : Tabs w) :
    Calls Tryd.prog 40 #[.int .u8 op, .bool host] w fun e w' => e = .returned (.agg (formA (rowOf op host))) ∧ Kep w w' := by
  obtain ⟨ts, hs⟩ := hT.2
  have hs' : (w.alloc (.cells #[.int .u8 0, .int .u8 0, .int .u8 0, .int .u8 0, .int .u8 0] 89)).heap[1]? = some (.cells spansC ts (0, 0)) := ((Kep.refl _).alloc _).block hs
  obtain ⟨M, hM⟩ : ∃ M : Nat → Bool, Hid (∀ j, M j = matchB j op host) := ⟨_, fun _ => rfl⟩
  cases host
  all_goals
    go_enter Tryd.func40, Tryd.ntmps40
    go_wp2_with (refine wpList_load_row rfl 119 _ rfl 1 rfl ts _ (0, 0) _ hs' Tryd.underlying119 rfl (by kernel_rfl) ?_)
    go_loopw [8] (fun i wr => ∃ k : Nat, k ≤ 14 ∧ i = .int .i64 k ∧ Hid (Kep (w.alloc (.cells #[.int .u8 0, .int .u8 0, .int .u8 0, .int .u8 0, .int .u8 0] 89)) wr) ∧ Hid (∀ j : Nat, j < k → M j = false)) (fun i _ => 14 - (intOf i).toNat)
    case atStart => exact ⟨0, Nat.zero_le _, rfl, Kep.refl _, fun j hj => absurd hj (Nat.not_lt_zero j)⟩
    case round =>
      obtain ⟨k, hk, rfl, hg, hm⟩ := hrel
      have hG : Hid (Kep w wr) := kep_trans ((Kep.refl _).alloc _) hg
      have hT' := hT.grown hG
      have z0 : 0 < wr.heap.size := Nat.lt_of_lt_of_le (by have := tabs_size hT; omega) hG.size
      have z1 : w.heap.size < wr.heap.size := Nat.lt_of_lt_of_le (by simp) hg.size
      have hrow : wr.heap[w.heap.size]? = some (.cells #[.int .u8 0, .int .u8 0, .int .u8 0, .int .u8 0, .int .u8 0] 89 (0, 0)) := hg.block (heap_alloc_new _ _)
      have hrow2 := ((Kep.refl wr).alloc (.cells #[.int .u8 (sLo k), .int .u8 (sHi k), .int .u8 (sRow k), .bool (sHost k)] 118)).block hrow
      clear hs hs'
      rcases Nat.lt_or_ge k 14 with h14 | h14
      · have hi := span_at k h14
        unfold spanA at hi
        have hr2 := sRow_lt k h14
        have hr0 : (0 : Int) ≤ sRow k := by omega
        have hr1 : (sRow k : Int) < 10 := by omega
        obtain ⟨c0, c1, c2, c3, c4⟩ := hT'.form (sRow k) hr2
        clear hrow
        have hb : ∃ b, Hid (sHost k = b) ∧ sHost k = b := ⟨_, rfl, rfl⟩
        obtain ⟨b, hb, hb'⟩ := hb
        rw [hb'] at hi hrow2
        clear hb'
        cases b
        all_goals go_wp2_with ((refine wpList_store_row rfl 89 _ _ rfl w.heap.size (formA (sRow k)) rfl rfl 89 _ hrow2 size43 rfl (form_one _) ?_))
        all_goals first
          | (try simp only [Exit.inBlock, Exit.then]
             refine bodyPost_ret (results_cell_row rfl _ _ w.heap.size 89 (formA (sRow k)) (0, 0) _ rfl (setRow_heap _ _ _ _ _ _ hrow2) Tryd.underlying89 rfl size43) rfl ⟨?_, ?_⟩
             · rw [row_hit op h0 h1 _ k h14 (by have hb' := hb.out; clear hi hm hM; simp_all [matchB])]
             · exact (hG.alloc _).setRow _ _ (Nat.le_refl _))
          | (go_roundw
             case rel =>
               refine ⟨k + 1, by omega, by go_num, hg.alloc _, fun j hj => ?_⟩
               rcases Nat.lt_or_ge j k with hjk | hjk
               · exact hm j hjk
               · obtain rfl : j = k := by omega
                 have hb' := hb.out
                 rw [hM.out]
                 clear hm hM
                 clear hi
                 simp_all [matchB]
                 try omega
             case measure => simp [intOf]; omega)
      · obtain rfl : k = 14 := by omega
        obtain ⟨c0, c1, c2, c3, c4⟩ := hT'.form 0 (by decide)
        clear hrow2
        go_wp2_with (refine wpList_store_row rfl 89 _ _ rfl w.heap.size (formA 0) rfl rfl 89 _ hrow size43 rfl (form_one _) ?_)
        try simp only [Exit.inBlock, Exit.then]
        refine bodyPost_ret (results_cell_row rfl _ _ w.heap.size 89 (formA 0) (0, 0) _ rfl (setRow_heap _ _ _ _ _ _ hrow) Tryd.underlying89 rfl size43) rfl ⟨?_, ?_⟩
        · rw [row_miss op h0 h1 _ (fun j hj => (hM.out j).symm.trans (hm j hj))]
        · exact hG.setRow _ _ (Nat.le_refl _)
def sz (r : Nat) : Int := [0, 1, 2, 2, 2, 3, 3, 3, 3, 6].getD r 0
def lo (r : Nat) : Int := [0, 0, 0, 0, 0, -128, -128, -32768, 0, -2147483648].getD r 0
def hi (r : Nat) : Int := [0, 0, 0, 0, 255, 127, 127, 32767, 65535, 2147483647].getD r 0
theorem ten {p : Nat → Prop} (r : Nat) (hr : r < 10) (h0 : p 0) (h1 : p 1) (h2 : p 2) (h3 : p 3) (h4 : p 4) (h5 : p 5) (h6 : p 6) (h7 : p 7) (h8 : p 8) (h9 : p 9) : p r := by
  rcases (by omega : r = 0 ∨ r = 1 ∨ r = 2 ∨ r = 3 ∨ r = 4 ∨ r = 5 ∨ r = 6 ∨ r = 7 ∨ r = 8 ∨ r = 9) with rfl | rfl | rfl | rfl | rfl | rfl | rfl | rfl | rfl | rfl <;> assumption
set_option maxHeartbeats 400000 in
theorem has_of (a b c d e : Int) (w : World) :
    Calls Tryd.prog 67 #[.agg #[.int .u8 a, .int .u8 b, .int .u8 c, .int .u8 d, .int .u8 e]] w fun x w' => x = .returned (.bool (decide (b > 0))) ∧ w' = w.alloc (.cells #[.int .u8 a, .int .u8 b, .int .u8 c, .int .u8 d, .int .u8 e] 89) := by
  go_enter Tryd.func67, Tryd.ntmps67
  go_wp2
  go_ret
  exact ⟨rfl, rfl⟩
set_option maxHeartbeats 400000 in
theorem size_of (a b c d e : Int) (w : World) (h0 : 0 ≤ a) (h1 : a ≤ 1) (h2 : 0 ≤ d) (h3 : d ≤ 4) :
    Calls Tryd.prog 41 #[.agg #[.int .u8 a, .int .u8 b, .int .u8 c, .int .u8 d, .int .u8 e]] w fun x w' => x = .returned (.int .i64 (a + d + if b > 0 then 1 else 0)) ∧ w' = (w.alloc (.cells #[.int .u8 a, .int .u8 b, .int .u8 c, .int .u8 d, .int .u8 e] 89)).alloc (.cells #[.int .u8 a, .int .u8 b, .int .u8 c, .int .u8 d, .int .u8 e] 89) := by
  go_enter Tryd.func41, Tryd.ntmps41
  go_wp2_with fail
  refine (has_of _ _ _ _ _ _).mono ?_
  rintro x w1 ⟨rfl, rfl⟩
  go_wp2_with fail
  all_goals go_ret
  all_goals exact ⟨ret_int (by simp_all <;> omega), rfl⟩
theorem size_any (r : Nat) (hr : r < 10) (w : World) :
    Calls Tryd.prog 41 #[.agg (formA r)] w fun x w' => x = .returned (.int .i64 (sz r)) ∧ w' = (w.alloc (.cells (formA r) 89)).alloc (.cells (formA r) 89) := by
  have e : sz r = f0 r + f3 r + if f1 r > 0 then 1 else 0 := ten (p := fun r => sz r = f0 r + f3 r + if f1 r > 0 then 1 else 0) r hr rfl rfl rfl rfl rfl rfl rfl rfl rfl rfl
  have a0 : 0 ≤ f0 r ∧ f0 r ≤ 1 ∧ 0 ≤ f3 r ∧ f3 r ≤ 4 := by refine ten (p := fun r => 0 ≤ f0 r ∧ f0 r ≤ 1 ∧ 0 ≤ f3 r ∧ f3 r ≤ 4) r hr ?_ ?_ ?_ ?_ ?_ ?_ ?_ ?_ ?_ ?_ <;> decide
  rw [e]; exact size_of _ _ _ _ _ w a0.1 a0.2.1 a0.2.2.1 a0.2.2.2
set_option maxHeartbeats 400000 in
theorem imm_s (a b c : Int) (w : World) (d n : Int) (hd : d = 1 ∧ n = 128 ∨ d = 2 ∧ n = 32768 ∨ d = 4 ∧ n = 2147483648) :
    Calls Tryd.prog 60 #[.agg #[.int .u8 a, .int .u8 b, .int .u8 c, .int .u8 d, .int .u8 1]] w fun x w' => x = .returned (.tuple #[.int .i64 (-n), .int .i64 (n - 1)]) ∧ Kep w w' := by
  rcases hd with ⟨rfl, rfl⟩ | ⟨rfl, rfl⟩ | ⟨rfl, rfl⟩
  all_goals
    go_enter Tryd.func60, Tryd.ntmps60
    go_wp2
    go_ret2
    exact ⟨rfl, (Kep.refl _).alloc _⟩
set_option maxHeartbeats 400000 in
theorem imm_u (a b c : Int) (w : World) (d n : Int) (hd : d = 0 ∧ n = 0 ∨ d = 1 ∧ n = 255 ∨ d = 2 ∧ n = 65535) :
    Calls Tryd.prog 60 #[.agg #[.int .u8 a, .int .u8 b, .int .u8 c, .int .u8 d, .int .u8 0]] w fun x w' => x = .returned (.tuple #[.int .i64 0, .int .i64 n]) ∧ Kep w w' := by
  rcases hd with ⟨rfl, rfl⟩ | ⟨rfl, rfl⟩ | ⟨rfl, rfl⟩
  all_goals
    go_enter Tryd.func60, Tryd.ntmps60
    go_wp2
    go_ret2
    exact ⟨rfl, (Kep.refl _).alloc _⟩
theorem imm_any (r : Nat) (hr : r < 10) (w : World) :
    Calls Tryd.prog 60 #[.agg (formA r)] w fun x w' => x = .returned (.tuple #[.int .i64 (lo r), .int .i64 (hi r)]) ∧ Kep w w' :=
  ten (p := fun r => Calls Tryd.prog 60 #[.agg (formA r)] w fun x w' => x = .returned (.tuple #[.int .i64 (lo r), .int .i64 (hi r)]) ∧ Kep w w') r hr
    (imm_u 0 0 0 w 0 0 (by simp)) (imm_u 1 0 0 w 0 0 (by simp)) (imm_u 1 7 0 w 0 0 (by simp)) (imm_u 1 7 7 w 0 0 (by simp)) (imm_u 1 0 0 w 1 255 (by simp))
    (imm_s 1 7 0 w 1 128 (by simp)) (imm_s 1 7 7 w 1 128 (by simp)) (imm_s 1 0 0 w 2 32768 (by simp)) (imm_u 1 0 0 w 2 65535 (by simp)) (imm_s 1 7 0 w 4 2147483648 (by simp))
set_option maxHeartbeats 400000 in
theorem bytes_any (op : Int) (host : Bool) (w : World) (h0 : 0 ≤ op) (h1 : op < 256) (hT : Tabs w) :
    Calls Tryd.prog 18 #[.int .u8 op, .bool host] w fun e w' => e = .returned (.int .i64 (sz (rowOf op host))) ∧ Kep w w' := by
  go_enter Tryd.func18, Tryd.ntmps18
  go_wp2_with fail
  refine (formOf_any op host w h0 h1 hT).mono ?_
  rintro e w1 ⟨rfl, g1⟩
  go_wp2_with fail
  refine (size_any _ (rowOf_lt _ _) _).mono ?_
  rintro e w2 ⟨rfl, rfl⟩
  go_wp2_with fail
  go_ret
  exact ⟨rfl, (g1.alloc _).alloc _⟩
end Go.Proofs.YthimfiihebdchaaDoor
