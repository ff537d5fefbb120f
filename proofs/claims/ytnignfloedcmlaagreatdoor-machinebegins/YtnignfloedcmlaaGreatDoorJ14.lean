/- Part of a proof. -/
import Derived.Test.YtnignfloedcmlaaGreatDoorJ13
namespace Go.Proofs.YtnignfloedcmlaaGreatDoor
open Go.RowKit
set_option linter.unusedVariables false
set_option linter.unusedSimpArgs false
theorem splice_step (B : List Int) (a : Nat) (zs : List Int) (k : Nat) (hk : k < zs.length) (h : a + zs.length ≤ B.length) : (splice B a (zs.take k)).set (a + k) (zs.getD k 0) = splice B a (zs.take (k + 1)) := by
  have l1 : (zs.take k).length = k := by simp; omega
  have l2 : (zs.take (k + 1)).length = k + 1 := by simp; omega
  have e : zs.take (k + 1) = zs.take k ++ [zs.getD k 0] := by rw [List.take_add_one]; simp [List.getD, hk]
  unfold splice
  rw [l1, l2, e, List.append_assoc, List.set_append_right _ _ (by simp; omega), List.length_take, show min a B.length = a by omega, show a + k - a = k by omega, List.set_append_right _ _ (by omega), l1, Nat.sub_self]
  congr 2
  rw [← Nat.add_assoc]
  obtain ⟨y, hy⟩ : ∃ y, B.drop (a + k) = y :: B.drop (a + k + 1) := ⟨_, (List.drop_eq_getElem_cons (by omega))⟩
  rw [hy]
  simp
theorem splice_zero (B : List Int) (a : Nat) (zs : List Int) : splice B a (zs.take 0) = B := by simp [splice]
theorem layL_range {n : Nat} : ∀ (zs B : List Int) (a : Nat), B.length = 64 * n → a + zs.length ≤ 64 * n → layL B (List.range n) a zs = splice B a zs
  | [], B, a, _, _ => (splice_nil B _).symm
  | z :: zs, B, a, h1, h2 => by
    simp only [List.length_cons] at h2
    rw [layL, pos_range (by omega), layL_range zs _ _ (by simpa using h1) (by omega)]
    exact splice_cons _ _ _ _ (by omega)
set_option maxRecDepth 100000 in
theorem refFill_any (w : World) (y : Option Addr) (Rb : Nat) (B : List Int) (h : Refd w y Rb B) (a : Nat) (ha : (a : Int) < 4294967296) (x : Option Addr) (zs : List Int) (len cap : Nat) (hl : zs.length = len) (hlc : len ≤ cap) (hmax : (cap : Int) ≤ 9223372036854775807) (S : Src w x zs [Rb]) :
    Calls Tryz.prog 25 #[refV y B.length, .int .u32 a, .slice x len cap] w fun e w' => e = .returned (.bool (decide (a + len ≤ B.length))) ∧ Put [Rb] w w' ∧ RowB w' Rb (if a + len ≤ B.length then splice B a zs else B) := by
  obtain ⟨n, hn⟩ : ∃ n, n = B.length := ⟨_, rfl⟩
  have hm := h.max
  have hr : Hid (∀ o, RowB (w.alloc o) Rb B) := fun o => h.row.kep ((Kep.refl _).alloc o)
  have hadr := h.adr
  by_cases h1 : a ≤ B.length
  · by_cases h2 : a + len ≤ B.length
    · rw [if_pos h2, decide_eq_true h2]
      rw [← hn] at h1 h2 hm ⊢
      have g1 : (a : Int) ≤ n := by omega
      have g2 : (a : Int) + len ≤ n := by omega
      have g3 : decide ((n : Int) < (a : Int)) = false := decide_eq_false (by omega)
      have g4 : decide ((n : Int) - (a : Int) < len) = false := decide_eq_false (by omega)
      have hlc' : (len : Int) ≤ cap := by omega
      have S' : Hid (Src w x zs [Rb]) := S
      have hw : Hid (B ≠ [] → Rb < w.heap.size) := fun hB => h.row.lt hB
      have hn' : Hid (n = B.length) := hn
      have ha' : Hid (B ≠ [] → y = some ⟨Rb, 0, none⟩) := hadr
      have hl' : Hid (zs.length = len) := hl
      clear h hn S ha hadr hl h1 h2
      go_enter Tryz.func25, Tryz.ntmps25
      go_wp2
      go_loopw [7] (fun i wr => ∃ k : Nat, (k : Int) ≤ len ∧ i = .int .i64 k ∧ Hid (Put [Rb] (w.alloc (.cells #[.slice y n n] 50)) wr ∧ RowB wr Rb (splice B a (zs.take k)))) (fun i _ => len - (intOf i).toNat)
      case atStart => exact ⟨0, by omega, rfl, Put.refl _, by rw [splice_zero]; exact hr.out _⟩
      case round =>
        obtain ⟨k, hk, rfl, hP⟩ := hrel
        by_cases hlt : k < len
        · have hlt' : (k : Int) < len := by omega
          have hz := hl'.out
          have hB : B ≠ [] := by intro e; have := hn'.out; rw [e] at this; simp at this; omega
          have hRb := hw.out hB
          rcases (S'.out.put (Put.of_kep ((Kep.refl _).alloc (.cells #[.slice y n n] 50)))).put hP.out.1 with e | ⟨b, off, rfl, hb, hbn, hcell⟩
          · rw [e] at hz; simp at hz; omega
          have d0 : wr.cell? ⟨w.heap.size, 0, none⟩ = some (.slice y n n) := by
            rw [hP.out.1.cell (by simp) (by simp; omega)]; simp
          rw [ha'.out hB] at d0
          have d1 := hcell k (by omega)
          have hlen : (splice B a (zs.take k)).length = n := by rw [length_splice _ _ _ (by simp; have := hn'.out; omega)]; exact hn'.out.symm
          have hr2 := hP.out.2
          have hne2 : splice B a (zs.take k) ≠ [] := by intro e; rw [e] at hlen; simp at hlen; omega
          have d2 := hr2.cell (k := a + k) (by omega)
          have f2 : wr.frozen? ⟨Rb, a + k, none⟩ = false := by simp only [World.frozen?, hr2 hne2]; simp
          have hstep : Hid ((splice B a (zs.take k)).set (a + k) (zs.getD k 0) = splice B a (zs.take (k + 1))) := splice_step B a zs k (by omega) (by have := hn'.out; omega)
          have hr2' : Hid (RowB wr Rb (splice B a (zs.take k))) := hr2
          generalize zs.getD k 0 = z at d1 hstep
          generalize (splice B a (zs.take k)).getD (a + k) 0 = z0 at d2
          have hbR : b ≠ Rb := by simpa using hbn
          have hwR : w.heap.size ≠ Rb := by omega
          clear hr2 hne2 hcell hbn hz hlen hlt
          go_wp2
          go_region
          all_goals
            go_wp2
            go_roundw
            case rel =>
              refine ⟨k + 1, by omega, by go_num, (hP.out.1.setCell (by simp) _).drew, ?_⟩
              have := hr2'.out.set (a + k) z
              rw [hstep.out] at this
              exact this.kep (Kep.refl _).drew
            case measure => simp [intOf]; omega
        · have : k = len := by omega
          go_wp2
          go_ret
          have e1 : zs.take k = zs := List.take_of_length_le (by have := hl'.out; omega)
          have := hP.out
          rw [e1] at this
          exact ⟨rfl, (Put.of_kep ((Kep.refl _).alloc _)).trans this.1, this.2⟩
    · rw [if_neg h2, decide_eq_false h2]
      rw [← hn] at h1 h2 hm ⊢
      have g1 : (a : Int) ≤ n := by omega
      have g3 : decide ((n : Int) < (a : Int)) = false := decide_eq_false (by omega)
      have g4 : decide ((n : Int) - (a : Int) < len) = true := decide_eq_true (by omega)
      have hlc' : (len : Int) ≤ cap := by omega
      clear h hn S ha hadr hl h1
      have g2 : (n : Int) < a + len := by omega
      clear h2
      go_enter Tryz.func25, Tryz.ntmps25
      go_wp2
      go_ret
      exact ⟨rfl, Put.of_kep ((Kep.refl _).alloc _), hr.out _⟩
  · rw [if_neg (by omega), decide_eq_false (by omega)]
    rw [← hn] at h1 hm ⊢
    have g1 : (n : Int) < a := by omega
    have g3 : decide ((n : Int) < (a : Int)) = true := decide_eq_true (by omega)
    have hlc' : (len : Int) ≤ cap := by omega
    clear h hn S hadr hl h1
    go_enter Tryz.func25, Tryz.ntmps25
    go_wp2
    go_ret
    exact ⟨rfl, Put.of_kep ((Kep.refl _).alloc _), hr.out _⟩
def Rd (w : World) (v : Value) (B : List Int) : Prop := ∃ (g off c : Nat), v = .slice (some ⟨g, off, none⟩) B.length c ∧ ∀ j u, (byt B)[j]? = some u → w.cell? ((⟨g, off, none⟩ : Addr).add j) = some u
structure Two (w : World) (v : Value) (R n : Nat) (x : Option Addr) (Rb : Nat) (B : List Int) : Prop where
  ram : Ram w v R (List.range n)
  row : RowB w R B
  ref : Refd w x Rb B
  len : B.length = 64 * n
  byts : Byts B
  ne : R ≠ Rb
  le : n ≤ 512
  off : Off w v [R, Rb]
  lR : R < w.heap.size
  lRb : Rb < w.heap.size
theorem not_row {w : World} {b : Nat} {C : List Int} (h : RowB w b C) (hC : C ≠ []) {cs : Array Value} {t : TypeId} (hb : w.heap[b]? = some (.cells cs t (0, 0))) (x : Option Addr) (n c : Nat) : cs[0]? ≠ some (.slice x n c) := by
  rw [h hC] at hb
  obtain ⟨rfl, _⟩ : (byt C).toArray = cs ∧ 5 = t := by simpa using hb
  rcases C with _ | ⟨z, C⟩
  · exact absurd rfl hC
  · simp [byt]
theorem andN (a b : Nat) (ha : a < 4294967296) (hb : b < 4294967296) : bits .and .u32 (a : Int) (b : Int) = ((a &&& b : Nat) : Int) := u32_and_nat a b ha hb
theorem mask32 (x m : Nat) (hm : m < 32) : x &&& m = (x % 32) &&& m := by
  have h1 : x % 32 = x &&& 31 := (Nat.and_two_pow_sub_one_eq_mod x 5).symm
  have h2 : 31 &&& m = m := by rw [Nat.and_comm]; exact (Nat.and_two_pow_sub_one_eq_mod m 5).trans (Nat.mod_eq_of_lt hm)
  rw [h1, Nat.and_assoc, h2]
theorem bit_tab : ∀ r < 32, (r &&& 1) = r % 2 ∧ (r &&& 4) = 4 * (r / 4 % 2) ∧ (r &&& 8) = 8 * (r / 8 % 2) ∧ (r &&& 16) = 16 * (r / 16 % 2) := by decide
theorem and1 (x : Nat) (hx : x < 4294967296) : bits .and .u32 (x : Int) 1 = ((x % 2 : Nat) : Int) := by
  rw [show (1 : Int) = ((1 : Nat) : Int) from rfl, andN x 1 hx (by decide), mask32 x 1 (by decide), (bit_tab _ (Nat.mod_lt _ (by decide))).1]
  omega
theorem and4 (x : Nat) (hx : x < 4294967296) : bits .and .u32 (x : Int) 4 = ((4 * (x / 4 % 2) : Nat) : Int) := by
  rw [show (4 : Int) = ((4 : Nat) : Int) from rfl, andN x 4 hx (by decide), mask32 x 4 (by decide), (bit_tab _ (Nat.mod_lt _ (by decide))).2.1]
  omega
theorem wand16 (x : Nat) (hx : x < 4294967296) : bits .and .u32 (x : Int) 16 = ((16 * (x / 16 % 2) : Nat) : Int) := by
  rw [show (16 : Int) = ((16 : Nat) : Int) from rfl, andN x 16 hx (by decide), mask32 x 16 (by decide), (bit_tab _ (Nat.mod_lt _ (by decide))).2.2.2]
  omega
theorem down_nat (x : Nat) (hx : x < 4294967296) : x &&& 4294967232 = x - x % 64 := by
  have e1 : x - x % 64 = (x >>> 6) <<< 6 := by rw [Nat.shiftLeft_eq, Nat.shiftRight_eq_div_pow]; omega
  have e2 : 4294967232 = (2 ^ 26 - 1) <<< 6 := by decide
  rw [e1, e2]
  apply Nat.eq_of_testBit_eq
  intro i
  rw [Nat.testBit_and, Nat.testBit_shiftLeft, Nat.testBit_shiftLeft, Nat.testBit_shiftRight, Nat.testBit_two_pow_sub_one]
  by_cases h6 : 6 ≤ i
  · rw [show 6 + (i - 6) = i by omega]
    by_cases h32 : i < 32
    · simp [h6, show i - 6 < 26 by omega]
    · have : x.testBit i = false := Nat.testBit_lt_two_pow (Nat.lt_of_lt_of_le hx (Nat.pow_le_pow_right (n := 2) (by decide) (by omega : 32 ≤ i)))
      simp [this]
  · simp [show ¬ i ≥ 6 by omega]
theorem down64 (x : Nat) (hx : x < 4294967296) : bits .andNot .u32 (x : Int) 63 = ((x - x % 64 : Nat) : Int) := by
  rw [show (63 : Int) = ((63 : Nat) : Int) from rfl, u32_andNot_nat x 63 hx (by decide), show 4294967295 - 63 = 4294967232 from rfl, down_nat x hx]
def joinN (x y : Nat) : Nat := (x % 2) * (y % 2) + 2 * ((x / 2 % 2) * (y / 2 % 2)) + 4 * ((x / 4 % 2) * (y / 4 % 2)) + 8 * (if x / 8 % 2 = 1 ∨ y / 8 % 2 = 1 then 1 else 0) + 16 * (y / 16 % 2)
theorem join_tab : ∀ x < 32, ∀ y < 32, ((x &&& y) &&& 7) ||| ((x ||| y) &&& 8) ||| (y &&& 16) = joinN x y := by decide +kernel
theorem joinN_mod (x y : Nat) : joinN (x % 32) (y % 32) = joinN x y := by
  unfold joinN
  have e : ∀ z : Nat, z % 32 % 2 = z % 2 ∧ z % 32 / 2 % 2 = z / 2 % 2 ∧ z % 32 / 4 % 2 = z / 4 % 2 ∧ z % 32 / 8 % 2 = z / 8 % 2 ∧ z % 32 / 16 % 2 = z / 16 % 2 := fun z => by omega
  rw [(e x).1, (e x).2.1, (e x).2.2.1, (e x).2.2.2.1, (e y).1, (e y).2.1, (e y).2.2.1, (e y).2.2.2.1, (e y).2.2.2.2]
theorem wjoin_nat (x y : Nat) : ((x &&& y) &&& 7) ||| ((x ||| y) &&& 8) ||| (y &&& 16) = joinN x y := by
  rw [← joinN_mod, ← join_tab _ (Nat.mod_lt _ (by decide)) _ (Nat.mod_lt _ (by decide))]
  have h31 : ∀ z : Nat, z % 32 = z &&& 31 := fun z => (Nat.and_two_pow_sub_one_eq_mod z 5).symm
  rw [mask32 (x &&& y) 7 (by decide), mask32 (x ||| y) 8 (by decide), mask32 y 16 (by decide)]
  rw [show (x &&& y) % 32 = (x % 32) &&& (y % 32) from Nat.and_mod_two_pow (n := 5), show (x ||| y) % 32 = (x % 32) ||| (y % 32) from Nat.or_mod_two_pow (n := 5)]
theorem joins32 (x y : Nat) (hx : x < 4294967296) (hy : y < 4294967296) :
    bits .or .u32 (bits .or .u32 (bits .and .u32 (bits .and .u32 (bits .and .u32 4294967295 x) y) 7) (bits .and .u32 (bits .or .u32 (bits .or .u32 0 x) y) 8)) (bits .and .u32 y 16) = ((joinN x y : Nat) : Int) := by
  have a1 : 4294967295 &&& x = x := by rw [Nat.and_comm]; exact (Nat.and_two_pow_sub_one_eq_mod x 32).trans (Nat.mod_eq_of_lt hx)
  have c1 : x &&& y < 4294967296 := Nat.and_lt_two_pow (n := 32) _ hy
  have c2 : x ||| y < 4294967296 := Nat.or_lt_two_pow (n := 32) hx hy
  have c3 : (x &&& y) &&& 7 < 4294967296 := Nat.and_lt_two_pow (n := 32) _ (by decide)
  have c4 : (x ||| y) &&& 8 < 4294967296 := Nat.and_lt_two_pow (n := 32) _ (by decide)
  have c5 : y &&& 16 < 4294967296 := Nat.and_lt_two_pow (n := 32) _ (by decide)
  have c6 : (x &&& y) &&& 7 ||| (x ||| y) &&& 8 < 4294967296 := Nat.or_lt_two_pow (n := 32) c3 c4
  rw [show (4294967295 : Int) = ((4294967295 : Nat) : Int) from rfl, show (7 : Int) = ((7 : Nat) : Int) from rfl, show (8 : Int) = ((8 : Nat) : Int) from rfl, show (16 : Int) = ((16 : Nat) : Int) from rfl, show (0 : Int) = ((0 : Nat) : Int) from rfl,
    u32_and_nat _ _ (by decide) hx, a1, u32_and_nat _ _ hx hy, u32_and_nat _ _ c1 (by decide), u32_or_nat _ _ (by decide) hx, Nat.zero_or, u32_or_nat _ _ hx hy, u32_and_nat _ _ c2 (by decide), u32_and_nat _ _ hy (by decide), u32_or_nat _ _ c3 c4, u32_or_nat _ _ c6 c5, wjoin_nat]
theorem dirPart_any (w : World) (va : Nat) (ha : (va : Int) < 4294967296) :
    Calls Tryz.prog 134 #[.int .u32 va] w fun e w' => e = .returned (.int .i64 ((va / 1024 : Nat) : Int)) ∧ w' = w := by
  go_enter Tryz.func134, Tryz.ntmps134
  go_wp2
  go_ret
  exact ⟨ret_int (by omega), rfl⟩
theorem base_any (w : World) (a : Nat) (ha : (a : Int) < 4294967296) :
    Calls Tryz.prog 136 #[.int .u32 a] w fun e w' => e = .returned (.int .u32 ((a - a % 64 : Nat) : Int)) ∧ w' = w := by
  have hd := down64 a (by omega)
  go_enter Tryz.func136, Tryz.ntmps136
  go_wp2
  go_ret
  exact ⟨ret_int (by omega), rfl⟩
theorem framenum_any (w : World) (a : Nat) (ha : (a : Int) < 4294967296) :
    Calls Tryz.prog 140 #[.int .u32 a] w fun e w' => e = .returned (.int .i64 ((a / 64 : Nat) : Int)) ∧ w' = w := by
  go_enter Tryz.func140, Tryz.ntmps140
  go_wp2
  go_ret
  exact ⟨ret_int (by omega), rfl⟩
theorem within_any (w : World) (v : Value) (R : Nat) (ix : List Nat) (h : Ram w v R ix) (hix : (ix.length : Int) ≤ 512) (a : Nat) (ha : (a : Int) < 4294967296) :
    Calls Tryz.prog 138 #[v, .int .u32 a] w fun e w' => e = .returned (.bool (decide (a < 64 * ix.length))) ∧ w' = w := by
  have hc : Hid (Calls Tryz.prog 22 #[v] w fun e w' => e = .returned (.int .u32 (64 * ix.length)) ∧ w' = w) := msize_any w v R ix h hix
  clear h
  go_enter Tryz.func138, Tryz.ntmps138
  go_wp2_with (go_at_call 22; refine hc.out.mono ?_; rintro e w1 ⟨rfl, rfl⟩)
  go_ret
  exact ⟨ret_bool (decide_eq_decide.2 (by omega)), rfl⟩
theorem size_arr2 : (Tryz.prog.info? 213).map (·.size) = some 2 := by kernel_rfl
theorem picks_any (w : World) (va : Nat) (ha : (va : Int) < 4294967296) :
    Calls Tryz.prog 135 #[.int .u32 va] w fun e w' => e = .returned (.agg #[.int .u32 ((va / 1024 : Nat) : Int), .int .u32 ((va / 64 % 16 : Nat) : Int)]) ∧ w' = w.alloc (.cells #[.int .u32 ((va / 1024 : Nat) : Int), .int .u32 ((va / 64 % 16 : Nat) : Int)] 213) := by
  have hc : Hid (∀ w, Calls Tryz.prog 134 #[.int .u32 va] w fun e w' => e = .returned (.int .i64 ((va / 1024 : Nat) : Int)) ∧ w' = w) := fun w => dirPart_any w va ha
  go_enter Tryz.func135, Tryz.ntmps135
  go_wp2_with (go_at_call 134; refine (hc.out _).mono ?_; rintro e w1 ⟨rfl, rfl⟩)
  have e1 : ((va / 1024 : Nat) : Int) = (va : Int) / 1024 := by omega
  have e2 : ((va / 64 % 16 : Nat) : Int) = (va : Int) / 64 % 16 := by omega
  rw [e1, e2]
  exact bodyPost_ret (results1 rfl _ _ w.heap.size 213 #[.int .u32 ((va : Int) / 1024), .int .u32 ((va : Int) / 64 % 16)] (0, 0) _ rfl (hat _ _ _ rfl) Tryz.underlying213 rfl size_arr2) rfl ⟨rfl, rfl⟩
theorem join2_any (w : World) (b : Nat) (x y : Nat) (hx : x < 4294967296) (hy : y < 4294967296) (c0 : w.cell? ⟨b, 0, none⟩ = some (.int .u32 x)) (c1 : w.cell? ⟨b, 1, none⟩ = some (.int .u32 y)) :
    Calls Tryz.prog 139 #[.slice (some ⟨b, 0, none⟩) 2 2] w fun e w' => e = .returned (.int .u32 (joinN x y)) ∧ w' = w := by
  have H : Hid (_ = _) := joins32 x y hx hy
  go_enter Tryz.func139, Tryz.ntmps139
  go_wp2
  go_rounds 3
  go_ret
  exact ⟨by rw [← H.out]; rfl, rfl⟩
end Go.Proofs.YtnignfloedcmlaaGreatDoor
