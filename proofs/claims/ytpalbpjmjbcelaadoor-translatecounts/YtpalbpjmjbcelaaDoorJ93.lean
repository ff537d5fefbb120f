/- Part of a proof. -/
import Derived.Test.YtpalbpjmjbcelaaDoorJ18
namespace Go.Proofs.YtpalbpjmjbcelaaDoor
open Go.RowKit
set_option linter.unusedVariables false
set_option linter.unusedSimpArgs false
def rawL (zs : List Int) (p : Nat) : Nat → Int
  | 0 => 0
  | k + 1 => rawL zs p k + zat zs (p + k) * 2 ^ (8 * k)
theorem zat_range {zs : List Int} (hz : ∀ n ∈ zs, 0 ≤ n ∧ n < 256) (i : Nat) : 0 ≤ zat zs i ∧ zat zs i < 256 := by
  unfold zat
  rw [List.getD_eq_getElem?_getD]
  cases h : zs[i]? with
  | none => simp
  | some x => exact hz x (List.mem_of_getElem? h)
theorem rawL_range {zs : List Int} (hz : ∀ n ∈ zs, 0 ≤ n ∧ n < 256) (p : Nat) : ∀ k, 0 ≤ rawL zs p k ∧ rawL zs p k < 2 ^ (8 * k)
  | 0 => by simp [rawL]
  | k + 1 => by
    have h1 := rawL_range hz p k
    have h2 := zat_range hz (p + k)
    have h3 : (2 : Int) ^ (8 * (k + 1)) = 2 ^ (8 * k) * 256 := by rw [Nat.mul_add, Int.pow_add]; rfl
    have h4 : (0 : Int) < 2 ^ (8 * k) := Int.pow_pos (by decide)
    simp only [rawL]
    rw [h3]
    generalize (2 : Int) ^ (8 * k) = P at h1 h4
    have h5 : 0 ≤ zat zs (p + k) * P := Int.mul_nonneg h2.1 (by omega)
    have h6 : zat zs (p + k) * P ≤ 255 * P := Int.mul_le_mul_of_nonneg_right (by omega) (by omega)
    omega
theorem or_comm64 (x y : Int) : bits .or .i64 x y = bits .or .i64 y x := by simp only [bits, BitVec.or_comm]
theorem join64 (raw z : Int) (k : Nat) (hk : k ≤ 3) (h0 : 0 ≤ raw) (h1 : raw < 2 ^ (8 * k)) (z0 : 0 ≤ z) (z1 : z < 256) : bits .or .i64 raw (z * 2 ^ (8 * k)) = raw + z * 2 ^ (8 * k) := by
  rw [or_comm64, bits_join .i64 40 (by decide) (by intro n h₀ h₁; rw [IntKind.wrap_i64]; omega) (8 * k) (z * 2 ^ (8 * k)) raw]
  · omega
  · exact Int.mul_nonneg z0 (Int.le_of_lt (Int.pow_pos (by decide)))
  · exact Int.mul_emod_left _ _
  · rcases (by omega : k = 0 ∨ k = 1 ∨ k = 2 ∨ k = 3) with rfl | rfl | rfl | rfl <;> simp <;> omega
  · exact h0
  · exact h1
  · rcases (by omega : k = 0 ∨ k = 1 ∨ k = 2 ∨ k = 3) with rfl | rfl | rfl | rfl <;> simp at h1 ⊢ <;> omega
set_option maxRecDepth 100000 in
theorem and15_all : ∀ n : Nat, n < 256 → bits .and .u8 (n : Int) 15 = (n : Int) % 16 := by decide +kernel
theorem and15 (x : Int) (h0 : 0 ≤ x) (h1 : x < 256) : bits .and .u8 x 15 = x % 16 := by
  obtain ⟨n, rfl⟩ : ∃ n : Nat, x = n := ⟨x.toNat, by omega⟩
  exact and15_all n (by omega)
def aOf (r : Nat) (zs : List Int) : Int := if hasA r then zat zs 1 / 16 else 0
def bOf (r : Nat) (zs : List Int) : Int := if hasA r then zat zs 1 % 16 else 0
def rawOf (r : Nat) (zs : List Int) : Int := rawL zs (posI r) (f3 r).toNat
def immOf (r : Nat) (zs : List Int) : Int := if rawOf r zs > hi r then rawOf r zs + 2 * lo r else rawOf r zs
theorem raw_hi (r : Nat) (hr : r < 10) : lo r ≤ 0 ∧ 0 ≤ hi r ∧ (2 : Int) ^ (8 * (f3 r).toNat) = (if lo r = 0 then hi r + 1 else 2 * (hi r + 1)) ∧ (lo r ≠ 0 → lo r = -(hi r + 1)) ∧ -2147483648 ≤ lo r ∧ hi r ≤ 2147483647 := by
  refine ten (p := fun r => lo r ≤ 0 ∧ 0 ≤ hi r ∧ (2 : Int) ^ (8 * (f3 r).toNat) = (if lo r = 0 then hi r + 1 else 2 * (hi r + 1)) ∧ (lo r ≠ 0 → lo r = -(hi r + 1)) ∧ -2147483648 ≤ lo r ∧ hi r ≤ 2147483647) r hr ?_ ?_ ?_ ?_ ?_ ?_ ?_ ?_ ?_ ?_ <;> decide
theorem immOf_range {zs : List Int} (hz : ∀ n ∈ zs, 0 ≤ n ∧ n < 256) (r : Nat) (hr : r < 10) : lo r ≤ immOf r zs ∧ immOf r zs ≤ hi r := by
  have h1 := rawL_range hz (posI r) (f3 r).toNat
  obtain ⟨h2, h3, h4, h5, _⟩ := raw_hi r hr
  unfold immOf
  have e : rawOf r zs = rawL zs (posI r) (f3 r).toNat := rfl
  rw [← e, h4] at h1
  split at h1 <;> split <;> omega
def RdAt (w : World) (R b off len cap i : Nat) : Prop := ∃ ao, w.heap[R]? = some (.cells #[.slice ao (len - i) (cap - i)] 80 (0, 0)) ∧ (i < len → ao = some ⟨b, off + i, none⟩)
set_option maxHeartbeats 1000000 in
theorem dnext_of (R b o n c : Nat) (z : Int) (w : World) (h0 : w.cell? ⟨R, 0, none⟩ = some (.slice (some ⟨b, o, none⟩) (n + 1) (c + 1))) (hf : w.frozen? ⟨R, 0, none⟩ = false) (hz : w.cell? ⟨b, o, none⟩ = some (.int .u8 z))
    (hn0 : (n : Int) ≤ 9223372036854775806) (hnc : n ≤ c) (hcm : (c : Int) ≤ 9223372036854775806) :
    Calls Tryd.prog 31 #[.pointer (some ⟨R, 0, none⟩)] w fun e w' => e = .returned (.int .u8 z) ∧ ∃ ao, (0 < n → ao = some ⟨b, o + 1, none⟩) ∧ w' = w.setCell ⟨R, 0, none⟩ (.slice ao n c) := by
  go_enter Tryd.func31, Tryd.ntmps31
  go_wp2
  · go_ret
    exact ⟨rfl, _, fun h => by omega, rfl⟩
  · go_ret
    exact ⟨rfl, _, fun _ => rfl, rfl⟩
theorem next_at (R b off len cap i : Nat) (z : Int) (w : World) (hi : i < len) (hl : len ≤ cap) (hc : cap ≤ maxLen) (hz : w.cell? ⟨b, off + i, none⟩ = some (.int .u8 z)) (h : RdAt w R b off len cap i) :
    Calls Tryd.prog 31 #[.pointer (some ⟨R, 0, none⟩)] w fun e w' => e = .returned (.int .u8 z) ∧ RdAt w' R b off len cap (i + 1) ∧ w.grownBy w' (some R) := by
  obtain ⟨ao, hR, hao⟩ := h
  obtain rfl := hao hi
  unfold maxLen at hc
  obtain ⟨n, hn⟩ : ∃ n, len - i = n + 1 := ⟨len - i - 1, by omega⟩
  obtain ⟨c, hcc⟩ : ∃ c, cap - i = c + 1 := ⟨cap - i - 1, by omega⟩
  rw [hn, hcc] at hR
  have h0 : w.cell? ⟨R, 0, none⟩ = some (.slice (some ⟨b, off + i, none⟩) (n + 1) (c + 1)) := by rw [cell_of_block hR]; rfl
  refine (dnext_of R b (off + i) n c z w h0 (frozen_of_row w R 0 _ _ hR) hz (by omega) (by omega) (by omega)).mono ?_
  rintro e w' ⟨rfl, ao', hao', rfl⟩
  refine ⟨rfl, ⟨ao', ?_, fun hlt => ?_⟩, ⟨rfl, rfl, rfl, by simp [World.setCell], fun k hk hne => ?_⟩⟩
  · rw [heap_setCell_same w R 0 _ _ _ hR]
    rw [show len - (i + 1) = n by omega, show cap - (i + 1) = c by omega]
    rfl
  · rw [hao' (by omega)]; rfl
  · exact heap_setCell_other w ⟨R, 0, none⟩ k _ (by intro h; exact hne (by rw [h]))
theorem gb_block {w w' : World} {R b : Nat} {x : Obj} (hg : w.grownBy w' (some R)) (h : w.heap[b]? = some x) (hne : b ≠ R) : w'.heap[b]? = some x := by
  have hlt : b < w.heap.size := by
    rcases Nat.lt_or_ge b w.heap.size with h' | h'
    · exact h'
    · rw [Array.getElem?_eq_none h'] at h; cases h
  exact (hg.block b hlt (by simpa using hne)).trans h
theorem gb_trans {a b c : World} {R : Option Nat} (h : a.grownBy b R) (k : b.grownBy c R) : a.grownBy c R :=
  ⟨k.os.trans h.os, k.tape.trans h.tape, k.output.trans h.output, Nat.le_trans h.size k.size, fun i hi hne => (k.block i (Nat.lt_of_lt_of_le hi h.size) hne).trans (h.block i hi hne)⟩
theorem gb_alloc {a b : World} {R : Option Nat} (h : a.grownBy b R) (o : Obj) : a.grownBy (b.alloc o) R := gb_trans h (World.grownBy_alloc b o R)
theorem gb_setCell {a b : World} {R : Option Nat} (h : a.grownBy b R) {p : Addr} (hp : a.heap.size ≤ p.block) (v : Value) : a.grownBy (b.setCell p v) R :=
  ⟨h.os, h.tape, h.output, by simpa [World.setCell] using h.size, fun i hi hne => (heap_setCell_other b p i v (by omega)).trans (h.block i hi hne)⟩
theorem rd_alloc {w : World} {R b off len cap i : Nat} (h : RdAt w R b off len cap i) (o : Obj) : RdAt (w.alloc o) R b off len cap i := by
  obtain ⟨ao, h1, h2⟩ := h
  exact ⟨ao, gb_block (R := w.heap.size) (World.grownBy_alloc w o _) h1 (by rintro rfl; simp at h1), h2⟩
theorem ins_one (a b c d : Int) : (#[Value.int .u8 a, .int .u8 b, .int .u8 c, .int .i32 d]).all (·.oneCell') = true := by simp [Value.oneCell']
theorem gb_setRow {a b : World} {R : Option Nat} (h : a.grownBy b R) {g : Nat} (hg : a.heap.size ≤ g) (cs : Array Value) : a.grownBy (b.setRow g cs) R :=
  ⟨h.os, h.tape, h.output, by simpa using h.size, fun i hi hne => (setRow_other b g i cs (by omega)).trans (h.block i hi hne)⟩
theorem rd_set {w : World} {R b off len cap i : Nat} (h : RdAt w R b off len cap i) {p : Addr} (hp : R ≠ p.block) (v : Value) : RdAt (w.setCell p v) R b off len cap i := by
  obtain ⟨ao, h1, h2⟩ := h
  exact ⟨ao, (heap_setCell_other w p R v hp).trans h1, h2⟩
theorem raw_step {zs : List Int} (hz : ∀ n ∈ zs, 0 ≤ n ∧ n < 256) (p k : Nat) (hk : k ≤ 3) : bits .or .i64 (rawL zs p k) (wrap64 (wrap64 (zat zs (p + k)) * 2 ^ (8 * k))) = rawL zs p (k + 1) := by
  have h1 := rawL_range hz p k
  have h2 := zat_range hz (p + k)
  have e1 : wrap64 (zat zs (p + k)) = zat zs (p + k) := by unfold wrap64; omega
  have e2 : wrap64 (zat zs (p + k) * 2 ^ (8 * k)) = zat zs (p + k) * 2 ^ (8 * k) := by
    clear e1
    generalize zat zs (p + k) = z at h2
    unfold wrap64
    rcases (by omega : k = 0 ∨ k = 1 ∨ k = 2 ∨ k = 3) with rfl | rfl | rfl | rfl <;> simp <;> omega
  rw [e1, e2, join64 _ _ k hk h1.1 h1.2 h2.1 h2.2]
  rfl
set_option maxHeartbeats 2000000 in
set_option maxRecDepth 100000 in
theorem read_any (r : Nat) (hr : r < 10) (hr0 : r ≠ 0) (R b off len cap : Nat) (zs : List Int) (w : World) (hbR : b ≠ R) (hb : b < w.heap.size) (hl : len ≤ cap) (hc : cap ≤ maxLen) (hsz : sz r ≤ len)
    (hz : ∀ i, i < len → w.cell? ⟨b, off + i, none⟩ = some (.int .u8 (zat zs i))) (hzr : ∀ n ∈ zs, 0 ≤ n ∧ n < 256) (h : RdAt w R b off len cap 0) :
    Calls Tryd.prog 30 #[.agg (formA r), .func (Fn.func 31) #[.pointer (some ⟨R, 0, none⟩)] #[]] w fun e w' =>
      e = .returned (.agg #[.int .u8 (zat zs 0), .int .u8 (aOf r zs), .int .u8 (bOf r zs), .int .i32 (immOf r zs)]) ∧ w.grownBy w' (some R) := by
  have hRw : R < w.heap.size := by
    obtain ⟨ao, h1, _⟩ := h
    rcases Nat.lt_or_ge R w.heap.size with h' | h'
    · exact h'
    · rw [Array.getElem?_eq_none h'] at h1; cases h1
  have hZ : Hid (∀ w', w.grownBy w' (some R) → ∀ i, i < len → w'.cell? ⟨b, off + i, none⟩ = some (.int .u8 (zat zs i))) := fun w' hg i hi => hg.cell (hz i hi) (by simpa using hbR)
  have hsz1 : Hid (1 ≤ sz r) := by
    show 1 ≤ sz r
    rcases sz_cases r hr hr0 with h | h | h | h <;> omega
  have hH : Hid (RdAt w R b off len cap 0) := h
  have hzr' : Hid (∀ n ∈ zs, 0 ≤ n ∧ n < 256) := hzr
  have hc' : Hid (cap ≤ maxLen) := hc
  clear h hz hzr hc
  unfold formA
  go_enter Tryd.func30, Tryd.ntmps30
  go_wp2_with fail
  refine (next_at R b off len cap 0 (zat zs 0) _ (by have := hsz1.out; omega) hl hc' ?_ ?_).mono ?_
  · exact hZ.out _ (gb_alloc (World.grownBy_alloc w _ _) _) 0 (by have := hsz1.out; omega)
  · exact rd_alloc (rd_alloc hH.out _) _
  rintro e w2 ⟨rfl, hR2, g2⟩
  have hf3 := f3_range r hr
  have hszp := sz_is r hr hr0
  have g2' : Hid (w.grownBy w2 (some R)) := gb_trans (gb_alloc (World.grownBy_alloc w _ _) _) g2
  have bF : Hid (w2.heap[w.heap.size]? = some (.cells (formA r) 75 (0, 0))) := gb_block g2 ((heap_skip _ _ _ (by simp)).trans (heap_at _ _ _ rfl)) (by omega)
  have bQ : Hid (w2.heap[w.heap.size + 1]? = some (.cells #[.int .u8 0, .int .u8 0, .int .u8 0, .int .i32 0] 43 (0, 0))) := gb_block g2 (heap_at _ _ _ (by simp)) (by omega)
  have z2 : w.heap.size + 1 < w2.heap.size := Nat.lt_of_lt_of_le (by simp) g2.size
  have z2' : w.heap.size < w2.heap.size := by omega
  have hR2' : Hid (RdAt w2 R b off len cap 1) := hR2
  have hF : Hid (∀ w' : World, w'.heap[w.heap.size]? = some (.cells (formA r) 75 (0, 0)) → w'.cell? ⟨w.heap.size, 0, none⟩ = some (.int .u8 (f0 r)) ∧ w'.cell? ⟨w.heap.size, 1, none⟩ = some (.int .u8 (f1 r)) ∧ w'.cell? ⟨w.heap.size, 2, none⟩ = some (.int .u8 (f2 r)) ∧ w'.cell? ⟨w.heap.size, 3, none⟩ = some (.int .u8 (f3 r)) ∧ w'.cell? ⟨w.heap.size, 4, none⟩ = some (.int .u8 (f4 r))) := by
    intro w' h
    exact ⟨cell_of_block h, cell_of_block h, cell_of_block h, cell_of_block h, cell_of_block h⟩
  obtain ⟨c0, c1, c2, c3, c4⟩ := hF.out w2 bF
  clear g2 hR2
  go_wp2_with fail
  refine (has_any r hr _).mono ?_
  rintro e w3 ⟨rfl, rfl⟩
  unfold formA
  cases hA : hasA r
  · have hp : Hid (posI r = 1) := by unfold Hid posI; rw [hA]; rfl
    have ha0 : Hid (aOf r zs = 0 ∧ bOf r zs = 0) := by unfold Hid aOf bOf; rw [hA]; exact ⟨rfl, rfl⟩
    have hs' : Hid (sz r = 1 + f3 r) := by unfold Hid; rw [hszp, hA]; rfl
    have hle : 1 + f3 r ≤ (len : Int) := by have := hs'.out; omega
    go_wp2_with fail
    go_loopw [7, 26] (fun v i wr => ∃ k : Nat, (k : Int) ≤ f3 r ∧ i = .int .u8 k ∧ v = .int .i64 (rawL zs 1 k) ∧ Hid (RdAt wr R b off len cap (1 + k)) ∧ Hid (wr.heap[w2.heap.size]? = some (.cells #[.int .u8 (zat zs 0), .int .u8 0, .int .u8 0, .int .i32 0] 43 (0, 0))) ∧ Hid (wr.heap[w.heap.size + 1]? = some (.cells #[.int .u8 0, .int .u8 0, .int .u8 0, .int .i32 0] 43 (0, 0))) ∧ Hid (wr.heap[w.heap.size]? = some (.cells (formA r) 75 (0, 0))) ∧ Hid (w.grownBy wr (some R)) ∧ Hid (w2.heap.size < wr.heap.size)) (fun _ i _ => 6 - (intOf i).toNat)
    case atStart => exact ⟨0, hf3.1, rfl, rfl, rd_alloc (rd_alloc hR2'.out _) _, (heap_skip _ _ _ (by simp)).trans (heap_at _ _ _ rfl), (heap_skip _ _ _ (by simp; omega)).trans ((heap_skip _ _ _ z2).trans bQ), (heap_skip _ _ _ (by simp; omega)).trans ((heap_skip _ _ _ z2').trans bF), gb_alloc (gb_alloc g2' _) _, show w2.heap.size < _ by simp; omega⟩
    case round =>
      obtain ⟨k, hk, rfl, rfl, hRk, hIk, hQk, hFk, hgk, hzk⟩ := hrel
      have hk4 : (k : Int) ≤ 4 := by omega
      have hrr := rawL_range hzr' 1 k
      obtain ⟨c0, c1, c2, c3, c4⟩ := hF.out wr hFk
      clear hR2' bQ bF g2'
      go_wp2_with (go_at_call 31; refine (next_at R b off len cap (1 + k) (zat zs (1 + k)) _ (by omega) hl hc' (hZ.out _ hgk _ (by omega)) hRk).mono ?_; rintro e w5 ⟨rfl, hR5, g5⟩)
      · have hst := raw_step hzr' 1 k (by omega)
        refine ⟨⟨k + 1, by omega, by go_num, by rw [hst], hR5, gb_block g5 hIk (by omega), gb_block g5 hQk (by omega), gb_block g5 hFk (by omega), gb_trans hgk g5, Nat.lt_of_lt_of_le hzk g5.size⟩, by simp [intOf]; omega⟩
      · refine (imm_any r hr _).mono ?_
        rintro e w6 ⟨rfl, g6⟩
        have hkf : (k : Int) = f3 r := by omega
        have hraw : rawL zs 1 k = rawOf r zs := by unfold rawOf; rw [hp.out, ← hkf]; rfl
        obtain ⟨hq1, hq2, hq3, hq4, hq5, hq6⟩ := raw_hi r hr
        have him : Hid (immOf r zs = if rawL zs 1 k > hi r then rawL zs 1 k + 2 * lo r else rawL zs 1 k) := by unfold Hid immOf; rw [hraw]
        have hir := immOf_range hzr' r hr
        have hrr' : rawL zs 1 k ≤ 4294967295 := by
          have h1 : (2 : Int) ^ (8 * k) = (if lo r = 0 then hi r + 1 else 2 * (hi r + 1)) := by rw [← hq3, ← hkf]; rfl
          rw [h1] at hrr
          have := hrr.2
          split at this <;> omega
        have hgt : rawL zs 1 k > hi r → lo r ≤ rawL zs 1 k + 2 * lo r ∧ rawL zs 1 k + 2 * lo r ≤ hi r := by
          intro h; have := him.out; rw [if_pos h] at this; omega
        have bI6 : Hid (w6.heap[w2.heap.size]? = some (.cells #[.int .u8 (zat zs 0), .int .u8 0, .int .u8 0, .int .i32 0] 43 (0, 0))) := g6.block hIk
        have bQ6 : Hid (w6.heap[w.heap.size + 1]? = some (.cells #[.int .u8 0, .int .u8 0, .int .u8 0, .int .i32 0] 43 (0, 0))) := g6.block hQk
        have i0 : w6.cell? ⟨w2.heap.size, 0, none⟩ = some (.int .u8 (zat zs 0)) := cell_of_block bI6
        have i1 : w6.cell? ⟨w2.heap.size, 1, none⟩ = some (.int .u8 0) := cell_of_block bI6
        have i2 : w6.cell? ⟨w2.heap.size, 2, none⟩ = some (.int .u8 0) := cell_of_block bI6
        have i3 : w6.cell? ⟨w2.heap.size, 3, none⟩ = some (.int .i32 0) := cell_of_block bI6
        have fz3 : w6.frozen? ⟨w2.heap.size, 3, none⟩ = false := frozen_of_row _ _ _ _ _ bI6
        have hQs : Hid (∀ v : Value, (w6.setCell ⟨w2.heap.size, 3, none⟩ v).heap[w.heap.size + 1]? = some (.cells #[.int .u8 0, .int .u8 0, .int .u8 0, .int .i32 0] 43 (0, 0))) := fun v => (heap_setCell_other _ _ _ _ (by simp; omega)).trans bQ6
        have hge : Hid (∀ v : Value, w.grownBy ((w6.setCell ⟨w2.heap.size, 3, none⟩ v).setRow (w.heap.size + 1) #[.int .u8 (zat zs 0), .int .u8 0, .int .u8 0, v]) (some R)) := by
          intro v
          have g7 : w.grownBy w6 (some R) := gb_trans hgk ⟨Below.os g6, Below.tape g6, Below.output g6, g6.size, fun k hk _ => Below.block g6 k hk⟩
          exact gb_setRow (gb_setCell g7 (by simp; omega) v) (by omega) _
        clear c0 c1 c2 c3 c4 g6 hIk hQk hFk hgk hRk
        rw [hraw] at hgt hrr' hrr
        have him' : Hid (immOf r zs = if rawOf r zs > hi r then rawOf r zs + 2 * lo r else rawOf r zs) := rfl
        clear him
        by_cases hbig : rawOf r zs > hi r
        · have hv := hgt hbig
          have hV : Hid (immOf r zs = rawOf r zs + 2 * lo r) := by unfold Hid; rw [him'.out, if_pos hbig]
          clear hgt him'
          go_wp2_with (refine wpList_store_row rfl 43 _ _ rfl (w.heap.size + 1) #[.int .u8 (zat zs 0), .int .u8 0, .int .u8 0, .int .i32 (rawOf r zs + 2 * lo r)] rfl rfl 43 _ (hQs.out _) sizeIns rfl (ins_one _ _ _ _) ?_)
          try simp only [Exit.inBlock, Exit.then]
          refine bodyPost_ret (results_cell_row rfl _ _ (w.heap.size + 1) 43 #[.int .u8 (zat zs 0), .int .u8 0, .int .u8 0, .int .i32 (rawOf r zs + 2 * lo r)] (0, 0) _ rfl (setRow_heap _ _ _ _ _ _ (hQs.out _)) Tryd.underlying43 rfl sizeIns) rfl ⟨?_, hge.out _⟩
          rw [ha0.out.1, ha0.out.2, hV.out]
        · have hV : Hid (immOf r zs = rawOf r zs) := by unfold Hid; rw [him'.out, if_neg hbig]
          clear hgt him'
          go_wp2_with (refine wpList_store_row rfl 43 _ _ rfl (w.heap.size + 1) #[.int .u8 (zat zs 0), .int .u8 0, .int .u8 0, .int .i32 (rawOf r zs)] rfl rfl 43 _ (hQs.out _) sizeIns rfl (ins_one _ _ _ _) ?_)
          try simp only [Exit.inBlock, Exit.then]
          refine bodyPost_ret (results_cell_row rfl _ _ (w.heap.size + 1) 43 #[.int .u8 (zat zs 0), .int .u8 0, .int .u8 0, .int .i32 (rawOf r zs)] (0, 0) _ rfl (setRow_heap _ _ _ _ _ _ (hQs.out _)) Tryd.underlying43 rfl sizeIns) rfl ⟨?_, hge.out _⟩
          rw [ha0.out.1, ha0.out.2, hV.out]
  · have hp : Hid (posI r = 2) := by unfold Hid posI; rw [hA]; rfl
    have ha0 : Hid (aOf r zs = zat zs 1 / 16 ∧ bOf r zs = zat zs 1 % 16) := by unfold Hid aOf bOf; rw [hA]; exact ⟨rfl, rfl⟩
    have hs' : Hid (sz r = 2 + f3 r) := by unfold Hid; rw [hszp, hA]; rfl
    have hl1 : 1 < len := by have := hs'.out; omega
    have hzz := zat_range hzr' 1
    have hand := and15 (zat zs 1) hzz.1 hzz.2
    clear c0 c1 c2 c4
    go_wp2_with fail
    refine (next_at R b off len cap 1 (zat zs 1) _ hl1 hl hc' ?_ ?_).mono ?_
    · exact hZ.out _ (gb_alloc (gb_alloc g2' _) _) 1 hl1
    · exact rd_alloc (rd_alloc hR2'.out _) _
    rintro e w4 ⟨rfl, hR4, g4⟩
    have z4 : w2.heap.size + 1 < w4.heap.size := Nat.lt_of_lt_of_le (by simp) g4.size
    have bF4 : Hid (w4.heap[w.heap.size]? = some (.cells (formA r) 75 (0, 0))) := gb_block g4 ((heap_skip _ _ _ (by simp; omega)).trans ((heap_skip _ _ _ z2').trans bF)) (by omega)
    have bQ4 : Hid (w4.heap[w.heap.size + 1]? = some (.cells #[.int .u8 0, .int .u8 0, .int .u8 0, .int .i32 0] 43 (0, 0))) := gb_block g4 ((heap_skip _ _ _ (by simp; omega)).trans ((heap_skip _ _ _ z2).trans bQ)) (by omega)
    have bI4 : w4.heap[w2.heap.size]? = some (.cells #[.int .u8 (zat zs 0), .int .u8 0, .int .u8 0, .int .i32 0] 43 (0, 0)) := gb_block g4 ((heap_skip _ _ _ (by simp)).trans (heap_at _ _ _ rfl)) (by omega)
    have g4' : Hid (w.grownBy w4 (some R)) := gb_trans (gb_alloc (gb_alloc g2' _) _) g4
    have i1 : w4.cell? ⟨w2.heap.size, 1, none⟩ = some (.int .u8 0) := cell_of_block bI4
    have i2 : w4.cell? ⟨w2.heap.size, 2, none⟩ = some (.int .u8 0) := cell_of_block bI4
    have fz1 : w4.frozen? ⟨w2.heap.size, 1, none⟩ = false := frozen_of_row _ _ _ _ _ bI4
    have fz2 : w4.frozen? ⟨w2.heap.size, 2, none⟩ = false := frozen_of_row _ _ _ _ _ bI4
    have bI4' : Hid (w4.heap[w2.heap.size]? = some (.cells #[.int .u8 (zat zs 0), .int .u8 0, .int .u8 0, .int .i32 0] 43 (0, 0))) := bI4
    have c3' := (hF.out w4 bF4).2.2.2.1
    have hR4' : Hid (RdAt w4 R b off len cap 2) := hR4
    have hne1 : ¬ w2.heap.size = w.heap.size := by omega
    clear g4 bI4 c3 hR4
    go_wp2_with fail
    have hle : 2 + f3 r ≤ (len : Int) := by have := hs'.out; omega
    go_loopw [7, 26] (fun v i wr => ∃ k : Nat, (k : Int) ≤ f3 r ∧ i = .int .u8 k ∧ v = .int .i64 (rawL zs 2 k) ∧ Hid (RdAt wr R b off len cap (2 + k)) ∧ Hid (wr.heap[w2.heap.size]? = some (.cells #[.int .u8 (zat zs 0), .int .u8 (zat zs 1 / 16), .int .u8 (zat zs 1 % 16), .int .i32 0] 43 (0, 0))) ∧ Hid (wr.heap[w.heap.size + 1]? = some (.cells #[.int .u8 0, .int .u8 0, .int .u8 0, .int .i32 0] 43 (0, 0))) ∧ Hid (wr.heap[w.heap.size]? = some (.cells (formA r) 75 (0, 0))) ∧ Hid (w.grownBy wr (some R)) ∧ Hid (w2.heap.size < wr.heap.size)) (fun _ i _ => 6 - (intOf i).toNat)
    case atStart => exact ⟨0, hf3.1, rfl, rfl, rd_set (rd_set hR4'.out (by simp; omega) _) (by simp; omega) _, (by
        have h1 := heap_setCell_same w4 w2.heap.size 1 _ _ (.int .u8 (zat zs 1 / 16)) bI4'
        have h2 := heap_setCell_same _ w2.heap.size 2 _ _ (.int .u8 (zat zs 1 % 16)) h1
        exact h2), (heap_setCell_other _ _ _ _ (by simp; omega)).trans ((heap_setCell_other _ _ _ _ (by simp; omega)).trans bQ4), (heap_setCell_other _ _ _ _ (by simp; omega)).trans ((heap_setCell_other _ _ _ _ (by simp; omega)).trans bF4), gb_setCell (gb_setCell g4' (by simp; omega) _) (by simp; omega) _, show w2.heap.size < _ by simp [World.setCell]; omega⟩
    case round =>
      obtain ⟨k, hk, rfl, rfl, hRk, hIk, hQk, hFk, hgk, hzk⟩ := hrel
      have hk4 : (k : Int) ≤ 4 := by omega
      have hrr := rawL_range hzr' 2 k
      obtain ⟨c0, c1, c2, c3, c4⟩ := hF.out wr hFk
      skip
      go_wp2_with (go_at_call 31; refine (next_at R b off len cap (2 + k) (zat zs (2 + k)) _ (by omega) hl hc' (hZ.out _ hgk _ (by omega)) hRk).mono ?_; rintro e w5 ⟨rfl, hR5, g5⟩)
      · have hst := raw_step hzr' 2 k (by omega)
        refine ⟨⟨k + 1, by omega, by go_num, by rw [hst], hR5, gb_block g5 hIk (by omega), gb_block g5 hQk (by omega), gb_block g5 hFk (by omega), gb_trans hgk g5, Nat.lt_of_lt_of_le hzk g5.size⟩, by simp [intOf]; omega⟩
      · refine (imm_any r hr _).mono ?_
        rintro e w6 ⟨rfl, g6⟩
        have hkf : (k : Int) = f3 r := by omega
        have hraw : rawL zs 2 k = rawOf r zs := by unfold rawOf; rw [hp.out, ← hkf]; rfl
        obtain ⟨hq1, hq2, hq3, hq4, hq5, hq6⟩ := raw_hi r hr
        have him : Hid (immOf r zs = if rawL zs 2 k > hi r then rawL zs 2 k + 2 * lo r else rawL zs 2 k) := by unfold Hid immOf; rw [hraw]
        have hir := immOf_range hzr' r hr
        have hrr' : rawL zs 2 k ≤ 4294967295 := by
          have h1 : (2 : Int) ^ (8 * k) = (if lo r = 0 then hi r + 1 else 2 * (hi r + 1)) := by rw [← hq3, ← hkf]; rfl
          rw [h1] at hrr
          have := hrr.2
          split at this <;> omega
        have hgt : rawL zs 2 k > hi r → lo r ≤ rawL zs 2 k + 2 * lo r ∧ rawL zs 2 k + 2 * lo r ≤ hi r := by
          intro h; have := him.out; rw [if_pos h] at this; omega
        have bI6 : Hid (w6.heap[w2.heap.size]? = some (.cells #[.int .u8 (zat zs 0), .int .u8 (zat zs 1 / 16), .int .u8 (zat zs 1 % 16), .int .i32 0] 43 (0, 0))) := g6.block hIk
        have bQ6 : Hid (w6.heap[w.heap.size + 1]? = some (.cells #[.int .u8 0, .int .u8 0, .int .u8 0, .int .i32 0] 43 (0, 0))) := g6.block hQk
        have i0 : w6.cell? ⟨w2.heap.size, 0, none⟩ = some (.int .u8 (zat zs 0)) := cell_of_block bI6
        have i1 : w6.cell? ⟨w2.heap.size, 1, none⟩ = some (.int .u8 (zat zs 1 / 16)) := cell_of_block bI6
        have i2 : w6.cell? ⟨w2.heap.size, 2, none⟩ = some (.int .u8 (zat zs 1 % 16)) := cell_of_block bI6
        have i3 : w6.cell? ⟨w2.heap.size, 3, none⟩ = some (.int .i32 0) := cell_of_block bI6
        have fz3 : w6.frozen? ⟨w2.heap.size, 3, none⟩ = false := frozen_of_row _ _ _ _ _ bI6
        have hQs : Hid (∀ v : Value, (w6.setCell ⟨w2.heap.size, 3, none⟩ v).heap[w.heap.size + 1]? = some (.cells #[.int .u8 0, .int .u8 0, .int .u8 0, .int .i32 0] 43 (0, 0))) := fun v => (heap_setCell_other _ _ _ _ (by simp; omega)).trans bQ6
        have hge : Hid (∀ v : Value, w.grownBy ((w6.setCell ⟨w2.heap.size, 3, none⟩ v).setRow (w.heap.size + 1) #[.int .u8 (zat zs 0), .int .u8 (zat zs 1 / 16), .int .u8 (zat zs 1 % 16), v]) (some R)) := by
          intro v
          have g7 : w.grownBy w6 (some R) := gb_trans hgk ⟨Below.os g6, Below.tape g6, Below.output g6, g6.size, fun k hk _ => Below.block g6 k hk⟩
          exact gb_setRow (gb_setCell g7 (by simp; omega) v) (by omega) _
        clear c0 c1 c2 c3 c4 g6 hIk hQk hFk hgk hRk
        rw [hraw] at hgt hrr' hrr
        have him' : Hid (immOf r zs = if rawOf r zs > hi r then rawOf r zs + 2 * lo r else rawOf r zs) := rfl
        clear him
        by_cases hbig : rawOf r zs > hi r
        · have hv := hgt hbig
          have hV : Hid (immOf r zs = rawOf r zs + 2 * lo r) := by unfold Hid; rw [him'.out, if_pos hbig]
          clear hgt him'
          go_wp2_with (refine wpList_store_row rfl 43 _ _ rfl (w.heap.size + 1) #[.int .u8 (zat zs 0), .int .u8 (zat zs 1 / 16), .int .u8 (zat zs 1 % 16), .int .i32 (rawOf r zs + 2 * lo r)] rfl rfl 43 _ (hQs.out _) sizeIns rfl (ins_one _ _ _ _) ?_)
          try simp only [Exit.inBlock, Exit.then]
          refine bodyPost_ret (results_cell_row rfl _ _ (w.heap.size + 1) 43 #[.int .u8 (zat zs 0), .int .u8 (zat zs 1 / 16), .int .u8 (zat zs 1 % 16), .int .i32 (rawOf r zs + 2 * lo r)] (0, 0) _ rfl (setRow_heap _ _ _ _ _ _ (hQs.out _)) Tryd.underlying43 rfl sizeIns) rfl ⟨?_, hge.out _⟩
          rw [ha0.out.1, ha0.out.2, hV.out]
        · have hV : Hid (immOf r zs = rawOf r zs) := by unfold Hid; rw [him'.out, if_neg hbig]
          clear hgt him'
          go_wp2_with (refine wpList_store_row rfl 43 _ _ rfl (w.heap.size + 1) #[.int .u8 (zat zs 0), .int .u8 (zat zs 1 / 16), .int .u8 (zat zs 1 % 16), .int .i32 (rawOf r zs)] rfl rfl 43 _ (hQs.out _) sizeIns rfl (ins_one _ _ _ _) ?_)
          try simp only [Exit.inBlock, Exit.then]
          refine bodyPost_ret (results_cell_row rfl _ _ (w.heap.size + 1) 43 #[.int .u8 (zat zs 0), .int .u8 (zat zs 1 / 16), .int .u8 (zat zs 1 % 16), .int .i32 (rawOf r zs)] (0, 0) _ rfl (setRow_heap _ _ _ _ _ _ (hQs.out _)) Tryd.underlying43 rfl sizeIns) rfl ⟨?_, hge.out _⟩
          rw [ha0.out.1, ha0.out.2, hV.out]
abbrev zeroI : Array Value := #[.int .u8 0, .int .u8 0, .int .u8 0, .int .i32 0]
def okD (r : Nat) (zs : List Int) (len : Nat) : Bool := r != 0 && (decide (sz r ≤ len) && (decide (aOf r zs ≤ f1 r) && decide (bOf r zs ≤ f2 r)))
def errD (r : Nat) (zs : List Int) (len : Nat) : Int := if r = 0 then 21 else if (len : Int) < sz r then 20 else if okD r zs len then 0 else 21
def insD (r : Nat) (zs : List Int) (len : Nat) : Array Value := if okD r zs len then insA (zat zs 0) (aOf r zs) (bOf r zs) (immOf r zs) else zeroI
def numD (r : Nat) (zs : List Int) (len : Nat) : Int := if okD r zs len then sz r else 0
theorem set4 {W : World} {g : Nat} {t : TypeId} {a b c d a' b' c' d' : Value} (h : W.heap[g]? = some (.cells #[a, b, c, d] t (0, 0))) :
    (((((W.setCell ⟨g, 0, none⟩ a').setCell ⟨g, 1, none⟩ b').setCell ⟨g, 2, none⟩ c').setCell ⟨g, 3, none⟩ d').drew).heap[g]? = some (.cells #[a', b', c', d'] t (0, 0)) := by
  have h1 := heap_setCell_same W g 0 _ _ a' h
  have h2 := heap_setCell_same _ g 1 _ _ b' h1
  have h3 := heap_setCell_same _ g 2 _ _ c' h2
  have h4 := heap_setCell_same _ g 3 _ _ d' h3
  exact h4
theorem frozen_old {w : World} {o : Obj} {b i : Nat} (h : b < w.heap.size) : (w.alloc o).frozen? ⟨b, i, none⟩ = w.frozen? ⟨b, i, none⟩ := World.frozen?_of_block (a := ⟨b, i, none⟩) (heap_skip _ _ _ h)
theorem results3 {P : Program} {fn : Func} {p u v : Tmp} {ty : TypeId} (h : fn.results = #[.cell p ty, .tmp u, .tmp v]) (tmps : Array Value) (w : World) (g : Nat) (t : TypeId) (cs : Array Value) (fr : Nat × Nat) (d : TypeDesc)
    (hp : tmps.getD p undef = .pointer (some ⟨g, 0, none⟩)) (hg : w.heap[g]? = some (.cells cs t fr))
    (hu : P.underlying ty = some d) (hd : (match d with | .struct _ | .array _ _ => true | _ => false) = true) (hi : (P.info? ty).map (·.size) = some cs.size) :
    (results fn tmps).run P w = .ok (.tuple #[.agg cs, tmps.getD u undef, tmps.getD v undef]) w := by
  have hp' : tmps[p]?.getD undef = .pointer (some ⟨g, 0, none⟩) := by simpa using hp
  simp [results, h, hp', asAddr, run_loadVar_row w g t ty cs fr d hg hu hd hi]
set_option maxHeartbeats 4000000 in
set_option maxRecDepth 100000 in
theorem decode_any (b off len cap : Nat) (zs : List Int) (host : Bool) (r : Nat) (hrow : rowOf (zat zs 0) host = r) (w : World) (h0 : 0 < len) (hB : Bytes w b off len cap zs) (hT : Tabs w) :
    Calls Tryd.prog 14 #[.slice (some ⟨b, off, none⟩) len cap, .bool host] w fun e w' => e = .returned (.tuple #[.agg (insD r zs len), .int .i64 (numD r zs len), .int .i64 (errD r zs len)]) ∧ Kep w w' := by
  have hr := hrow ▸ rowOf_lt (zat zs 0) host
  have hz0 := zat_range hB.fit 0
  have hc0 : w.cell? ⟨b, off, none⟩ = some (.int .u8 (zat zs 0)) := hB.cell 0 h0
  have h0' : (0 : Int) < len := by omega
  have hlm : (len : Int) ≤ 9223372036854775807 := by have h1 := hB.le; have h2 := hB.max; unfold maxLen at h2; omega
  have hbw := hB.lt
  have hl0 : ((len : Int) == 0) = false := by rw [beq_eq_false_iff_ne]; omega
  have hmf : ∀ (fn : Fn) (first cap : Array Value) (w : World), (Instr.makeFunc fn first cap).run Tryd.prog w = .ok (.func fn first cap) w := fun _ _ _ _ => rfl
  have hB' : Hid (Bytes w b off len cap zs) := hB
  have hT' : Hid (Tabs w) := hT
  clear hB hT
  go_enter Tryd.func14, Tryd.ntmps14
  go_wp2_with fail
  refine (formOf_any (zat zs 0) host _ hz0.1 hz0.2 (hT'.grown ((Kep.refl _).alloc _))).mono ?_
  rintro e w1 ⟨rfl, g1⟩
  rw [hrow]
  have G1 : Hid (Kep w w1) := kep_trans ((Kep.refl _).alloc _) g1
  have bQ : w1.heap[w.heap.size]? = some (.cells zeroI 43 (0, 0)) := g1.block (heap_at _ _ _ rfl)
  have z1 : w.heap.size < w1.heap.size := g1.lt (by simp)
  have zb : b < w1.heap.size := by omega
  have hT1 := hT'.grown G1
  have zz : 0 < w1.heap.size := by have := tabs_size hT1; omega
  obtain ⟨q0, q1, q2, q3, q4⟩ := hT1.form0
  have he := form_eq r hr
  unfold formA at he
  have bQ' : Hid (w1.heap[w.heap.size]? = some (.cells zeroI 43 (0, 0))) := bQ
  clear g1 hT1 bQ
  unfold formA
  by_cases hz : r = 0
  · subst hz
    have hz' : ((0 : Nat) == 0) = true := rfl
    rw [hz'] at he
    have hrowQ : ∀ o, (w1.alloc o).heap[w.heap.size]? = some (.cells zeroI 43 (0, 0)) := fun o => (heap_skip _ _ _ z1).trans bQ'
    go_wp2_with (refine wpList_store_row rfl 43 _ _ rfl w.heap.size zeroI rfl rfl 43 _ (hrowQ _) sizeIns rfl (ins_one _ _ _ _) ?_)
    try simp only [Exit.inBlock, Exit.then]
    refine bodyPost_ret (results3 rfl _ _ w.heap.size 43 zeroI (0, 0) _ rfl (setRow_heap _ _ _ _ _ _ (hrowQ _)) Tryd.underlying43 rfl sizeIns) rfl ⟨rfl, ?_⟩
    exact (G1.alloc _).setRow _ _ (Nat.le_refl _)
  · have hz' : (r == 0) = false := by simpa using hz
    rw [hz'] at he
    have hsz := size_any r hr
    have hok : Hid (okD r zs len = (decide (sz r ≤ len) && (decide (aOf r zs ≤ f1 r) && decide (bOf r zs ≤ f2 r)))) := by unfold Hid okD; simp [hz]
    have herr : Hid (errD r zs len = if (len : Int) < sz r then 20 else if okD r zs len then 0 else 21) := by unfold Hid errD; rw [if_neg hz]
    go_wp2_with fail
    refine (hsz _).mono ?_
    rintro e w2 ⟨rfl, rfl⟩
    unfold formA
    by_cases hlen : (len : Int) < sz r
    · have hrowQ : ∀ o1 o2 o3, (((w1.alloc o1).alloc o2).alloc o3).heap[w.heap.size]? = some (.cells zeroI 43 (0, 0)) := fun o1 o2 o3 => (heap_skip _ _ _ (by simp; omega)).trans ((heap_skip _ _ _ (by simp; omega)).trans ((heap_skip _ _ _ z1).trans bQ'))
      have hno : okD r zs len = false := by rw [hok.out]; simp; intro h; omega
      clear he hsz
      go_wp2_with (refine wpList_store_row rfl 43 _ _ rfl w.heap.size zeroI rfl rfl 43 _ (hrowQ _ _ _) sizeIns rfl (ins_one _ _ _ _) ?_)
      try simp only [Exit.inBlock, Exit.then]
      refine bodyPost_ret (results3 rfl _ _ w.heap.size 43 zeroI (0, 0) _ rfl (setRow_heap _ _ _ _ _ _ (hrowQ _ _ _)) Tryd.underlying43 rfl sizeIns) rfl ⟨?_, ?_⟩
      · rw [herr.out, if_pos hlen]; unfold insD numD; rw [hno]; rfl
      · exact (((G1.alloc _).alloc _).alloc _).setRow _ _ (Nat.le_refl _)
    · have hlen' : sz r ≤ (len : Int) := by omega
      go_wp2_with fail
      have K4 : Hid (∀ o1 o2 o3 o4, Kep w ((((w1.alloc o1).alloc o2).alloc o3).alloc o4)) := fun o1 o2 o3 o4 => (((G1.alloc _).alloc _).alloc _).alloc _
      refine (read_any r hr hz (w1.heap.size + 1 + 1 + 1) b off len cap zs _ (by omega) (by simp; omega) hB'.le hB'.max hlen' (fun i hi => ((K4.out _ _ _ _).cell hbw).trans (hB'.cell i hi)) hB'.fit ⟨some ⟨b, off, none⟩, heap_at _ _ _ (by simp), fun _ => rfl⟩).mono ?_
      rintro e w5 ⟨rfl, g5⟩
      have bQ5 : w5.heap[w.heap.size]? = some (.cells zeroI 43 (0, 0)) := gb_block g5 ((heap_skip _ _ _ (by simp; omega)).trans ((heap_skip _ _ _ (by simp; omega)).trans ((heap_skip _ _ _ (by simp; omega)).trans ((heap_skip _ _ _ z1).trans bQ')))) (by omega)
      have bF5 : w5.heap[w1.heap.size]? = some (.cells (formA r) 75 (0, 0)) := gb_block g5 ((heap_skip _ _ _ (by simp; omega)).trans ((heap_skip _ _ _ (by simp; omega)).trans ((heap_skip _ _ _ (by simp)).trans (heap_at _ _ _ rfl)))) (by omega)
      have z5 : w1.heap.size < w5.heap.size := Nat.lt_of_lt_of_le (by simp; omega) g5.size
      have z5' : w.heap.size < w5.heap.size := by omega
      have K5 : Hid (Kep w w5) := (K4.out _ _ _ _).by g5 (by intro k hk; simp at hk; omega)
      have c0 : w5.cell? ⟨w1.heap.size, 0, none⟩ = some (.int .u8 (f0 r)) := cell_of_block bF5
      have c1 : w5.cell? ⟨w1.heap.size, 1, none⟩ = some (.int .u8 (f1 r)) := cell_of_block bF5
      have c2 : w5.cell? ⟨w1.heap.size, 2, none⟩ = some (.int .u8 (f2 r)) := cell_of_block bF5
      have c3 : w5.cell? ⟨w1.heap.size, 3, none⟩ = some (.int .u8 (f3 r)) := cell_of_block bF5
      have c4 : w5.cell? ⟨w1.heap.size, 4, none⟩ = some (.int .u8 (f4 r)) := cell_of_block bF5
      have bQ5' : Hid (w5.heap[w.heap.size]? = some (.cells zeroI 43 (0, 0))) := bQ5
      clear q0 q1 q2 q3 q4 he bF5 g5 hrow hc0 zb zz hl0 h0' hlm bQ' z1 hmf hz'
      by_cases hgood : okD r zs len = true
      · have hg2 := hgood
        rw [hok.out] at hg2
        simp only [Bool.and_eq_true, decide_eq_true_eq] at hg2
        have ta : decide (aOf r zs > f1 r) = false := by rw [decide_eq_false_iff_not]; omega
        have tb : decide (bOf r zs > f2 r) = false := by rw [decide_eq_false_iff_not]; omega
        have x0 : w5.cell? ⟨w.heap.size, 0, none⟩ = some (.int .u8 0) := cell_of_block bQ5
        have x1 : w5.cell? ⟨w.heap.size, 1, none⟩ = some (.int .u8 0) := cell_of_block bQ5
        have x2 : w5.cell? ⟨w.heap.size, 2, none⟩ = some (.int .u8 0) := cell_of_block bQ5
        have x3 : w5.cell? ⟨w.heap.size, 3, none⟩ = some (.int .i32 0) := cell_of_block bQ5
        have y0 : w5.frozen? ⟨w.heap.size, 0, none⟩ = false := frozen_of_row _ _ _ _ _ bQ5
        have y1 : w5.frozen? ⟨w.heap.size, 1, none⟩ = false := frozen_of_row _ _ _ _ _ bQ5
        have y2 : w5.frozen? ⟨w.heap.size, 2, none⟩ = false := frozen_of_row _ _ _ _ _ bQ5
        have y3 : w5.frozen? ⟨w.heap.size, 3, none⟩ = false := frozen_of_row _ _ _ _ _ bQ5
        have x0a : ∀ o1, (w5.alloc o1).cell? ⟨w.heap.size, 0, none⟩ = some (.int .u8 0) := fun _ => (cell_old z5').trans x0
        have x0b : ∀ o1 o2 o3, (((w5.alloc o1).alloc o2).alloc o3).cell? ⟨w.heap.size, 0, none⟩ = some (.int .u8 0) := fun _ _ _ => (cell_old (by simp; omega)).trans ((cell_old (by simp; omega)).trans (x0a _))
        have y0a : ∀ o1, (w5.alloc o1).frozen? ⟨w.heap.size, 0, none⟩ = false := fun _ => (frozen_old z5').trans y0
        have y0b : ∀ o1 o2 o3, (((w5.alloc o1).alloc o2).alloc o3).frozen? ⟨w.heap.size, 0, none⟩ = false := fun _ _ _ => (frozen_old (by simp; omega)).trans ((frozen_old (by simp; omega)).trans (y0a _))
        have x1a : ∀ o1, (w5.alloc o1).cell? ⟨w.heap.size, 1, none⟩ = some (.int .u8 0) := fun _ => (cell_old z5').trans x1
        have x1b : ∀ o1 o2 o3, (((w5.alloc o1).alloc o2).alloc o3).cell? ⟨w.heap.size, 1, none⟩ = some (.int .u8 0) := fun _ _ _ => (cell_old (by simp; omega)).trans ((cell_old (by simp; omega)).trans (x1a _))
        have y1a : ∀ o1, (w5.alloc o1).frozen? ⟨w.heap.size, 1, none⟩ = false := fun _ => (frozen_old z5').trans y1
        have y1b : ∀ o1 o2 o3, (((w5.alloc o1).alloc o2).alloc o3).frozen? ⟨w.heap.size, 1, none⟩ = false := fun _ _ _ => (frozen_old (by simp; omega)).trans ((frozen_old (by simp; omega)).trans (y1a _))
        have x2a : ∀ o1, (w5.alloc o1).cell? ⟨w.heap.size, 2, none⟩ = some (.int .u8 0) := fun _ => (cell_old z5').trans x2
        have x2b : ∀ o1 o2 o3, (((w5.alloc o1).alloc o2).alloc o3).cell? ⟨w.heap.size, 2, none⟩ = some (.int .u8 0) := fun _ _ _ => (cell_old (by simp; omega)).trans ((cell_old (by simp; omega)).trans (x2a _))
        have y2a : ∀ o1, (w5.alloc o1).frozen? ⟨w.heap.size, 2, none⟩ = false := fun _ => (frozen_old z5').trans y2
        have y2b : ∀ o1 o2 o3, (((w5.alloc o1).alloc o2).alloc o3).frozen? ⟨w.heap.size, 2, none⟩ = false := fun _ _ _ => (frozen_old (by simp; omega)).trans ((frozen_old (by simp; omega)).trans (y2a _))
        have x3a : ∀ o1, (w5.alloc o1).cell? ⟨w.heap.size, 3, none⟩ = some (.int .i32 0) := fun _ => (cell_old z5').trans x3
        have x3b : ∀ o1 o2 o3, (((w5.alloc o1).alloc o2).alloc o3).cell? ⟨w.heap.size, 3, none⟩ = some (.int .i32 0) := fun _ _ _ => (cell_old (by simp; omega)).trans ((cell_old (by simp; omega)).trans (x3a _))
        have y3a : ∀ o1, (w5.alloc o1).frozen? ⟨w.heap.size, 3, none⟩ = false := fun _ => (frozen_old z5').trans y3
        have y3b : ∀ o1 o2 o3, (((w5.alloc o1).alloc o2).alloc o3).frozen? ⟨w.heap.size, 3, none⟩ = false := fun _ _ _ => (frozen_old (by simp; omega)).trans ((frozen_old (by simp; omega)).trans (y3a _))
        have hQ : Hid (∀ o1 o2 o3, (((w5.alloc o1).alloc o2).alloc o3).heap[w.heap.size]? = some (.cells zeroI 43 (0, 0))) := fun o1 o2 o3 => (heap_skip _ _ _ (by simp; omega)).trans ((heap_skip _ _ _ (by simp; omega)).trans ((heap_skip _ _ _ z5').trans bQ5'))
        clear bQ5 x0 x1 x2 x3 y0 y1 y2 y3
        unfold formA at hsz
        go_wp2_with fail
        go_region_with (go_at_call 29; refine (hsz _).mono ?_; rintro e w' ⟨rfl, rfl⟩)
        all_goals
          go_wp2_with fail
          try simp only [Exit.inBlock, Exit.then]
          refine bodyPost_ret (results3 rfl _ _ w.heap.size 43 (insA (zat zs 0) (aOf r zs) (bOf r zs) (immOf r zs)) (0, 0) _ rfl (set4 (hQ.out _ _ _)) Tryd.underlying43 rfl sizeIns) rfl ⟨?_, ?_⟩
          · rw [herr.out, if_neg (by omega)]; unfold insD numD; rw [hgood]; rfl
          · exact (((((((K5.alloc _).alloc _).alloc _).setCell (Nat.le_refl _) _).setCell (Nat.le_refl _) _).setCell (Nat.le_refl _) _).setCell (Nat.le_refl _) _).drew
      · have hno : okD r zs len = false := by simpa using hgood
        have hrowQ : ∀ o1, (w5.alloc o1).heap[w.heap.size]? = some (.cells zeroI 43 (0, 0)) := fun o1 => (heap_skip _ _ _ z5').trans bQ5'
        have hbad : Hid (f1 r < aOf r zs ∨ f2 r < bOf r zs) := by
          have h := hno
          rw [hok.out] at h
          simp only [Bool.and_eq_false_iff, decide_eq_false_iff_not] at h
          show f1 r < aOf r zs ∨ f2 r < bOf r zs
          omega
        clear bQ5 hsz
        go_wp2_with (refine wpList_store_row rfl 43 _ _ rfl w.heap.size zeroI rfl rfl 43 _ (hrowQ _) sizeIns rfl (ins_one _ _ _ _) ?_)
        all_goals first
          | (exfalso; have := hbad.out; omega)
          | (try simp only [Exit.inBlock, Exit.then]
             refine bodyPost_ret (results3 rfl _ _ w.heap.size 43 zeroI (0, 0) _ rfl (setRow_heap _ _ _ _ _ _ (hrowQ _)) Tryd.underlying43 rfl sizeIns) rfl ⟨?_, ?_⟩
             · rw [herr.out, if_neg (by omega)]; unfold insD numD; rw [hno]; rfl
             · exact (K5.alloc _).setRow _ _ (Nat.le_refl _))
theorem enc_fit (r : Nat) (op a b imm : Int) (h0 : 0 ≤ op) (h1 : op < 256) (ha : 0 ≤ a) (ha' : a ≤ 7) (hb : 0 ≤ b) (hb' : b ≤ 7) : ∀ n ∈ encL r op a b imm, 0 ≤ n ∧ n < 256 := by
  intro n hn
  unfold encL at hn
  rw [List.mem_append] at hn
  rcases hn with hn | hn
  · unfold preL at hn
    split at hn <;> simp at hn <;> omega
  · obtain ⟨k, _, rfl⟩ := List.mem_map.1 hn
    unfold byteAt; omega
theorem zat_left (l m : List Int) (i : Nat) (h : i < l.length) : zat (l ++ m) i = zat l i := by
  unfold zat; simp [List.getD, List.getElem?_append_left h]
theorem zat_right (l m : List Int) (i : Nat) : zat (l ++ m) (l.length + i) = zat m i := by
  unfold zat; simp [List.getD, List.getElem?_append_right]
theorem enc_op (r : Nat) (op a b imm : Int) (m : List Int) : zat (encL r op a b imm ++ m) 0 = op := by
  unfold encL preL; split <;> rfl
theorem enc_ab (r : Nat) (op a b imm : Int) (m : List Int) (h : hasA r = true) : zat (encL r op a b imm ++ m) 1 = a * 16 + b := by
  unfold encL preL; rw [h]; rfl
theorem enc_imm (r : Nat) (op a b imm : Int) (m : List Int) (k : Nat) (hk : (k : Int) < f3 r) : zat (encL r op a b imm ++ m) (posI r + k) = byteAt imm k := by
  have hk' : k < (f3 r).toNat := by omega
  have e : encL r op a b imm ++ m = preL r op a b ++ ((List.range (f3 r).toNat).map (byteAt imm) ++ m) := by unfold encL; rw [List.append_assoc]
  rw [e, ← pre_len r op a b, zat_right, zat_left _ _ _ (by simpa using hk')]
  unfold zat
  simp [List.getD, hk']
theorem read_back (r : Nat) (hr : r < 10) (op a b imm : Int) (m : List Int) (ha : 0 ≤ a) (hb : 0 ≤ b) (h : mayB r a b imm = true) :
    aOf r (encL r op a b imm ++ m) = a ∧ bOf r (encL r op a b imm ++ m) = b ∧ immOf r (encL r op a b imm ++ m) = imm := by
  obtain ⟨h0, h1, h2, h3, h4⟩ := may_parts h
  obtain ⟨p1, p2, p3, p4⟩ := f12 r hr
  obtain ⟨q1, q2, q3, q4, _, _⟩ := raw_hi r hr
  refine ⟨?_, ?_, ?_⟩
  · unfold aOf
    cases hA : hasA r
    · have := p3 hA; simp; omega
    · rw [enc_ab r op a b imm m hA]; simp; omega
  · unfold bOf
    cases hA : hasA r
    · have := p3 hA; simp; omega
    · rw [enc_ab r op a b imm m hA]; simp; omega
  · have e := enc_imm r op a b imm m
    have hraw : rawOf r (encL r op a b imm ++ m) = imm % (2 : Int) ^ (8 * (f3 r).toNat) := by
      unfold rawOf
      rcases p4 with hf | hf | hf | hf
      · rw [hf] at e ⊢
        simp [rawL]
      · rw [hf] at e ⊢
        have e0 := e 0 (by decide)
        simp only [Nat.add_zero] at e0
        simp [rawL, e0, byteAt]
      · rw [hf] at e ⊢
        have e0 := e 0 (by decide)
        have e1 := e 1 (by decide)
        simp only [Nat.add_zero] at e0
        simp [rawL, e0, e1, byteAt]; omega
      · rw [hf] at e ⊢
        have e0 := e 0 (by decide)
        have e1 := e 1 (by decide)
        have e2 := e 2 (by decide)
        have e3 := e 3 (by decide)
        simp only [Nat.add_zero] at e0
        simp [rawL, e0, e1, e2, e3, byteAt]; omega
    unfold immOf
    rw [hraw, q3]
    split at q3 <;> rename_i hl
    · rw [if_pos hl]
      have e1 : imm % (hi r + 1) = imm := Int.emod_eq_of_lt (by omega) (by omega)
      rw [e1, if_neg (by omega)]
    · rw [if_neg hl]
      have hlo := q4 hl
      by_cases hs : 0 ≤ imm
      · have e1 : imm % (2 * (hi r + 1)) = imm := Int.emod_eq_of_lt hs (by omega)
        rw [e1, if_neg (by omega)]
      · have e1 : imm % (2 * (hi r + 1)) = imm + 2 * (hi r + 1) := by
          have := Int.add_mul_emod_self_left imm (2 * (hi r + 1)) 1
          rw [← this, Int.mul_one]
          exact Int.emod_eq_of_lt (by omega) (by omega)
        rw [e1, if_pos (by omega)]; omega
theorem dec_yes {r : Nat} {zs : List Int} {len : Nat} (h : okD r zs len = true) : insD r zs len = insA (zat zs 0) (aOf r zs) (bOf r zs) (immOf r zs) ∧ numD r zs len = sz r ∧ errD r zs len = 0 ∧ r ≠ 0 ∧ sz r ≤ len ∧ aOf r zs ≤ f1 r ∧ bOf r zs ≤ f2 r := by
  have h2 := h
  unfold okD at h2
  simp only [Bool.and_eq_true, decide_eq_true_eq, bne_iff_ne] at h2
  refine ⟨?_, ?_, ?_, h2.1, h2.2.1, h2.2.2.1, h2.2.2.2⟩
  · unfold insD; rw [h]; rfl
  · unfold numD; rw [h]; rfl
  · unfold errD; rw [h, if_neg h2.1, if_neg (by omega)]; rfl
theorem itB_drop {L : List It} {k : Nat} {x : It} (h : L[k]? = some x) : (itB L).drop (itB (L.take k)).length = encH x.1 ++ itB (L.drop (k + 1)) := by
  obtain ⟨h1, h2⟩ := List.getElem?_eq_some_iff.1 h
  have e : L = L.take k ++ ([x] ++ L.drop (k + 1)) := by
    have : L.drop k = x :: L.drop (k + 1) := by rw [List.drop_eq_getElem_cons h1, h2]
    rw [show [x] ++ L.drop (k + 1) = L.drop k by rw [this]; rfl, List.take_append_drop]
  have e2 : itB L = itB (L.take k) ++ (encH x.1 ++ itB (L.drop (k + 1))) := by
    conv => lhs; rw [e]
    rw [itB_append, itB_append, itB_one]
  rw [e2, List.drop_left' rfl]
theorem itB_succ {L : List It} {k : Nat} {x : It} (h : L[k]? = some x) : (itB (L.take (k + 1))).length = (itB (L.take k)).length + (encH x.1).length := by
  rw [List.take_add_one, h]
  simp [itB_append, itB_one]
theorem GdI.fit {h : In4} (g : GdI h) : ∀ x ∈ encH h, 0 ≤ x ∧ x < 256 :=
  enc_fit _ h.1 h.2.1 h.2.2.1 h.2.2.2 g.1.1.1 g.1.1.2 g.1.2.1.1 g.ab.1 g.1.2.2.1.1 g.ab.2
theorem GdI.dec {h : In4} (g : GdI h) (m : List Int) (len : Nat) (hl : (encH h).length ≤ len) : insD (rowOf h.1 true) (encH h ++ m) len = insA h.1 h.2.1 h.2.2.1 h.2.2.2 ∧ numD (rowOf h.1 true) (encH h ++ m) len = (encH h).length ∧ errD (rowOf h.1 true) (encH h ++ m) len = 0 ∧ zat (encH h ++ m) 0 = h.1 := by
  obtain ⟨m0, m1, m2, m3, m4⟩ := may_parts g.2
  have hlen := enc_len _ h.1 h.2.1 h.2.2.1 h.2.2.2 (rowOf_lt h.1 true) m0
  have hop := enc_op (rowOf h.1 true) h.1 h.2.1 h.2.2.1 h.2.2.2 m
  obtain ⟨b1, b2, b3⟩ := read_back _ (rowOf_lt h.1 true) h.1 h.2.1 h.2.2.1 h.2.2.2 m g.1.2.1.1 g.1.2.2.1.1 g.2
  unfold encH at hl ⊢
  have hok : okD (rowOf h.1 true) (encL (rowOf h.1 true) h.1 h.2.1 h.2.2.1 h.2.2.2 ++ m) len = true := by
    unfold okD
    rw [b1, b2]
    simp only [Bool.and_eq_true, decide_eq_true_eq, bne_iff_ne]
    exact ⟨m0, by omega, m1, m2⟩
  obtain ⟨y1, y2, y3, _⟩ := dec_yes hok
  rw [b1, b2, b3, hop] at y1
  exact ⟨y1, by rw [y2, hlen], y3, hop⟩
theorem CdR.kep {w w' : World} {g o c g2 o2 c2 : Nat} {T : List It} (h : CdR w g o c g2 o2 c2 T) (k : Kep w w') : CdR w' g o c g2 o2 c2 T :=
  ⟨h.le, h.mx, h.le2, h.mx2, fun j u hj => (k.cell h.lt).trans (h.by_ j u hj), fun j u hj => (k.cell h.lt2).trans (h.ro j u hj), k.lt h.lt, k.lt h.lt2⟩
theorem CdR.row {w : World} {g o c g2 o2 c2 : Nat} {T : List It} (h : CdR w g o c g2 o2 c2 T) {k : Nat} {x : It} (hx : T[k]? = some x) :
    w.cell? ⟨g2, o2 + k * 4, none⟩ = some (.int .i64 ((itB (T.take k)).length : Int)) ∧ w.cell? ⟨g2, o2 + k * 4 + 1, none⟩ = some (.int .u32 x.2.1) ∧ w.cell? ⟨g2, o2 + k * 4 + 2, none⟩ = some (.int .i64 x.2.2.1) ∧ w.cell? ⟨g2, o2 + k * 4 + 3, none⟩ = some (.int .i64 x.2.2.2) := by
  have hr := itR_at hx
  have f : ∀ j, j < 4 → ∀ u, (rwV (((itB (T.take k)).length : Int), x.2))[j]? = some u → w.cell? ⟨g2, o2 + k * 4 + j, none⟩ = some u := fun j hj u hu => by
    rw [Nat.add_assoc]
    exact h.ro (k * 4 + j) u (by rw [rws_at hr j hj]; exact hu)
  exact ⟨f 0 (by omega) _ rfl, f 1 (by omega) _ rfl, f 2 (by omega) _ rfl, f 3 (by omega) _ rfl⟩
theorem take_lt {T : List It} (hg : ∀ x ∈ T, GdI x.1) {k : Nat} {x : It} (hx : T[k]? = some x) : (itB (T.take k)).length + (encH x.1).length ≤ (itB T).length ∧ 1 ≤ (encH x.1).length := by
  have h1 := itB_succ hx
  have h2 := itB_take_le T (k + 1)
  have h3 := (hg x (List.mem_of_getElem? hx)).len
  omega
theorem CdR.dec {w : World} {g o c g2 o2 c2 : Nat} {T : List It} (h : CdR w g o c g2 o2 c2 T) (hg : ∀ x ∈ T, GdI x.1) {k : Nat} {x : It} (hx : T[k]? = some x) (hT : Tabs w) (l cc : Nat) (hl : l = (itB T).length - (itB (T.take k)).length) (hcc : cc = c - (itB (T.take k)).length) :
    Calls Tryd.prog 14 #[.slice (some ⟨g, o + (itB (T.take k)).length, none⟩) l cc, .bool true] w fun e w' => e = .returned (.tuple #[.agg (insA x.1.1 x.1.2.1 x.1.2.2.1 x.1.2.2.2), .int .i64 (encH x.1).length, .int .i64 0]) ∧ Kep w w' := by
  have gx := hg x (List.mem_of_getElem? hx)
  obtain ⟨t1, t2⟩ := take_lt hg hx
  have hd := itB_drop hx
  obtain ⟨d1, d2, d3, d4⟩ := gx.dec (itB (T.drop (k + 1))) l (by omega)
  rw [← d1, ← d2, ← d3]
  have hle := h.le
  have hmx := h.mx
  refine decode_any g (o + (itB (T.take k)).length) l cc (encH x.1 ++ itB (T.drop (k + 1))) true (rowOf x.1.1 true) (by rw [d4]) w (by omega) ⟨by omega, by omega, fun i hi => ?_, ?_, h.lt⟩ hT
  · rw [← hd]
    have hi2 : (itB (T.take k)).length + i < (itB T).length := by omega
    have e : (bs (itB T))[(itB (T.take k)).length + i]? = some (.int .u8 (zat ((itB T).drop (itB (T.take k)).length) i)) := by
      unfold bs zat
      rw [List.getElem?_map, List.getElem?_eq_getElem hi2, List.getD_eq_getElem?_getD, List.getElem?_drop, List.getElem?_eq_getElem hi2]; rfl
    rw [Nat.add_assoc]
    exact h.by_ _ _ e
  · intro z hz
    rw [← hd] at hz
    have hz := List.mem_of_mem_drop hz
    unfold itB at hz
    obtain ⟨y, hy, hz⟩ := List.mem_flatMap.1 hz
    exact (hg y hy).fit z hz
def exN (T : List It) (k : Nat) : Nat := ((T.take k).filter fun x => decide (0 ≤ x.2.2.2)).length
theorem exN_succ {T : List It} {k : Nat} {x : It} (h : T[k]? = some x) : exN T (k + 1) = exN T k + if 0 ≤ x.2.2.2 then 1 else 0 := by
  unfold exN
  rw [List.take_add_one, h]
  by_cases hx : 0 ≤ x.2.2.2 <;> simp [List.filter_append, hx]
theorem exN_app {M S : List It} (hM : ∀ x ∈ M, x.2.2.2 = -1) (j : Nat) : exN (M ++ S) (M.length + j) = exN S j := by
  unfold exN
  rw [List.take_length_add_append, List.filter_append]
  have : M.filter (fun x => decide (0 ≤ x.2.2.2)) = [] := by
    rw [List.filter_eq_nil_iff]
    intro x hx
    rw [hM x hx]; decide
  rw [this, List.nil_append]
def CntOk (T : List It) (f : Int) (N : Nat) : Prop :=
  (∀ k x, T[k]? = some x → (x.2.2.2 < 0 ∧ exN T (k + 1) = exN T k) ∨ (0 ≤ x.2.2.2 ∧ exN T (k + 1) = exN T k + 1 ∧ 1 ≤ k ∧ x.2.2.2 = f + exN T k ∧ ∃ d, T[k - 1]? = some ((112, 0, 0, d), x.2.1, d, -1) ∧ 0 ≤ d ∧ d ≤ 255)) ∧ exN T T.length = N ∧ ∃ x, T[0]? = some x ∧ x.2.2.2 < 0
theorem cnt_app {M S : List It} {f : Int} {N : Nat} (hM : ∀ x ∈ M, x.2.2.2 = -1) (h : CntOk S f N) : CntOk (M ++ S) f N := by
  obtain ⟨h1, h2, x0, h3, h4⟩ := h
  refine ⟨fun k x hx => ?_, by rw [List.length_append, exN_app hM]; exact h2, ?_⟩
  · by_cases hk : k < M.length
    · rw [List.getElem?_append_left hk] at hx
      have e := hM x (List.mem_of_getElem? hx)
      have hx' : (M ++ S)[k]? = some x := by rw [List.getElem?_append_left hk]; exact hx
      refine .inl ⟨by omega, ?_⟩
      rw [exN_succ hx', if_neg (by omega), Nat.add_zero]
    · obtain ⟨j, rfl⟩ : ∃ j, k = M.length + j := ⟨k - M.length, by omega⟩
      rw [List.getElem?_append_right (by omega), show M.length + j - M.length = j by omega] at hx
      rw [Nat.add_assoc, exN_app hM, exN_app hM]
      rcases h1 j x hx with ⟨a, b⟩ | ⟨a, b, c, d, y, e, r⟩
      · exact .inl ⟨a, b⟩
      · refine .inr ⟨a, b, by omega, d, y, ?_, r⟩
        rw [List.getElem?_append_right (by omega), show M.length + j - 1 - M.length = j - 1 by omega]
        exact e
  · match M, hM with
    | [], _ => exact ⟨x0, h3, h4⟩
    | x :: r, hM => exact ⟨x, rfl, by have := hM x (by simp); omega⟩
theorem cnt_one (p c f : Int) (hc : 0 ≤ c ∧ c ≤ 255) (hf : 0 ≤ f) : CntOk (outI p c f) f 1 := by
  have e1 : exN (outI p c f) 1 = 0 := by simp [exN, outI]
  have e2 : exN (outI p c f) 2 = 1 := by simp [exN, outI, hf]
  have e0 : exN (outI p c f) 0 = 0 := by simp [exN]
  refine ⟨fun k x hx => ?_, e2, ?_⟩
  · match k, hx with
    | 0, hx =>
      obtain rfl : ((112, 0, 0, c), p, c, -1) = x := by simpa [outI] using hx
      exact .inl ⟨by show (-1 : Int) < 0; omega, by rw [e0, e1]⟩
    | 1, hx =>
      obtain rfl : ((113, 0, 0, f), p, 0, f) = x := by simpa [outI] using hx
      exact .inr ⟨hf, by rw [e2, e1], by omega, by rw [e1]; simp, c, rfl, hc⟩
    | k + 2, hx => simp [outI] at hx
  · exact ⟨_, rfl, by show (-1 : Int) < 0; omega⟩
theorem cnt_two (p c f q : Int) (hc : 0 ≤ c ∧ c ≤ 255) (hf : 0 ≤ f) : CntOk (outI p c f ++ outI q c (f + 1)) f 2 := by
  have hf1 : 0 ≤ f + 1 := by omega
  have e0 : exN (outI p c f ++ outI q c (f + 1)) 0 = 0 := by simp [exN]
  have e1 : exN (outI p c f ++ outI q c (f + 1)) 1 = 0 := by simp [exN, outI]
  have e2 : exN (outI p c f ++ outI q c (f + 1)) 2 = 1 := by simp [exN, outI, hf]
  have e3 : exN (outI p c f ++ outI q c (f + 1)) 3 = 1 := by simp [exN, outI, hf]
  have e4 : exN (outI p c f ++ outI q c (f + 1)) 4 = 2 := by simp [exN, outI, hf, hf1]
  refine ⟨fun k x hx => ?_, e4, ?_⟩
  · match k, hx with
    | 0, hx =>
      obtain rfl : ((112, 0, 0, c), p, c, -1) = x := by simpa [outI] using hx
      exact .inl ⟨by show (-1 : Int) < 0; omega, by rw [e0, e1]⟩
    | 1, hx =>
      obtain rfl : ((113, 0, 0, f), p, 0, f) = x := by simpa [outI] using hx
      exact .inr ⟨hf, by rw [e2, e1], by omega, by rw [e1]; simp, c, rfl, hc⟩
    | 2, hx =>
      obtain rfl : ((112, 0, 0, c), q, c, -1) = x := by simpa [outI] using hx
      exact .inl ⟨by show (-1 : Int) < 0; omega, by rw [e2, e3]⟩
    | 3, hx =>
      obtain rfl : ((113, 0, 0, f + 1), q, 0, f + 1) = x := by simpa [outI] using hx
      exact .inr ⟨hf1, by rw [e4, e3], by omega, by rw [e3]; rfl, c, rfl, hc⟩
    | k + 4, hx => simp [outI] at hx
  · exact ⟨_, rfl, by show (-1 : Int) < 0; omega⟩
theorem trI_cnt {n t first : Int} (hn : 0 ≤ n ∧ n < 4294967296) {I : List In4} {A : List Int} {la : Nat} {e : Int} (h : mayL I la e = true) (io : ∀ i ∈ I, In4.Ok i) (hf : 0 ≤ first) : CntOk (trI I A n t e first) first (if e = 3 then 2 else 1) := by
  obtain ⟨p, c, q, c0, c1, hs⟩ := trI_split (A := A) (n := n) (t := t) (first := first) h
  have hM : ∀ x ∈ runI n I A (dnI I e), x.2.2.2 = -1 := fun x hx => (run_item hn h io (Nat.le_refl _) hx).2.1
  rcases hs with ⟨h3, hs⟩ | ⟨h3, hs⟩
  · rw [hs, if_neg h3]; exact cnt_app hM (cnt_one p c first ⟨c0, by omega⟩ hf)
  · rw [hs, if_pos h3, List.append_assoc]; exact cnt_app hM (cnt_two p c first q ⟨c0, by omega⟩ hf)
theorem exN_le (T : List It) (k : Nat) : exN T k ≤ T.length := by
  unfold exN
  have h1 := List.length_filter_le (fun x : It => decide (0 ≤ x.2.2.2)) (T.take k)
  have h2 := List.length_take_le k T
  have h3 : (T.take k).length ≤ T.length := by rw [List.length_take]; omega
  omega
end Go.Proofs.YtpalbpjmjbcelaaDoor
