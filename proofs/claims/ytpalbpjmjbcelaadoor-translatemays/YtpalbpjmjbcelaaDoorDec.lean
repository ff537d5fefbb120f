/- What the reader of bytes answers, and what an instruction is read as. -/
import Derived.Test.YtpalbpjmjbcelaaDoorDecm
import Derived.Test.YtpalbpjmjbcelaaDoorEnc
import Derived.LoopTactic
namespace Go.Proofs.YtpalbpjmjbcelaaDoor
open Go.RowKit
set_option linter.unusedVariables false

/-- The reader in block R stands at byte i of the row that begins at ⟨b, off⟩. -/
def RdAt (w : World) (R b off len cap i : Nat) : Prop := ∃ ao, w.heap[R]? = some (.cells #[.slice ao (len - i) (cap - i)] 80 (0, 0)) ∧ (i < len → ao = some ⟨b, off + i, none⟩)

set_option maxHeartbeats 1000000 in
theorem dnext_of (R b o n c : Nat) (z : Int) (w : World) (h0 : w.cell? ⟨R, 0, none⟩ = some (.slice (some ⟨b, o, none⟩) (n + 1) (c + 1))) (hf : w.frozen? ⟨R, 0, none⟩ = false) (hz : w.cell? ⟨b, o, none⟩ = some (.int .u8 z))
    (hn0 : (n : Int) ≤ 9223372036854775806) (hnc : n ≤ c) (hcm : (c : Int) ≤ 9223372036854775806) :
    Calls Tryd.prog 31 #[.pointer (some ⟨R, 0, none⟩)] w fun e w' => e = .returned (.int .u8 z) ∧ ∃ ao, (0 < n → ao = some ⟨b, o + 1, none⟩) ∧ w' = w.setCell ⟨R, 0, none⟩ (.slice ao n c) := by
  go_enter Tryd.func31, Tryd.ntmps31
  go_wp2
  · go_ret
    exact ⟨rfl, _, fun h => by omega, rfl⟩
  · go_ret
    exact ⟨rfl, _, fun _ => rfl, rfl⟩

theorem next_at (R b off len cap i : Nat) (z : Int) (w : World) (hi : i < len) (hl : len ≤ cap) (hc : cap ≤ maxLen) (hz : w.cell? ⟨b, off + i, none⟩ = some (.int .u8 z)) (h : RdAt w R b off len cap i) :
    Calls Tryd.prog 31 #[.pointer (some ⟨R, 0, none⟩)] w fun e w' => e = .returned (.int .u8 z) ∧ RdAt w' R b off len cap (i + 1) ∧ w.grownBy w' (some R) := by
  obtain ⟨ao, hR, hao⟩ := h
  obtain rfl := hao hi
  unfold maxLen at hc
  obtain ⟨n, hn⟩ : ∃ n, len - i = n + 1 := ⟨len - i - 1, by omega⟩
  obtain ⟨c, hcc⟩ : ∃ c, cap - i = c + 1 := ⟨cap - i - 1, by omega⟩
  rw [hn, hcc] at hR
  have h0 : w.cell? ⟨R, 0, none⟩ = some (.slice (some ⟨b, off + i, none⟩) (n + 1) (c + 1)) := by rw [cell_of_block hR]; rfl
  refine (dnext_of R b (off + i) n c z w h0 (frozen_of_row w R 0 _ _ hR) hz (by omega) (by omega) (by omega)).mono ?_
  rintro e w' ⟨rfl, ao', hao', rfl⟩
  refine ⟨rfl, ⟨ao', ?_, fun hlt => ?_⟩, ⟨rfl, rfl, rfl, by simp [World.setCell], fun k hk hne => ?_⟩⟩
  · rw [heap_setCell_same w R 0 _ _ _ hR]
    rw [show len - (i + 1) = n by omega, show cap - (i + 1) = c by omega]
    rfl
  · rw [hao' (by omega)]; rfl
  · exact heap_setCell_other w ⟨R, 0, none⟩ k _ (by intro h; exact hne (by rw [h]))

theorem gb_block {w w' : World} {R b : Nat} {x : Obj} (hg : w.grownBy w' (some R)) (h : w.heap[b]? = some x) (hne : b ≠ R) : w'.heap[b]? = some x := by
  have hlt : b < w.heap.size := by
    rcases Nat.lt_or_ge b w.heap.size with h' | h'
    · exact h'
    · rw [Array.getElem?_eq_none h'] at h; cases h
  exact (hg.block b hlt (by simpa using hne)).trans h
theorem gb_trans {a b c : World} {R : Option Nat} (h : a.grownBy b R) (k : b.grownBy c R) : a.grownBy c R :=
  ⟨k.os.trans h.os, k.tape.trans h.tape, k.output.trans h.output, Nat.le_trans h.size k.size, fun i hi hne => (k.block i (Nat.lt_of_lt_of_le hi h.size) hne).trans (h.block i hi hne)⟩
theorem gb_alloc {a b : World} {R : Option Nat} (h : a.grownBy b R) (o : Obj) : a.grownBy (b.alloc o) R := gb_trans h (World.grownBy_alloc b o R)
theorem gb_setCell {a b : World} {R : Option Nat} (h : a.grownBy b R) {p : Addr} (hp : a.heap.size ≤ p.block) (v : Value) : a.grownBy (b.setCell p v) R :=
  ⟨h.os, h.tape, h.output, by simpa [World.setCell] using h.size, fun i hi hne => (heap_setCell_other b p i v (by omega)).trans (h.block i hi hne)⟩
theorem rd_alloc {w : World} {R b off len cap i : Nat} (h : RdAt w R b off len cap i) (o : Obj) : RdAt (w.alloc o) R b off len cap i := by
  obtain ⟨ao, h1, h2⟩ := h
  exact ⟨ao, gb_block (R := w.heap.size) (World.grownBy_alloc w o _) h1 (by rintro rfl; simp at h1), h2⟩

theorem sizeIns : (Tryd.prog.info? 43).map (·.size) = some 4 := by kernel_rfl
theorem ins_one (a b c d : Int) : (#[Value.int .u8 a, .int .u8 b, .int .u8 c, .int .i32 d]).all (·.oneCell') = true := by simp [Value.oneCell']
theorem gb_setRow {a b : World} {R : Option Nat} (h : a.grownBy b R) {g : Nat} (hg : a.heap.size ≤ g) (cs : Array Value) : a.grownBy (b.setRow g cs) R :=
  ⟨h.os, h.tape, h.output, by simpa using h.size, fun i hi hne => (setRow_other b g i cs (by omega)).trans (h.block i hi hne)⟩
theorem rd_set {w : World} {R b off len cap i : Nat} (h : RdAt w R b off len cap i) {p : Addr} (hp : R ≠ p.block) (v : Value) : RdAt (w.setCell p v) R b off len cap i := by
  obtain ⟨ao, h1, h2⟩ := h
  exact ⟨ao, (heap_setCell_other w p R v hp).trans h1, h2⟩
theorem raw_step {zs : List Int} (hz : ∀ n ∈ zs, 0 ≤ n ∧ n < 256) (p k : Nat) (hk : k ≤ 3) : bits .or .i64 (rawL zs p k) (wrap64 (wrap64 (zat zs (p + k)) * 2 ^ (8 * k))) = rawL zs p (k + 1) := by
  have h1 := rawL_range hz p k
  have h2 := zat_range hz (p + k)
  have e1 : wrap64 (zat zs (p + k)) = zat zs (p + k) := by unfold wrap64; omega
  have e2 : wrap64 (zat zs (p + k) * 2 ^ (8 * k)) = zat zs (p + k) * 2 ^ (8 * k) := by
    clear e1
    generalize zat zs (p + k) = z at h2
    unfold wrap64
    rcases (by omega : k = 0 ∨ k = 1 ∨ k = 2 ∨ k = 3) with rfl | rfl | rfl | rfl <;> simp <;> omega
  rw [e1, e2, join64 _ _ k hk h1.1 h1.2 h2.1 h2.2]
  rfl

set_option maxHeartbeats 2000000 in
set_option maxRecDepth 100000 in
theorem read_any (r : Nat) (hr : r < 10) (hr0 : r ≠ 0) (R b off len cap : Nat) (zs : List Int) (w : World) (hbR : b ≠ R) (hb : b < w.heap.size) (hl : len ≤ cap) (hc : cap ≤ maxLen) (hsz : sz r ≤ len)
    (hz : ∀ i, i < len → w.cell? ⟨b, off + i, none⟩ = some (.int .u8 (zat zs i))) (hzr : ∀ n ∈ zs, 0 ≤ n ∧ n < 256) (h : RdAt w R b off len cap 0) :
    Calls Tryd.prog 30 #[.agg (formA r), .func (Fn.func 31) #[.pointer (some ⟨R, 0, none⟩)] #[]] w fun e w' =>
      e = .returned (.agg #[.int .u8 (zat zs 0), .int .u8 (aOf r zs), .int .u8 (bOf r zs), .int .i32 (immOf r zs)]) ∧ w.grownBy w' (some R) := by
  have hRw : R < w.heap.size := by
    obtain ⟨ao, h1, _⟩ := h
    rcases Nat.lt_or_ge R w.heap.size with h' | h'
    · exact h'
    · rw [Array.getElem?_eq_none h'] at h1; cases h1
  have hZ : Hid (∀ w', w.grownBy w' (some R) → ∀ i, i < len → w'.cell? ⟨b, off + i, none⟩ = some (.int .u8 (zat zs i))) := fun w' hg i hi => hg.cell (hz i hi) (by simpa using hbR)
  have hsz1 : Hid (1 ≤ sz r) := by
    show 1 ≤ sz r
    rcases sz_cases r hr hr0 with h | h | h | h <;> omega
  have hH : Hid (RdAt w R b off len cap 0) := h
  have hzr' : Hid (∀ n ∈ zs, 0 ≤ n ∧ n < 256) := hzr
  have hc' : Hid (cap ≤ maxLen) := hc
  clear h hz hzr hc
  unfold formA
  go_enter Tryd.func30, Tryd.ntmps30
  go_wp2_with fail
  refine (next_at R b off len cap 0 (zat zs 0) _ (by have := hsz1.out; omega) hl hc' ?_ ?_).mono ?_
  · exact hZ.out _ (gb_alloc (World.grownBy_alloc w _ _) _) 0 (by have := hsz1.out; omega)
  · exact rd_alloc (rd_alloc hH.out _) _
  rintro e w2 ⟨rfl, hR2, g2⟩
  have hf3 := f3_range r hr
  have hszp := sz_is r hr hr0
  have g2' : Hid (w.grownBy w2 (some R)) := gb_trans (gb_alloc (World.grownBy_alloc w _ _) _) g2
  have bF : Hid (w2.heap[w.heap.size]? = some (.cells (formA r) 75 (0, 0))) := gb_block g2 ((heap_skip _ _ _ (by simp)).trans (heap_at _ _ _ rfl)) (by omega)
  have bQ : Hid (w2.heap[w.heap.size + 1]? = some (.cells #[.int .u8 0, .int .u8 0, .int .u8 0, .int .i32 0] 43 (0, 0))) := gb_block g2 (heap_at _ _ _ (by simp)) (by omega)
  have z2 : w.heap.size + 1 < w2.heap.size := Nat.lt_of_lt_of_le (by simp) g2.size
  have z2' : w.heap.size < w2.heap.size := by omega
  have hR2' : Hid (RdAt w2 R b off len cap 1) := hR2
  have hF : Hid (∀ w' : World, w'.heap[w.heap.size]? = some (.cells (formA r) 75 (0, 0)) → w'.cell? ⟨w.heap.size, 0, none⟩ = some (.int .u8 (f0 r)) ∧ w'.cell? ⟨w.heap.size, 1, none⟩ = some (.int .u8 (f1 r)) ∧ w'.cell? ⟨w.heap.size, 2, none⟩ = some (.int .u8 (f2 r)) ∧ w'.cell? ⟨w.heap.size, 3, none⟩ = some (.int .u8 (f3 r)) ∧ w'.cell? ⟨w.heap.size, 4, none⟩ = some (.int .u8 (f4 r))) := by
    intro w' h
    exact ⟨cell_of_block h, cell_of_block h, cell_of_block h, cell_of_block h, cell_of_block h⟩
  obtain ⟨c0, c1, c2, c3, c4⟩ := hF.out w2 bF
  clear g2 hR2
  go_wp2_with fail
  refine (has_any r hr _).mono ?_
  rintro e w3 ⟨rfl, rfl⟩
  unfold formA
  cases hA : hasA r
  · have hp : Hid (posI r = 1) := by unfold Hid posI; rw [hA]; rfl
    have ha0 : Hid (aOf r zs = 0 ∧ bOf r zs = 0) := by unfold Hid aOf bOf; rw [hA]; exact ⟨rfl, rfl⟩
    have hs' : Hid (sz r = 1 + f3 r) := by unfold Hid; rw [hszp, hA]; rfl
    have hle : 1 + f3 r ≤ (len : Int) := by have := hs'.out; omega
    go_wp2_with fail
    go_loopw [7, 26] (fun v i wr => ∃ k : Nat, (k : Int) ≤ f3 r ∧ i = .int .u8 k ∧ v = .int .i64 (rawL zs 1 k) ∧ Hid (RdAt wr R b off len cap (1 + k)) ∧ Hid (wr.heap[w2.heap.size]? = some (.cells #[.int .u8 (zat zs 0), .int .u8 0, .int .u8 0, .int .i32 0] 43 (0, 0))) ∧ Hid (wr.heap[w.heap.size + 1]? = some (.cells #[.int .u8 0, .int .u8 0, .int .u8 0, .int .i32 0] 43 (0, 0))) ∧ Hid (wr.heap[w.heap.size]? = some (.cells (formA r) 75 (0, 0))) ∧ Hid (w.grownBy wr (some R)) ∧ Hid (w2.heap.size < wr.heap.size)) (fun _ i _ => 6 - (intOf i).toNat)
    case atStart => exact ⟨0, hf3.1, rfl, rfl, rd_alloc (rd_alloc hR2'.out _) _, (heap_skip _ _ _ (by simp)).trans (heap_at _ _ _ rfl), (heap_skip _ _ _ (by simp; omega)).trans ((heap_skip _ _ _ z2).trans bQ), (heap_skip _ _ _ (by simp; omega)).trans ((heap_skip _ _ _ z2').trans bF), gb_alloc (gb_alloc g2' _) _, show w2.heap.size < _ by simp; omega⟩
    case round =>
      obtain ⟨k, hk, rfl, rfl, hRk, hIk, hQk, hFk, hgk, hzk⟩ := hrel
      have hk4 : (k : Int) ≤ 4 := by omega
      have hrr := rawL_range hzr' 1 k
      obtain ⟨c0, c1, c2, c3, c4⟩ := hF.out wr hFk
      clear hR2' bQ bF g2'
      go_wp2_with (go_at_call 31; refine (next_at R b off len cap (1 + k) (zat zs (1 + k)) _ (by omega) hl hc' (hZ.out _ hgk _ (by omega)) hRk).mono ?_; rintro e w5 ⟨rfl, hR5, g5⟩)
      · have hst := raw_step hzr' 1 k (by omega)
        refine ⟨⟨k + 1, by omega, by go_num, by rw [hst], hR5, gb_block g5 hIk (by omega), gb_block g5 hQk (by omega), gb_block g5 hFk (by omega), gb_trans hgk g5, Nat.lt_of_lt_of_le hzk g5.size⟩, by simp [intOf]; omega⟩
      · refine (imm_any r hr _).mono ?_
        rintro e w6 ⟨rfl, g6⟩
        have hkf : (k : Int) = f3 r := by omega
        have hraw : rawL zs 1 k = rawOf r zs := by unfold rawOf; rw [hp.out, ← hkf]; rfl
        obtain ⟨hq1, hq2, hq3, hq4, hq5, hq6⟩ := raw_hi r hr
        have him : Hid (immOf r zs = if rawL zs 1 k > hi r then rawL zs 1 k + 2 * lo r else rawL zs 1 k) := by unfold Hid immOf; rw [hraw]
        have hir := immOf_range hzr' r hr
        have hrr' : rawL zs 1 k ≤ 4294967295 := by
          have h1 : (2 : Int) ^ (8 * k) = (if lo r = 0 then hi r + 1 else 2 * (hi r + 1)) := by rw [← hq3, ← hkf]; rfl
          rw [h1] at hrr
          have := hrr.2
          split at this <;> omega
        have hgt : rawL zs 1 k > hi r → lo r ≤ rawL zs 1 k + 2 * lo r ∧ rawL zs 1 k + 2 * lo r ≤ hi r := by
          intro h; have := him.out; rw [if_pos h] at this; omega
        have bI6 : Hid (w6.heap[w2.heap.size]? = some (.cells #[.int .u8 (zat zs 0), .int .u8 0, .int .u8 0, .int .i32 0] 43 (0, 0))) := g6.block hIk
        have bQ6 : Hid (w6.heap[w.heap.size + 1]? = some (.cells #[.int .u8 0, .int .u8 0, .int .u8 0, .int .i32 0] 43 (0, 0))) := g6.block hQk
        have i0 : w6.cell? ⟨w2.heap.size, 0, none⟩ = some (.int .u8 (zat zs 0)) := cell_of_block bI6
        have i1 : w6.cell? ⟨w2.heap.size, 1, none⟩ = some (.int .u8 0) := cell_of_block bI6
        have i2 : w6.cell? ⟨w2.heap.size, 2, none⟩ = some (.int .u8 0) := cell_of_block bI6
        have i3 : w6.cell? ⟨w2.heap.size, 3, none⟩ = some (.int .i32 0) := cell_of_block bI6
        have fz3 : w6.frozen? ⟨w2.heap.size, 3, none⟩ = false := frozen_of_row _ _ _ _ _ bI6
        have hQs : Hid (∀ v : Value, (w6.setCell ⟨w2.heap.size, 3, none⟩ v).heap[w.heap.size + 1]? = some (.cells #[.int .u8 0, .int .u8 0, .int .u8 0, .int .i32 0] 43 (0, 0))) := fun v => (heap_setCell_other _ _ _ _ (by simp; omega)).trans bQ6
        have hge : Hid (∀ v : Value, w.grownBy ((w6.setCell ⟨w2.heap.size, 3, none⟩ v).setRow (w.heap.size + 1) #[.int .u8 (zat zs 0), .int .u8 0, .int .u8 0, v]) (some R)) := by
          intro v
          have g7 : w.grownBy w6 (some R) := gb_trans hgk ⟨Below.os g6, Below.tape g6, Below.output g6, g6.size, fun k hk _ => Below.block g6 k hk⟩
          exact gb_setRow (gb_setCell g7 (by simp; omega) v) (by omega) _
        clear c0 c1 c2 c3 c4 g6 hIk hQk hFk hgk hRk
        rw [hraw] at hgt hrr' hrr
        have him' : Hid (immOf r zs = if rawOf r zs > hi r then rawOf r zs + 2 * lo r else rawOf r zs) := rfl
        clear him
        by_cases hbig : rawOf r zs > hi r
        · have hv := hgt hbig
          have hV : Hid (immOf r zs = rawOf r zs + 2 * lo r) := by unfold Hid; rw [him'.out, if_pos hbig]
          clear hgt him'
          go_wp2_with (refine wpList_store_row rfl 43 _ _ rfl (w.heap.size + 1) #[.int .u8 (zat zs 0), .int .u8 0, .int .u8 0, .int .i32 (rawOf r zs + 2 * lo r)] rfl rfl 43 _ (hQs.out _) sizeIns rfl (ins_one _ _ _ _) ?_)
          try simp only [Exit.inBlock, Exit.then]
          refine bodyPost_ret (results_cell_row rfl _ _ (w.heap.size + 1) 43 #[.int .u8 (zat zs 0), .int .u8 0, .int .u8 0, .int .i32 (rawOf r zs + 2 * lo r)] (0, 0) _ rfl (setRow_heap _ _ _ _ _ _ (hQs.out _)) Tryd.underlying43 rfl sizeIns) rfl ⟨?_, hge.out _⟩
          rw [ha0.out.1, ha0.out.2, hV.out]
        · have hV : Hid (immOf r zs = rawOf r zs) := by unfold Hid; rw [him'.out, if_neg hbig]
          clear hgt him'
          go_wp2_with (refine wpList_store_row rfl 43 _ _ rfl (w.heap.size + 1) #[.int .u8 (zat zs 0), .int .u8 0, .int .u8 0, .int .i32 (rawOf r zs)] rfl rfl 43 _ (hQs.out _) sizeIns rfl (ins_one _ _ _ _) ?_)
          try simp only [Exit.inBlock, Exit.then]
          refine bodyPost_ret (results_cell_row rfl _ _ (w.heap.size + 1) 43 #[.int .u8 (zat zs 0), .int .u8 0, .int .u8 0, .int .i32 (rawOf r zs)] (0, 0) _ rfl (setRow_heap _ _ _ _ _ _ (hQs.out _)) Tryd.underlying43 rfl sizeIns) rfl ⟨?_, hge.out _⟩
          rw [ha0.out.1, ha0.out.2, hV.out]
  · have hp : Hid (posI r = 2) := by unfold Hid posI; rw [hA]; rfl
    have ha0 : Hid (aOf r zs = zat zs 1 / 16 ∧ bOf r zs = zat zs 1 % 16) := by unfold Hid aOf bOf; rw [hA]; exact ⟨rfl, rfl⟩
    have hs' : Hid (sz r = 2 + f3 r) := by unfold Hid; rw [hszp, hA]; rfl
    have hl1 : 1 < len := by have := hs'.out; omega
    have hzz := zat_range hzr' 1
    have hand := and15 (zat zs 1) hzz.1 hzz.2
    clear c0 c1 c2 c4
    go_wp2_with fail
    refine (next_at R b off len cap 1 (zat zs 1) _ hl1 hl hc' ?_ ?_).mono ?_
    · exact hZ.out _ (gb_alloc (gb_alloc g2' _) _) 1 hl1
    · exact rd_alloc (rd_alloc hR2'.out _) _
    rintro e w4 ⟨rfl, hR4, g4⟩
    have z4 : w2.heap.size + 1 < w4.heap.size := Nat.lt_of_lt_of_le (by simp) g4.size
    have bF4 : Hid (w4.heap[w.heap.size]? = some (.cells (formA r) 75 (0, 0))) := gb_block g4 ((heap_skip _ _ _ (by simp; omega)).trans ((heap_skip _ _ _ z2').trans bF)) (by omega)
    have bQ4 : Hid (w4.heap[w.heap.size + 1]? = some (.cells #[.int .u8 0, .int .u8 0, .int .u8 0, .int .i32 0] 43 (0, 0))) := gb_block g4 ((heap_skip _ _ _ (by simp; omega)).trans ((heap_skip _ _ _ z2).trans bQ)) (by omega)
    have bI4 : w4.heap[w2.heap.size]? = some (.cells #[.int .u8 (zat zs 0), .int .u8 0, .int .u8 0, .int .i32 0] 43 (0, 0)) := gb_block g4 ((heap_skip _ _ _ (by simp)).trans (heap_at _ _ _ rfl)) (by omega)
    have g4' : Hid (w.grownBy w4 (some R)) := gb_trans (gb_alloc (gb_alloc g2' _) _) g4
    have i1 : w4.cell? ⟨w2.heap.size, 1, none⟩ = some (.int .u8 0) := cell_of_block bI4
    have i2 : w4.cell? ⟨w2.heap.size, 2, none⟩ = some (.int .u8 0) := cell_of_block bI4
    have fz1 : w4.frozen? ⟨w2.heap.size, 1, none⟩ = false := frozen_of_row _ _ _ _ _ bI4
    have fz2 : w4.frozen? ⟨w2.heap.size, 2, none⟩ = false := frozen_of_row _ _ _ _ _ bI4
    have bI4' : Hid (w4.heap[w2.heap.size]? = some (.cells #[.int .u8 (zat zs 0), .int .u8 0, .int .u8 0, .int .i32 0] 43 (0, 0))) := bI4
    have c3' := (hF.out w4 bF4).2.2.2.1
    have hR4' : Hid (RdAt w4 R b off len cap 2) := hR4
    have hne1 : ¬ w2.heap.size = w.heap.size := by omega
    clear g4 bI4 c3 hR4
    go_wp2_with fail
    have hle : 2 + f3 r ≤ (len : Int) := by have := hs'.out; omega
    go_loopw [7, 26] (fun v i wr => ∃ k : Nat, (k : Int) ≤ f3 r ∧ i = .int .u8 k ∧ v = .int .i64 (rawL zs 2 k) ∧ Hid (RdAt wr R b off len cap (2 + k)) ∧ Hid (wr.heap[w2.heap.size]? = some (.cells #[.int .u8 (zat zs 0), .int .u8 (zat zs 1 / 16), .int .u8 (zat zs 1 % 16), .int .i32 0] 43 (0, 0))) ∧ Hid (wr.heap[w.heap.size + 1]? = some (.cells #[.int .u8 0, .int .u8 0, .int .u8 0, .int .i32 0] 43 (0, 0))) ∧ Hid (wr.heap[w.heap.size]? = some (.cells (formA r) 75 (0, 0))) ∧ Hid (w.grownBy wr (some R)) ∧ Hid (w2.heap.size < wr.heap.size)) (fun _ i _ => 6 - (intOf i).toNat)
    case atStart => exact ⟨0, hf3.1, rfl, rfl, rd_set (rd_set hR4'.out (by simp; omega) _) (by simp; omega) _, (by
        have h1 := heap_setCell_same w4 w2.heap.size 1 _ _ (.int .u8 (zat zs 1 / 16)) bI4'
        have h2 := heap_setCell_same _ w2.heap.size 2 _ _ (.int .u8 (zat zs 1 % 16)) h1
        exact h2), (heap_setCell_other _ _ _ _ (by simp; omega)).trans ((heap_setCell_other _ _ _ _ (by simp; omega)).trans bQ4), (heap_setCell_other _ _ _ _ (by simp; omega)).trans ((heap_setCell_other _ _ _ _ (by simp; omega)).trans bF4), gb_setCell (gb_setCell g4' (by simp; omega) _) (by simp; omega) _, show w2.heap.size < _ by simp [World.setCell]; omega⟩
    case round =>
      obtain ⟨k, hk, rfl, rfl, hRk, hIk, hQk, hFk, hgk, hzk⟩ := hrel
      have hk4 : (k : Int) ≤ 4 := by omega
      have hrr := rawL_range hzr' 2 k
      obtain ⟨c0, c1, c2, c3, c4⟩ := hF.out wr hFk
      skip
      go_wp2_with (go_at_call 31; refine (next_at R b off len cap (2 + k) (zat zs (2 + k)) _ (by omega) hl hc' (hZ.out _ hgk _ (by omega)) hRk).mono ?_; rintro e w5 ⟨rfl, hR5, g5⟩)
      · have hst := raw_step hzr' 2 k (by omega)
        refine ⟨⟨k + 1, by omega, by go_num, by rw [hst], hR5, gb_block g5 hIk (by omega), gb_block g5 hQk (by omega), gb_block g5 hFk (by omega), gb_trans hgk g5, Nat.lt_of_lt_of_le hzk g5.size⟩, by simp [intOf]; omega⟩
      · refine (imm_any r hr _).mono ?_
        rintro e w6 ⟨rfl, g6⟩
        have hkf : (k : Int) = f3 r := by omega
        have hraw : rawL zs 2 k = rawOf r zs := by unfold rawOf; rw [hp.out, ← hkf]; rfl
        obtain ⟨hq1, hq2, hq3, hq4, hq5, hq6⟩ := raw_hi r hr
        have him : Hid (immOf r zs = if rawL zs 2 k > hi r then rawL zs 2 k + 2 * lo r else rawL zs 2 k) := by unfold Hid immOf; rw [hraw]
        have hir := immOf_range hzr' r hr
        have hrr' : rawL zs 2 k ≤ 4294967295 := by
          have h1 : (2 : Int) ^ (8 * k) = (if lo r = 0 then hi r + 1 else 2 * (hi r + 1)) := by rw [← hq3, ← hkf]; rfl
          rw [h1] at hrr
          have := hrr.2
          split at this <;> omega
        have hgt : rawL zs 2 k > hi r → lo r ≤ rawL zs 2 k + 2 * lo r ∧ rawL zs 2 k + 2 * lo r ≤ hi r := by
          intro h; have := him.out; rw [if_pos h] at this; omega
        have bI6 : Hid (w6.heap[w2.heap.size]? = some (.cells #[.int .u8 (zat zs 0), .int .u8 (zat zs 1 / 16), .int .u8 (zat zs 1 % 16), .int .i32 0] 43 (0, 0))) := g6.block hIk
        have bQ6 : Hid (w6.heap[w.heap.size + 1]? = some (.cells #[.int .u8 0, .int .u8 0, .int .u8 0, .int .i32 0] 43 (0, 0))) := g6.block hQk
        have i0 : w6.cell? ⟨w2.heap.size, 0, none⟩ = some (.int .u8 (zat zs 0)) := cell_of_block bI6
        have i1 : w6.cell? ⟨w2.heap.size, 1, none⟩ = some (.int .u8 (zat zs 1 / 16)) := cell_of_block bI6
        have i2 : w6.cell? ⟨w2.heap.size, 2, none⟩ = some (.int .u8 (zat zs 1 % 16)) := cell_of_block bI6
        have i3 : w6.cell? ⟨w2.heap.size, 3, none⟩ = some (.int .i32 0) := cell_of_block bI6
        have fz3 : w6.frozen? ⟨w2.heap.size, 3, none⟩ = false := frozen_of_row _ _ _ _ _ bI6
        have hQs : Hid (∀ v : Value, (w6.setCell ⟨w2.heap.size, 3, none⟩ v).heap[w.heap.size + 1]? = some (.cells #[.int .u8 0, .int .u8 0, .int .u8 0, .int .i32 0] 43 (0, 0))) := fun v => (heap_setCell_other _ _ _ _ (by simp; omega)).trans bQ6
        have hge : Hid (∀ v : Value, w.grownBy ((w6.setCell ⟨w2.heap.size, 3, none⟩ v).setRow (w.heap.size + 1) #[.int .u8 (zat zs 0), .int .u8 (zat zs 1 / 16), .int .u8 (zat zs 1 % 16), v]) (some R)) := by
          intro v
          have g7 : w.grownBy w6 (some R) := gb_trans hgk ⟨Below.os g6, Below.tape g6, Below.output g6, g6.size, fun k hk _ => Below.block g6 k hk⟩
          exact gb_setRow (gb_setCell g7 (by simp; omega) v) (by omega) _
        clear c0 c1 c2 c3 c4 g6 hIk hQk hFk hgk hRk
        rw [hraw] at hgt hrr' hrr
        have him' : Hid (immOf r zs = if rawOf r zs > hi r then rawOf r zs + 2 * lo r else rawOf r zs) := rfl
        clear him
        by_cases hbig : rawOf r zs > hi r
        · have hv := hgt hbig
          have hV : Hid (immOf r zs = rawOf r zs + 2 * lo r) := by unfold Hid; rw [him'.out, if_pos hbig]
          clear hgt him'
          go_wp2_with (refine wpList_store_row rfl 43 _ _ rfl (w.heap.size + 1) #[.int .u8 (zat zs 0), .int .u8 (zat zs 1 / 16), .int .u8 (zat zs 1 % 16), .int .i32 (rawOf r zs + 2 * lo r)] rfl rfl 43 _ (hQs.out _) sizeIns rfl (ins_one _ _ _ _) ?_)
          try simp only [Exit.inBlock, Exit.then]
          refine bodyPost_ret (results_cell_row rfl _ _ (w.heap.size + 1) 43 #[.int .u8 (zat zs 0), .int .u8 (zat zs 1 / 16), .int .u8 (zat zs 1 % 16), .int .i32 (rawOf r zs + 2 * lo r)] (0, 0) _ rfl (setRow_heap _ _ _ _ _ _ (hQs.out _)) Tryd.underlying43 rfl sizeIns) rfl ⟨?_, hge.out _⟩
          rw [ha0.out.1, ha0.out.2, hV.out]
        · have hV : Hid (immOf r zs = rawOf r zs) := by unfold Hid; rw [him'.out, if_neg hbig]
          clear hgt him'
          go_wp2_with (refine wpList_store_row rfl 43 _ _ rfl (w.heap.size + 1) #[.int .u8 (zat zs 0), .int .u8 (zat zs 1 / 16), .int .u8 (zat zs 1 % 16), .int .i32 (rawOf r zs)] rfl rfl 43 _ (hQs.out _) sizeIns rfl (ins_one _ _ _ _) ?_)
          try simp only [Exit.inBlock, Exit.then]
          refine bodyPost_ret (results_cell_row rfl _ _ (w.heap.size + 1) 43 #[.int .u8 (zat zs 0), .int .u8 (zat zs 1 / 16), .int .u8 (zat zs 1 % 16), .int .i32 (rawOf r zs)] (0, 0) _ rfl (setRow_heap _ _ _ _ _ _ (hQs.out _)) Tryd.underlying43 rfl sizeIns) rfl ⟨?_, hge.out _⟩
          rw [ha0.out.1, ha0.out.2, hV.out]
end Go.Proofs.YtpalbpjmjbcelaaDoor
