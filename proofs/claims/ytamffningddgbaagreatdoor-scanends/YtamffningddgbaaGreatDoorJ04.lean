/- Part of a proof. -/
import Derived.Test.YtamffningddgbaaGreatDoorJ03
namespace Go.Proofs.YtamffningddgbaaGreatDoor
open Go.RowKit
set_option linter.unusedVariables false
set_option linter.unusedSimpArgs false
def up32 (imm : Int) : Int := if imm < 0 then imm + 4294967296 else imm
theorem byte_up (imm : Int) (k : Nat) (hk : k ≤ 3) : up32 imm / 2 ^ (8 * k) % 256 = byteAt imm k := by
  unfold up32 byteAt
  rcases (by omega : k = 0 ∨ k = 1 ∨ k = 2 ∨ k = 3) with rfl | rfl | rfl | rfl <;> simp <;> split <;> omega
theorem up_range (imm : Int) (h0 : -2147483648 ≤ imm) (h1 : imm ≤ 2147483647) : 0 ≤ up32 imm ∧ up32 imm ≤ 4294967295 := by unfold up32; split <;> omega
theorem up_step (imm : Int) (k : Nat) (h0 : 0 ≤ up32 imm) : up32 imm / 2 ^ (8 * k) / 256 = up32 imm / 2 ^ (8 * (k + 1)) := by
  rw [show (2 : Int) ^ (8 * (k + 1)) = 2 ^ (8 * k) * 256 by rw [Nat.mul_add, Int.pow_add]; rfl]
  exact Int.ediv_ediv_of_nonneg (Int.le_of_lt (Int.pow_pos (by decide)))
theorem owns_slice {w : World} {base n : Nat} {v : Value} {xs : List Value} (h : w.ownsRow base 5 1 v n xs) (hn : 0 < n) : ∃ C c, v = .slice (some ⟨C, 0, none⟩) n c ∧ base ≤ C := by
  rcases h.2 with ⟨_, h1⟩ | ⟨g, cap, cur, h1, h2, _⟩
  · omega
  · exact ⟨g, cap, h1, h2⟩
theorem one_two (x : Int) (w : World) (o1 o2 : Obj) : ∀ j u, ([Value.int .u8 x])[j]? = some u → (((w.alloc o1).alloc o2).alloc (.cells #[.int .u8 x] 5)).cell? ((⟨w.heap.size + 1 + 1, 0, none⟩ : Addr).add j) = some u := by
  intro j u hj
  match j, hj with
  | 0, hj =>
    simp at hj; subst hj
    have hs : w.heap.size + 1 + 1 = ((w.alloc o1).alloc o2).heap.size := by show _ = ((w.heap.push o1).push o2).size; simp
    exact (cell_of_block (heap_at _ _ _ hs)).trans rfl
set_option maxHeartbeats 8000000 in
set_option maxRecDepth 100000 in
theorem refEnc_any (r : Nat) (hr : r < 10) (hr0 : r ≠ 0) (op a b imm : Int) (host : Bool) (hrow : rowOf op host = r) (w : World) (h0 : 0 ≤ op) (h1 : op < 256) (h2 : -2147483648 ≤ imm) (h3 : imm ≤ 2147483647) (ha : 0 ≤ a) (ha' : a ≤ 7) (hb : 0 ≤ b) (hb' : b ≤ 7) :
    Calls Tryz.prog 43 #[.agg (insA op a b imm), .bool host] w fun e w' => ∃ C c : Nat, e = .returned (.slice (some ⟨C, 0, none⟩) (encL r op a b imm).length c) ∧
      w'.ownsRow w.heap.size 5 1 (.slice (some ⟨C, 0, none⟩) (encL r op a b imm).length c) (encL r op a b imm).length (bs (encL r op a b imm)) ∧ Kep w w' := by
  have hf3 := f3_range r hr
  have hup := up_range imm h2 h3
  obtain ⟨i5, hi5, hz0, hz1, hz2⟩ := info_parts info5
  have hfin : Hid (∀ (pre : List Int) (k : Nat), preL r op a b = pre → (k : Int) = f3 r → encL r op a b imm = pre ++ (List.range k).map (byteAt imm)) := by
    intro pre k hp hk
    unfold encL; rw [hp, ← hk]; rfl
  go_enter Tryz.func43, Tryz.ntmps43
  go_wp2_with fail
  refine (refOf_any op host _).mono ?_
  rintro e w1 ⟨rfl, g1⟩
  rw [hrow]
  have d0 := g1.cell (o := 0) (b := w.heap.size) (by simp)
  have d1 := g1.cell (o := 1) (b := w.heap.size) (by simp)
  have d2 := g1.cell (o := 2) (b := w.heap.size) (by simp)
  have d3 := g1.cell (o := 3) (b := w.heap.size) (by simp)
  simp at d0 d1 d2 d3
  have z1 : w.heap.size < w1.heap.size := g1.lt (by simp)
  have G1 : Hid (Kep w w1) := kep_trans ((Kep.refl _).alloc _) g1
  have e3' : Hid (w1.cell? ⟨w.heap.size, 3, none⟩ = some (.int .i32 imm)) := d3
  clear g1 hrow
  unfold rformA
  have hN : Hid (∀ A w5, Kep (w1.alloc (.cells #[.int .i64 (sz r), .bool A, .bool (rB r), .int .i64 (f3 r), .bool (rS r)] 144)) w5 → w5.cell? ⟨w1.heap.size, 3, none⟩ = some (.int .i64 (f3 r)) ∧ w5.cell? ⟨w.heap.size, 3, none⟩ = some (.int .i32 imm)) := by
    intro A w5 h
    exact ⟨(h.cell (by simp)).trans (by simp), (h.cell (by simp; omega)).trans ((cell_old z1).trans e3')⟩
  cases hA : hasA r
  · have hpre : Hid (preL r op a b = [op]) := by unfold Hid preL; rw [hA]; rfl
    have hown1 : Hid (((w1.alloc (.cells #[.int .i64 (sz r), .bool false, .bool (rB r), .int .i64 (f3 r), .bool (rS r)] 144)).alloc (.cells #[.int .u8 op] 5)).ownsRow (w1.heap.size + 1) 5 1 (.slice (some ⟨w1.heap.size + 1, 0, none⟩) 1 1) 1 (bs [op])) :=
      ⟨rfl, .inr ⟨_, 1, #[.int .u8 op], rfl, Nat.le_refl _, heap_at _ _ _ (by simp), Nat.le_refl _, by unfold maxLen; omega, rfl, rfl⟩⟩
    by_cases hneg : imm < 0
    · have hU : up32 imm = imm + 4294967296 := by unfold up32; rw [if_pos hneg]
      go_wp2_with fail
      go_loopw [6, 7, 8] (fun v nn i wr => ∃ (k C c : Nat), (k : Int) ≤ f3 r ∧ i = .int .i64 k ∧ nn = .int .i64 (up32 imm / 2 ^ (8 * k)) ∧ v = .slice (some ⟨C, 0, none⟩) (1 + k) c ∧ Hid (wr.ownsRow (w1.heap.size + 1) 5 1 (.slice (some ⟨C, 0, none⟩) (1 + k) c) (1 + k) (bs ([op] ++ (List.range k).map (byteAt imm)))) ∧ Hid (Kep (w1.alloc (.cells #[.int .i64 (sz r), .bool false, .bool (rB r), .int .i64 (f3 r), .bool (rS r)] 144)) wr)) (fun _ _ i _ => 6 - (intOf i).toNat)
      case atStart => exact ⟨0, w1.heap.size + 1, 1, hf3.1, rfl, by simp [hU], rfl, hown1, (Kep.refl _).alloc _⟩
      case round =>
        obtain ⟨k, C, c, hk, rfl, rfl, rfl, hownk, hgk⟩ := hrel
        have hCb : w1.heap.size + 1 ≤ C := owns_base hownk
        have hk4 : (k : Int) ≤ 4 := by omega
        obtain ⟨n3, _⟩ := hN.out false wr hgk
        have hM0 : 0 ≤ up32 imm / 2 ^ (8 * k) := Int.ediv_nonneg hup.1 (Int.le_of_lt (Int.pow_pos (by decide)))
        have hM1 : up32 imm / 2 ^ (8 * k) ≤ 4294967295 := Int.le_trans (Int.ediv_le_self _ hup.1) hup.2
        obtain ⟨M, hM⟩ : ∃ M, Hid (up32 imm / 2 ^ (8 * k) = M) := ⟨_, rfl⟩
        rw [hM.out] at hM0 hM1 ⊢
        have ht1 : M.tdiv 256 = M / 256 := Int.tdiv_eq_ediv_of_nonneg hM0
        have ht2 : M.tmod 256 = M % 256 := Int.tmod_eq_emod_of_nonneg hM0
        obtain ⟨X, hX⟩ : ∃ X, Hid (X = bs ([op] ++ (List.range k).map (byteAt imm))) := ⟨_, rfl⟩
        have hownk' : wr.ownsRow (w1.heap.size + 1) 5 1 (.slice (some ⟨C, 0, none⟩) (1 + k) c) (1 + k) X := by rw [hX.out]; exact hownk
        have hszk : w1.heap.size + 1 ≤ wr.heap.size := by have := hgk.size; simpa using this
        clear hownk
        go_wp2_with (at_builtin; refine wpList_append_own _ rfl _ _ 22 rfl (w1.heap.size + 1) 5 i5 (.int .u8 0) 1 1 Tryz.underlying22 hi5 hz0 hz1 hz2 rfl (by decide) (.slice (some ⟨C, 0, none⟩) (1 + k) c) (1 + k) X rfl (World.ownsRow.alloc hownk' _) ⟨wr.heap.size, 0, none⟩ 1 1 [.int .u8 (M % 256)] rfl rfl (one_cell _ _) (one_one _) (by unfold maxLen; omega) (by omega) (by simp; omega) ?_; intro v5 w5 hown5 hgrow5 hnil5; obtain ⟨C5, c5, hv5, hC5⟩ := owns_slice hown5 (by omega); subst hv5; have hg5 : Hid (Kep (w1.alloc (.cells #[.int .i64 (sz r), .bool false, .bool (rB r), .int .i64 (f3 r), .bool (rS r)] 144)) w5) := (hgk.alloc _).by hgrow5 (by intro j hj; have h5 : some C = some j := hj; simp at h5; subst h5; simpa using hCb); have hown6 : Hid (w5.ownsRow (w1.heap.size + 1) 5 1 (.slice (some ⟨C5, 0, none⟩) (1 + (k + 1)) c5) (1 + (k + 1)) (X ++ [.int .u8 (M % 256)])) := hown5; clear hgrow5 hown5 hnil5)
        · go_roundw
          case rel =>
            refine ⟨k + 1, C5, c5, by omega, by go_num, by rw [← up_step imm k hup.1, hM.out], rfl, ?_, hg5⟩
            have h := hown6.out
            rw [hX.out, ← hM.out, byte_up imm k (by omega)] at h
            rw [bs_step]
            exact h
          case measure => simp [intOf]; omega
        · have hkf : (k : Int) = f3 r := by omega
          have hL := hfin.out _ k hpre hkf
          have hn : (encL r op a b imm).length = 1 + k := by rw [hL]; simp; omega
          go_ret
          refine ⟨C, c, ?_, ?_, ?_⟩
          · rw [hn]; rfl
          · rw [hn, hL, ← hX.out]
            exact owns_mono hownk' (by omega)
          · exact kep_trans (G1.alloc _) hgk
    · have hU : up32 imm = imm := by unfold up32; rw [if_neg hneg]
      go_wp2_with fail
      go_loopw [6, 7, 8] (fun v nn i wr => ∃ (k C c : Nat), (k : Int) ≤ f3 r ∧ i = .int .i64 k ∧ nn = .int .i64 (up32 imm / 2 ^ (8 * k)) ∧ v = .slice (some ⟨C, 0, none⟩) (1 + k) c ∧ Hid (wr.ownsRow (w1.heap.size + 1) 5 1 (.slice (some ⟨C, 0, none⟩) (1 + k) c) (1 + k) (bs ([op] ++ (List.range k).map (byteAt imm)))) ∧ Hid (Kep (w1.alloc (.cells #[.int .i64 (sz r), .bool false, .bool (rB r), .int .i64 (f3 r), .bool (rS r)] 144)) wr)) (fun _ _ i _ => 6 - (intOf i).toNat)
      case atStart => exact ⟨0, w1.heap.size + 1, 1, hf3.1, rfl, by simp [hU], rfl, hown1, (Kep.refl _).alloc _⟩
      case round =>
        obtain ⟨k, C, c, hk, rfl, rfl, rfl, hownk, hgk⟩ := hrel
        have hCb : w1.heap.size + 1 ≤ C := owns_base hownk
        have hk4 : (k : Int) ≤ 4 := by omega
        obtain ⟨n3, _⟩ := hN.out false wr hgk
        have hM0 : 0 ≤ up32 imm / 2 ^ (8 * k) := Int.ediv_nonneg hup.1 (Int.le_of_lt (Int.pow_pos (by decide)))
        have hM1 : up32 imm / 2 ^ (8 * k) ≤ 4294967295 := Int.le_trans (Int.ediv_le_self _ hup.1) hup.2
        obtain ⟨M, hM⟩ : ∃ M, Hid (up32 imm / 2 ^ (8 * k) = M) := ⟨_, rfl⟩
        rw [hM.out] at hM0 hM1 ⊢
        have ht1 : M.tdiv 256 = M / 256 := Int.tdiv_eq_ediv_of_nonneg hM0
        have ht2 : M.tmod 256 = M % 256 := Int.tmod_eq_emod_of_nonneg hM0
        obtain ⟨X, hX⟩ : ∃ X, Hid (X = bs ([op] ++ (List.range k).map (byteAt imm))) := ⟨_, rfl⟩
        have hownk' : wr.ownsRow (w1.heap.size + 1) 5 1 (.slice (some ⟨C, 0, none⟩) (1 + k) c) (1 + k) X := by rw [hX.out]; exact hownk
        have hszk : w1.heap.size + 1 ≤ wr.heap.size := by have := hgk.size; simpa using this
        clear hownk
        go_wp2_with (at_builtin; refine wpList_append_own _ rfl _ _ 22 rfl (w1.heap.size + 1) 5 i5 (.int .u8 0) 1 1 Tryz.underlying22 hi5 hz0 hz1 hz2 rfl (by decide) (.slice (some ⟨C, 0, none⟩) (1 + k) c) (1 + k) X rfl (World.ownsRow.alloc hownk' _) ⟨wr.heap.size, 0, none⟩ 1 1 [.int .u8 (M % 256)] rfl rfl (one_cell _ _) (one_one _) (by unfold maxLen; omega) (by omega) (by simp; omega) ?_; intro v5 w5 hown5 hgrow5 hnil5; obtain ⟨C5, c5, hv5, hC5⟩ := owns_slice hown5 (by omega); subst hv5; have hg5 : Hid (Kep (w1.alloc (.cells #[.int .i64 (sz r), .bool false, .bool (rB r), .int .i64 (f3 r), .bool (rS r)] 144)) w5) := (hgk.alloc _).by hgrow5 (by intro j hj; have h5 : some C = some j := hj; simp at h5; subst h5; simpa using hCb); have hown6 : Hid (w5.ownsRow (w1.heap.size + 1) 5 1 (.slice (some ⟨C5, 0, none⟩) (1 + (k + 1)) c5) (1 + (k + 1)) (X ++ [.int .u8 (M % 256)])) := hown5; clear hgrow5 hown5 hnil5)
        · go_roundw
          case rel =>
            refine ⟨k + 1, C5, c5, by omega, by go_num, by rw [← up_step imm k hup.1, hM.out], rfl, ?_, hg5⟩
            have h := hown6.out
            rw [hX.out, ← hM.out, byte_up imm k (by omega)] at h
            rw [bs_step]
            exact h
          case measure => simp [intOf]; omega
        · have hkf : (k : Int) = f3 r := by omega
          have hL := hfin.out _ k hpre hkf
          have hn : (encL r op a b imm).length = 1 + k := by rw [hL]; simp; omega
          go_ret
          refine ⟨C, c, ?_, ?_, ?_⟩
          · rw [hn]; rfl
          · rw [hn, hL, ← hX.out]
            exact owns_mono hownk' (by omega)
          · exact kep_trans (G1.alloc _) hgk
  · have hpre : Hid (preL r op a b = [op, a * 16 + b]) := by unfold Hid preL; rw [hA]; rfl
    have hown1 : Hid (((w1.alloc (.cells #[.int .i64 (sz r), .bool true, .bool (rB r), .int .i64 (f3 r), .bool (rS r)] 144)).alloc (.cells #[.int .u8 op] 5)).ownsRow (w1.heap.size + 1) 5 1 (.slice (some ⟨w1.heap.size + 1, 0, none⟩) 1 1) 1 (bs [op])) :=
      ⟨rfl, .inr ⟨_, 1, #[.int .u8 op], rfl, Nat.le_refl _, heap_at _ _ _ (by simp), Nat.le_refl _, by unfold maxLen; omega, rfl, rfl⟩⟩
    have hg1 : Hid (Kep (w1.alloc (.cells #[.int .i64 (sz r), .bool true, .bool (rB r), .int .i64 (f3 r), .bool (rS r)] 144)) ((w1.alloc (.cells #[.int .i64 (sz r), .bool true, .bool (rB r), .int .i64 (f3 r), .bool (rS r)] 144)).alloc (.cells #[.int .u8 op] 5))) := (Kep.refl _).alloc _
    have hwr : (a * 16 + b) % 256 = a * 16 + b := by omega
    by_cases hneg : imm < 0
    · have hU : up32 imm = imm + 4294967296 := by unfold up32; rw [if_pos hneg]
      go_wp2_with (at_builtin; refine wpList_append_own _ rfl _ _ 22 rfl (w1.heap.size + 1) 5 i5 (.int .u8 0) 1 1 Tryz.underlying22 hi5 hz0 hz1 hz2 rfl (by decide) (.slice (some ⟨w1.heap.size + 1, 0, none⟩) 1 1) 1 (bs [op]) rfl (World.ownsRow.alloc hown1 _) ⟨w1.heap.size + 1 + 1, 0, none⟩ 1 1 [.int .u8 (a * 16 + b)] rfl rfl (one_two _ _ _ _) (one_one _) (by unfold maxLen; omega) (by omega) (by simp <;> omega) ?_; intro v5 w5 hown5 hgrow5 hnil5; obtain ⟨C5, c5, hv5, hC5⟩ := owns_slice hown5 (by omega); subst hv5; have hg5 : Hid (Kep (w1.alloc (.cells #[.int .i64 (sz r), .bool true, .bool (rB r), .int .i64 (f3 r), .bool (rS r)] 144)) w5) := (hg1.alloc _).by hgrow5 (by intro j hj; have h5 : some (w1.heap.size + 1) = some j := hj; simp at h5; subst h5; simp); obtain ⟨n3, n3'⟩ := hN.out true w5 hg5; have hown6 : Hid (w5.ownsRow (w1.heap.size + 1) 5 1 (.slice (some ⟨C5, 0, none⟩) 2 c5) 2 (bs [op, a * 16 + b])) := hown5; clear hgrow5 hown5 hnil5)
      go_loopw [6, 7, 8] (fun v nn i wr => ∃ (k C c : Nat), (k : Int) ≤ f3 r ∧ i = .int .i64 k ∧ nn = .int .i64 (up32 imm / 2 ^ (8 * k)) ∧ v = .slice (some ⟨C, 0, none⟩) (2 + k) c ∧ Hid (wr.ownsRow (w1.heap.size + 1) 5 1 (.slice (some ⟨C, 0, none⟩) (2 + k) c) (2 + k) (bs ([op, a * 16 + b] ++ (List.range k).map (byteAt imm)))) ∧ Hid (Kep (w1.alloc (.cells #[.int .i64 (sz r), .bool true, .bool (rB r), .int .i64 (f3 r), .bool (rS r)] 144)) wr)) (fun _ _ i _ => 6 - (intOf i).toNat)
      case atStart => exact ⟨0, C5, c5, hf3.1, rfl, by simp [hU], rfl, hown6, hg5⟩
      case round =>
        obtain ⟨k, C, c, hk, rfl, rfl, rfl, hownk, hgk⟩ := hrel
        have hCb : w1.heap.size + 1 ≤ C := owns_base hownk
        have hk4 : (k : Int) ≤ 4 := by omega
        obtain ⟨n3, _⟩ := hN.out true wr hgk
        have hM0 : 0 ≤ up32 imm / 2 ^ (8 * k) := Int.ediv_nonneg hup.1 (Int.le_of_lt (Int.pow_pos (by decide)))
        have hM1 : up32 imm / 2 ^ (8 * k) ≤ 4294967295 := Int.le_trans (Int.ediv_le_self _ hup.1) hup.2
        obtain ⟨M, hM⟩ : ∃ M, Hid (up32 imm / 2 ^ (8 * k) = M) := ⟨_, rfl⟩
        rw [hM.out] at hM0 hM1 ⊢
        have ht1 : M.tdiv 256 = M / 256 := Int.tdiv_eq_ediv_of_nonneg hM0
        have ht2 : M.tmod 256 = M % 256 := Int.tmod_eq_emod_of_nonneg hM0
        obtain ⟨X, hX⟩ : ∃ X, Hid (X = bs ([op, a * 16 + b] ++ (List.range k).map (byteAt imm))) := ⟨_, rfl⟩
        have hownk' : wr.ownsRow (w1.heap.size + 1) 5 1 (.slice (some ⟨C, 0, none⟩) (2 + k) c) (2 + k) X := by rw [hX.out]; exact hownk
        have hszk : w1.heap.size + 1 ≤ wr.heap.size := by have := hgk.size; simpa using this
        clear hownk
        go_wp2_with (at_builtin; refine wpList_append_own _ rfl _ _ 22 rfl (w1.heap.size + 1) 5 i5 (.int .u8 0) 1 1 Tryz.underlying22 hi5 hz0 hz1 hz2 rfl (by decide) (.slice (some ⟨C, 0, none⟩) (2 + k) c) (2 + k) X rfl (World.ownsRow.alloc hownk' _) ⟨wr.heap.size, 0, none⟩ 1 1 [.int .u8 (M % 256)] rfl rfl (one_cell _ _) (one_one _) (by unfold maxLen; omega) (by omega) (by simp; omega) ?_; intro v5 w5 hown5 hgrow5 hnil5; obtain ⟨C5, c5, hv5, hC5⟩ := owns_slice hown5 (by omega); subst hv5; have hg5 : Hid (Kep (w1.alloc (.cells #[.int .i64 (sz r), .bool true, .bool (rB r), .int .i64 (f3 r), .bool (rS r)] 144)) w5) := (hgk.alloc _).by hgrow5 (by intro j hj; have h5 : some C = some j := hj; simp at h5; subst h5; simpa using hCb); have hown6 : Hid (w5.ownsRow (w1.heap.size + 1) 5 1 (.slice (some ⟨C5, 0, none⟩) (2 + (k + 1)) c5) (2 + (k + 1)) (X ++ [.int .u8 (M % 256)])) := hown5; clear hgrow5 hown5 hnil5)
        · go_roundw
          case rel =>
            refine ⟨k + 1, C5, c5, by omega, by go_num, by rw [← up_step imm k hup.1, hM.out], rfl, ?_, hg5⟩
            have h := hown6.out
            rw [hX.out, ← hM.out, byte_up imm k (by omega)] at h
            rw [bs_step]
            exact h
          case measure => simp [intOf]; omega
        · have hkf : (k : Int) = f3 r := by omega
          have hL := hfin.out _ k hpre hkf
          have hn : (encL r op a b imm).length = 2 + k := by rw [hL]; simp; omega
          go_ret
          refine ⟨C, c, ?_, ?_, ?_⟩
          · rw [hn]; rfl
          · rw [hn, hL, ← hX.out]
            exact owns_mono hownk' (by omega)
          · exact kep_trans (G1.alloc _) hgk
    · have hU : up32 imm = imm := by unfold up32; rw [if_neg hneg]
      go_wp2_with (at_builtin; refine wpList_append_own _ rfl _ _ 22 rfl (w1.heap.size + 1) 5 i5 (.int .u8 0) 1 1 Tryz.underlying22 hi5 hz0 hz1 hz2 rfl (by decide) (.slice (some ⟨w1.heap.size + 1, 0, none⟩) 1 1) 1 (bs [op]) rfl (World.ownsRow.alloc hown1 _) ⟨w1.heap.size + 1 + 1, 0, none⟩ 1 1 [.int .u8 (a * 16 + b)] rfl rfl (one_two _ _ _ _) (one_one _) (by unfold maxLen; omega) (by omega) (by simp <;> omega) ?_; intro v5 w5 hown5 hgrow5 hnil5; obtain ⟨C5, c5, hv5, hC5⟩ := owns_slice hown5 (by omega); subst hv5; have hg5 : Hid (Kep (w1.alloc (.cells #[.int .i64 (sz r), .bool true, .bool (rB r), .int .i64 (f3 r), .bool (rS r)] 144)) w5) := (hg1.alloc _).by hgrow5 (by intro j hj; have h5 : some (w1.heap.size + 1) = some j := hj; simp at h5; subst h5; simp); obtain ⟨n3, n3'⟩ := hN.out true w5 hg5; have hown6 : Hid (w5.ownsRow (w1.heap.size + 1) 5 1 (.slice (some ⟨C5, 0, none⟩) 2 c5) 2 (bs [op, a * 16 + b])) := hown5; clear hgrow5 hown5 hnil5)
      go_loopw [6, 7, 8] (fun v nn i wr => ∃ (k C c : Nat), (k : Int) ≤ f3 r ∧ i = .int .i64 k ∧ nn = .int .i64 (up32 imm / 2 ^ (8 * k)) ∧ v = .slice (some ⟨C, 0, none⟩) (2 + k) c ∧ Hid (wr.ownsRow (w1.heap.size + 1) 5 1 (.slice (some ⟨C, 0, none⟩) (2 + k) c) (2 + k) (bs ([op, a * 16 + b] ++ (List.range k).map (byteAt imm)))) ∧ Hid (Kep (w1.alloc (.cells #[.int .i64 (sz r), .bool true, .bool (rB r), .int .i64 (f3 r), .bool (rS r)] 144)) wr)) (fun _ _ i _ => 6 - (intOf i).toNat)
      case atStart => exact ⟨0, C5, c5, hf3.1, rfl, by simp [hU], rfl, hown6, hg5⟩
      case round =>
        obtain ⟨k, C, c, hk, rfl, rfl, rfl, hownk, hgk⟩ := hrel
        have hCb : w1.heap.size + 1 ≤ C := owns_base hownk
        have hk4 : (k : Int) ≤ 4 := by omega
        obtain ⟨n3, _⟩ := hN.out true wr hgk
        have hM0 : 0 ≤ up32 imm / 2 ^ (8 * k) := Int.ediv_nonneg hup.1 (Int.le_of_lt (Int.pow_pos (by decide)))
        have hM1 : up32 imm / 2 ^ (8 * k) ≤ 4294967295 := Int.le_trans (Int.ediv_le_self _ hup.1) hup.2
        obtain ⟨M, hM⟩ : ∃ M, Hid (up32 imm / 2 ^ (8 * k) = M) := ⟨_, rfl⟩
        rw [hM.out] at hM0 hM1 ⊢
        have ht1 : M.tdiv 256 = M / 256 := Int.tdiv_eq_ediv_of_nonneg hM0
        have ht2 : M.tmod 256 = M % 256 := Int.tmod_eq_emod_of_nonneg hM0
        obtain ⟨X, hX⟩ : ∃ X, Hid (X = bs ([op, a * 16 + b] ++ (List.range k).map (byteAt imm))) := ⟨_, rfl⟩
        have hownk' : wr.ownsRow (w1.heap.size + 1) 5 1 (.slice (some ⟨C, 0, none⟩) (2 + k) c) (2 + k) X := by rw [hX.out]; exact hownk
        have hszk : w1.heap.size + 1 ≤ wr.heap.size := by have := hgk.size; simpa using this
        clear hownk
        go_wp2_with (at_builtin; refine wpList_append_own _ rfl _ _ 22 rfl (w1.heap.size + 1) 5 i5 (.int .u8 0) 1 1 Tryz.underlying22 hi5 hz0 hz1 hz2 rfl (by decide) (.slice (some ⟨C, 0, none⟩) (2 + k) c) (2 + k) X rfl (World.ownsRow.alloc hownk' _) ⟨wr.heap.size, 0, none⟩ 1 1 [.int .u8 (M % 256)] rfl rfl (one_cell _ _) (one_one _) (by unfold maxLen; omega) (by omega) (by simp; omega) ?_; intro v5 w5 hown5 hgrow5 hnil5; obtain ⟨C5, c5, hv5, hC5⟩ := owns_slice hown5 (by omega); subst hv5; have hg5 : Hid (Kep (w1.alloc (.cells #[.int .i64 (sz r), .bool true, .bool (rB r), .int .i64 (f3 r), .bool (rS r)] 144)) w5) := (hgk.alloc _).by hgrow5 (by intro j hj; have h5 : some C = some j := hj; simp at h5; subst h5; simpa using hCb); have hown6 : Hid (w5.ownsRow (w1.heap.size + 1) 5 1 (.slice (some ⟨C5, 0, none⟩) (2 + (k + 1)) c5) (2 + (k + 1)) (X ++ [.int .u8 (M % 256)])) := hown5; clear hgrow5 hown5 hnil5)
        · go_roundw
          case rel =>
            refine ⟨k + 1, C5, c5, by omega, by go_num, by rw [← up_step imm k hup.1, hM.out], rfl, ?_, hg5⟩
            have h := hown6.out
            rw [hX.out, ← hM.out, byte_up imm k (by omega)] at h
            rw [bs_step]
            exact h
          case measure => simp [intOf]; omega
        · have hkf : (k : Int) = f3 r := by omega
          have hL := hfin.out _ k hpre hkf
          have hn : (encL r op a b imm).length = 2 + k := by rw [hL]; simp; omega
          go_ret
          refine ⟨C, c, ?_, ?_, ?_⟩
          · rw [hn]; rfl
          · rw [hn, hL, ← hX.out]
            exact owns_mono hownk' (by omega)
          · exact kep_trans (G1.alloc _) hgk
set_option maxHeartbeats 4000000 in
set_option maxRecDepth 100000 in
theorem refMay0 (op a b imm : Int) (host : Bool) (hrow : rowOf op host = 0) (w : World) (h0 : 0 ≤ a) (h1 : 0 ≤ b) (h2 : -2147483648 ≤ imm) (h3 : imm ≤ 2147483647) :
    Calls Tryz.prog 42 #[.agg (insA op a b imm), .bool host] w fun e w' => e = .returned (.bool (mayB 0 a b imm)) ∧ Kep w w' := by
  have em : Hid (∀ a b imm, mayB 0 a b imm = (false && (((decide (a ≤ 0) && decide (b ≤ 0)) && decide (0 ≤ imm)) && decide (imm ≤ 0)))) := fun _ _ _ => rfl
  go_enter Tryz.func42, Tryz.ntmps42
  go_wp2_with fail
  refine (refOf_any op host _).mono ?_
  rintro e w1 ⟨rfl, g1⟩
  rw [hrow]
  have G1 : Hid (Kep w w1) := kep_trans ((Kep.refl _).alloc _) g1
  have d1 := g1.cell (o := 1) (b := w.heap.size) (by simp)
  have d2 := g1.cell (o := 2) (b := w.heap.size) (by simp)
  have d3 := g1.cell (o := 3) (b := w.heap.size) (by simp)
  simp at d1 d2 d3
  have z1 : w.heap.size < w1.heap.size := Nat.lt_of_lt_of_le (by simp) g1.size
  have er : rformA 0 = #[.int .i64 0, .bool false, .bool false, .int .i64 0, .bool false] := rfl
  rw [er]
  clear hrow g1 er
  go_wp2_with fail
  all_goals (try go_wp2_with fail)
  all_goals go_ret
  all_goals exact ⟨ret_bool (by rw [em.out]; clear em d1 d2 d3 z1 G1; first | (simp_all; done) | (simp_all <;> omega) | (simp_all; intros; omega) | (rw [Bool.eq_iff_iff]; simp_all <;> omega) | (rw [Bool.eq_iff_iff]; simp_all; constructor <;> intros <;> omega)), G1.alloc _⟩
set_option maxHeartbeats 4000000 in
set_option maxRecDepth 100000 in
theorem refMay1 (op a b imm : Int) (host : Bool) (hrow : rowOf op host = 1) (w : World) (h0 : 0 ≤ a) (h1 : 0 ≤ b) (h2 : -2147483648 ≤ imm) (h3 : imm ≤ 2147483647) :
    Calls Tryz.prog 42 #[.agg (insA op a b imm), .bool host] w fun e w' => e = .returned (.bool (mayB 1 a b imm)) ∧ Kep w w' := by
  have em : Hid (∀ a b imm, mayB 1 a b imm = (true && (((decide (a ≤ 0) && decide (b ≤ 0)) && decide (0 ≤ imm)) && decide (imm ≤ 0)))) := fun _ _ _ => rfl
  go_enter Tryz.func42, Tryz.ntmps42
  go_wp2_with fail
  refine (refOf_any op host _).mono ?_
  rintro e w1 ⟨rfl, g1⟩
  rw [hrow]
  have G1 : Hid (Kep w w1) := kep_trans ((Kep.refl _).alloc _) g1
  have d1 := g1.cell (o := 1) (b := w.heap.size) (by simp)
  have d2 := g1.cell (o := 2) (b := w.heap.size) (by simp)
  have d3 := g1.cell (o := 3) (b := w.heap.size) (by simp)
  simp at d1 d2 d3
  have z1 : w.heap.size < w1.heap.size := Nat.lt_of_lt_of_le (by simp) g1.size
  have er : rformA 1 = #[.int .i64 1, .bool false, .bool false, .int .i64 0, .bool false] := rfl
  rw [er]
  clear hrow g1 er
  go_wp2_with fail
  all_goals (try go_wp2_with fail)
  all_goals go_ret
  all_goals exact ⟨ret_bool (by rw [em.out]; clear em d1 d2 d3 z1 G1; first | (simp_all; done) | (simp_all <;> omega) | (simp_all; intros; omega) | (rw [Bool.eq_iff_iff]; simp_all <;> omega) | (rw [Bool.eq_iff_iff]; simp_all; constructor <;> intros <;> omega)), G1.alloc _⟩
set_option maxHeartbeats 4000000 in
set_option maxRecDepth 100000 in
theorem refMay2 (op a b imm : Int) (host : Bool) (hrow : rowOf op host = 2) (w : World) (h0 : 0 ≤ a) (h1 : 0 ≤ b) (h2 : -2147483648 ≤ imm) (h3 : imm ≤ 2147483647) :
    Calls Tryz.prog 42 #[.agg (insA op a b imm), .bool host] w fun e w' => e = .returned (.bool (mayB 2 a b imm)) ∧ Kep w w' := by
  have em : Hid (∀ a b imm, mayB 2 a b imm = (true && (((decide (a ≤ 7) && decide (b ≤ 0)) && decide (0 ≤ imm)) && decide (imm ≤ 0)))) := fun _ _ _ => rfl
  go_enter Tryz.func42, Tryz.ntmps42
  go_wp2_with fail
  refine (refOf_any op host _).mono ?_
  rintro e w1 ⟨rfl, g1⟩
  rw [hrow]
  have G1 : Hid (Kep w w1) := kep_trans ((Kep.refl _).alloc _) g1
  have d1 := g1.cell (o := 1) (b := w.heap.size) (by simp)
  have d2 := g1.cell (o := 2) (b := w.heap.size) (by simp)
  have d3 := g1.cell (o := 3) (b := w.heap.size) (by simp)
  simp at d1 d2 d3
  have z1 : w.heap.size < w1.heap.size := Nat.lt_of_lt_of_le (by simp) g1.size
  have er : rformA 2 = #[.int .i64 2, .bool true, .bool false, .int .i64 0, .bool false] := rfl
  rw [er]
  clear hrow g1 er
  go_wp2_with fail
  all_goals (try go_wp2_with fail)
  all_goals go_ret
  all_goals exact ⟨ret_bool (by rw [em.out]; clear em d1 d2 d3 z1 G1; first | (simp_all; done) | (simp_all <;> omega) | (simp_all; intros; omega) | (rw [Bool.eq_iff_iff]; simp_all <;> omega) | (rw [Bool.eq_iff_iff]; simp_all; constructor <;> intros <;> omega)), G1.alloc _⟩
set_option maxHeartbeats 4000000 in
set_option maxRecDepth 100000 in
theorem refMay3 (op a b imm : Int) (host : Bool) (hrow : rowOf op host = 3) (w : World) (h0 : 0 ≤ a) (h1 : 0 ≤ b) (h2 : -2147483648 ≤ imm) (h3 : imm ≤ 2147483647) :
    Calls Tryz.prog 42 #[.agg (insA op a b imm), .bool host] w fun e w' => e = .returned (.bool (mayB 3 a b imm)) ∧ Kep w w' := by
  have em : Hid (∀ a b imm, mayB 3 a b imm = (true && (((decide (a ≤ 7) && decide (b ≤ 7)) && decide (0 ≤ imm)) && decide (imm ≤ 0)))) := fun _ _ _ => rfl
  go_enter Tryz.func42, Tryz.ntmps42
  go_wp2_with fail
  refine (refOf_any op host _).mono ?_
  rintro e w1 ⟨rfl, g1⟩
  rw [hrow]
  have G1 : Hid (Kep w w1) := kep_trans ((Kep.refl _).alloc _) g1
  have d1 := g1.cell (o := 1) (b := w.heap.size) (by simp)
  have d2 := g1.cell (o := 2) (b := w.heap.size) (by simp)
  have d3 := g1.cell (o := 3) (b := w.heap.size) (by simp)
  simp at d1 d2 d3
  have z1 : w.heap.size < w1.heap.size := Nat.lt_of_lt_of_le (by simp) g1.size
  have er : rformA 3 = #[.int .i64 2, .bool true, .bool true, .int .i64 0, .bool false] := rfl
  rw [er]
  clear hrow g1 er
  go_wp2_with fail
  all_goals (try go_wp2_with fail)
  all_goals go_ret
  all_goals exact ⟨ret_bool (by rw [em.out]; clear em d1 d2 d3 z1 G1; first | (simp_all; done) | (simp_all <;> omega) | (simp_all; intros; omega) | (rw [Bool.eq_iff_iff]; simp_all <;> omega) | (rw [Bool.eq_iff_iff]; simp_all; constructor <;> intros <;> omega)), G1.alloc _⟩
set_option maxHeartbeats 4000000 in
set_option maxRecDepth 100000 in
theorem refMay4 (op a b imm : Int) (host : Bool) (hrow : rowOf op host = 4) (w : World) (h0 : 0 ≤ a) (h1 : 0 ≤ b) (h2 : -2147483648 ≤ imm) (h3 : imm ≤ 2147483647) :
    Calls Tryz.prog 42 #[.agg (insA op a b imm), .bool host] w fun e w' => e = .returned (.bool (mayB 4 a b imm)) ∧ Kep w w' := by
  have em : Hid (∀ a b imm, mayB 4 a b imm = (true && (((decide (a ≤ 0) && decide (b ≤ 0)) && decide (0 ≤ imm)) && decide (imm ≤ 255)))) := fun _ _ _ => rfl
  go_enter Tryz.func42, Tryz.ntmps42
  go_wp2_with fail
  refine (refOf_any op host _).mono ?_
  rintro e w1 ⟨rfl, g1⟩
  rw [hrow]
  have G1 : Hid (Kep w w1) := kep_trans ((Kep.refl _).alloc _) g1
  have d1 := g1.cell (o := 1) (b := w.heap.size) (by simp)
  have d2 := g1.cell (o := 2) (b := w.heap.size) (by simp)
  have d3 := g1.cell (o := 3) (b := w.heap.size) (by simp)
  simp at d1 d2 d3
  have z1 : w.heap.size < w1.heap.size := Nat.lt_of_lt_of_le (by simp) g1.size
  have er : rformA 4 = #[.int .i64 2, .bool false, .bool false, .int .i64 1, .bool false] := rfl
  rw [er]
  clear hrow g1 er
  go_wp2_with fail
  all_goals (try go_rounds 2)
  all_goals (try go_wp2_with fail)
  all_goals go_ret
  all_goals exact ⟨ret_bool (by rw [em.out]; clear em d1 d2 d3 z1 G1; first | (simp_all; done) | (simp_all <;> omega) | (simp_all; intros; omega) | (rw [Bool.eq_iff_iff]; simp_all <;> omega) | (rw [Bool.eq_iff_iff]; simp_all; constructor <;> intros <;> omega)), G1.alloc _⟩
set_option maxHeartbeats 4000000 in
set_option maxRecDepth 100000 in
theorem refMay5 (op a b imm : Int) (host : Bool) (hrow : rowOf op host = 5) (w : World) (h0 : 0 ≤ a) (h1 : 0 ≤ b) (h2 : -2147483648 ≤ imm) (h3 : imm ≤ 2147483647) :
    Calls Tryz.prog 42 #[.agg (insA op a b imm), .bool host] w fun e w' => e = .returned (.bool (mayB 5 a b imm)) ∧ Kep w w' := by
  have em : Hid (∀ a b imm, mayB 5 a b imm = (true && (((decide (a ≤ 7) && decide (b ≤ 0)) && decide (-128 ≤ imm)) && decide (imm ≤ 127)))) := fun _ _ _ => rfl
  go_enter Tryz.func42, Tryz.ntmps42
  go_wp2_with fail
  refine (refOf_any op host _).mono ?_
  rintro e w1 ⟨rfl, g1⟩
  rw [hrow]
  have G1 : Hid (Kep w w1) := kep_trans ((Kep.refl _).alloc _) g1
  have d1 := g1.cell (o := 1) (b := w.heap.size) (by simp)
  have d2 := g1.cell (o := 2) (b := w.heap.size) (by simp)
  have d3 := g1.cell (o := 3) (b := w.heap.size) (by simp)
  simp at d1 d2 d3
  have z1 : w.heap.size < w1.heap.size := Nat.lt_of_lt_of_le (by simp) g1.size
  have er : rformA 5 = #[.int .i64 3, .bool true, .bool false, .int .i64 1, .bool true] := rfl
  rw [er]
  clear hrow g1 er
  go_wp2_with fail
  all_goals (try go_rounds 2)
  all_goals (try go_wp2_with fail)
  all_goals go_ret
  all_goals exact ⟨ret_bool (by rw [em.out]; clear em d1 d2 d3 z1 G1; first | (simp_all; done) | (simp_all <;> omega) | (simp_all; intros; omega) | (rw [Bool.eq_iff_iff]; simp_all <;> omega) | (rw [Bool.eq_iff_iff]; simp_all; constructor <;> intros <;> omega)), G1.alloc _⟩
set_option maxHeartbeats 4000000 in
set_option maxRecDepth 100000 in
theorem refMay6 (op a b imm : Int) (host : Bool) (hrow : rowOf op host = 6) (w : World) (h0 : 0 ≤ a) (h1 : 0 ≤ b) (h2 : -2147483648 ≤ imm) (h3 : imm ≤ 2147483647) :
    Calls Tryz.prog 42 #[.agg (insA op a b imm), .bool host] w fun e w' => e = .returned (.bool (mayB 6 a b imm)) ∧ Kep w w' := by
  have em : Hid (∀ a b imm, mayB 6 a b imm = (true && (((decide (a ≤ 7) && decide (b ≤ 7)) && decide (-128 ≤ imm)) && decide (imm ≤ 127)))) := fun _ _ _ => rfl
  go_enter Tryz.func42, Tryz.ntmps42
  go_wp2_with fail
  refine (refOf_any op host _).mono ?_
  rintro e w1 ⟨rfl, g1⟩
  rw [hrow]
  have G1 : Hid (Kep w w1) := kep_trans ((Kep.refl _).alloc _) g1
  have d1 := g1.cell (o := 1) (b := w.heap.size) (by simp)
  have d2 := g1.cell (o := 2) (b := w.heap.size) (by simp)
  have d3 := g1.cell (o := 3) (b := w.heap.size) (by simp)
  simp at d1 d2 d3
  have z1 : w.heap.size < w1.heap.size := Nat.lt_of_lt_of_le (by simp) g1.size
  have er : rformA 6 = #[.int .i64 3, .bool true, .bool true, .int .i64 1, .bool true] := rfl
  rw [er]
  clear hrow g1 er
  go_wp2_with fail
  all_goals (try go_rounds 2)
  all_goals (try go_wp2_with fail)
  all_goals go_ret
  all_goals exact ⟨ret_bool (by rw [em.out]; clear em d1 d2 d3 z1 G1; first | (simp_all; done) | (simp_all <;> omega) | (simp_all; intros; omega) | (rw [Bool.eq_iff_iff]; simp_all <;> omega) | (rw [Bool.eq_iff_iff]; simp_all; constructor <;> intros <;> omega)), G1.alloc _⟩
set_option maxHeartbeats 4000000 in
set_option maxRecDepth 100000 in
theorem refMay7 (op a b imm : Int) (host : Bool) (hrow : rowOf op host = 7) (w : World) (h0 : 0 ≤ a) (h1 : 0 ≤ b) (h2 : -2147483648 ≤ imm) (h3 : imm ≤ 2147483647) :
    Calls Tryz.prog 42 #[.agg (insA op a b imm), .bool host] w fun e w' => e = .returned (.bool (mayB 7 a b imm)) ∧ Kep w w' := by
  have em : Hid (∀ a b imm, mayB 7 a b imm = (true && (((decide (a ≤ 0) && decide (b ≤ 0)) && decide (-32768 ≤ imm)) && decide (imm ≤ 32767)))) := fun _ _ _ => rfl
  go_enter Tryz.func42, Tryz.ntmps42
  go_wp2_with fail
  refine (refOf_any op host _).mono ?_
  rintro e w1 ⟨rfl, g1⟩
  rw [hrow]
  have G1 : Hid (Kep w w1) := kep_trans ((Kep.refl _).alloc _) g1
  have d1 := g1.cell (o := 1) (b := w.heap.size) (by simp)
  have d2 := g1.cell (o := 2) (b := w.heap.size) (by simp)
  have d3 := g1.cell (o := 3) (b := w.heap.size) (by simp)
  simp at d1 d2 d3
  have z1 : w.heap.size < w1.heap.size := Nat.lt_of_lt_of_le (by simp) g1.size
  have er : rformA 7 = #[.int .i64 3, .bool false, .bool false, .int .i64 2, .bool true] := rfl
  rw [er]
  clear hrow g1 er
  go_wp2_with fail
  all_goals (try go_rounds 3)
  all_goals (try go_wp2_with fail)
  all_goals go_ret
  all_goals exact ⟨ret_bool (by rw [em.out]; clear em d1 d2 d3 z1 G1; first | (simp_all; done) | (simp_all <;> omega) | (simp_all; intros; omega) | (rw [Bool.eq_iff_iff]; simp_all <;> omega) | (rw [Bool.eq_iff_iff]; simp_all; constructor <;> intros <;> omega)), G1.alloc _⟩
set_option maxHeartbeats 4000000 in
set_option maxRecDepth 100000 in
theorem refMay8 (op a b imm : Int) (host : Bool) (hrow : rowOf op host = 8) (w : World) (h0 : 0 ≤ a) (h1 : 0 ≤ b) (h2 : -2147483648 ≤ imm) (h3 : imm ≤ 2147483647) :
    Calls Tryz.prog 42 #[.agg (insA op a b imm), .bool host] w fun e w' => e = .returned (.bool (mayB 8 a b imm)) ∧ Kep w w' := by
  have em : Hid (∀ a b imm, mayB 8 a b imm = (true && (((decide (a ≤ 0) && decide (b ≤ 0)) && decide (0 ≤ imm)) && decide (imm ≤ 65535)))) := fun _ _ _ => rfl
  go_enter Tryz.func42, Tryz.ntmps42
  go_wp2_with fail
  refine (refOf_any op host _).mono ?_
  rintro e w1 ⟨rfl, g1⟩
  rw [hrow]
  have G1 : Hid (Kep w w1) := kep_trans ((Kep.refl _).alloc _) g1
  have d1 := g1.cell (o := 1) (b := w.heap.size) (by simp)
  have d2 := g1.cell (o := 2) (b := w.heap.size) (by simp)
  have d3 := g1.cell (o := 3) (b := w.heap.size) (by simp)
  simp at d1 d2 d3
  have z1 : w.heap.size < w1.heap.size := Nat.lt_of_lt_of_le (by simp) g1.size
  have er : rformA 8 = #[.int .i64 3, .bool false, .bool false, .int .i64 2, .bool false] := rfl
  rw [er]
  clear hrow g1 er
  go_wp2_with fail
  all_goals (try go_rounds 3)
  all_goals (try go_wp2_with fail)
  all_goals go_ret
  all_goals exact ⟨ret_bool (by rw [em.out]; clear em d1 d2 d3 z1 G1; first | (simp_all; done) | (simp_all <;> omega) | (simp_all; intros; omega) | (rw [Bool.eq_iff_iff]; simp_all <;> omega) | (rw [Bool.eq_iff_iff]; simp_all; constructor <;> intros <;> omega)), G1.alloc _⟩
set_option maxHeartbeats 4000000 in
set_option maxRecDepth 100000 in
theorem refMay9 (op a b imm : Int) (host : Bool) (hrow : rowOf op host = 9) (w : World) (h0 : 0 ≤ a) (h1 : 0 ≤ b) (h2 : -2147483648 ≤ imm) (h3 : imm ≤ 2147483647) :
    Calls Tryz.prog 42 #[.agg (insA op a b imm), .bool host] w fun e w' => e = .returned (.bool (mayB 9 a b imm)) ∧ Kep w w' := by
  have em : Hid (∀ a b imm, mayB 9 a b imm = (true && (((decide (a ≤ 7) && decide (b ≤ 0)) && decide (-2147483648 ≤ imm)) && decide (imm ≤ 2147483647)))) := fun _ _ _ => rfl
  go_enter Tryz.func42, Tryz.ntmps42
  go_wp2_with fail
  refine (refOf_any op host _).mono ?_
  rintro e w1 ⟨rfl, g1⟩
  rw [hrow]
  have G1 : Hid (Kep w w1) := kep_trans ((Kep.refl _).alloc _) g1
  have d1 := g1.cell (o := 1) (b := w.heap.size) (by simp)
  have d2 := g1.cell (o := 2) (b := w.heap.size) (by simp)
  have d3 := g1.cell (o := 3) (b := w.heap.size) (by simp)
  simp at d1 d2 d3
  have z1 : w.heap.size < w1.heap.size := Nat.lt_of_lt_of_le (by simp) g1.size
  have er : rformA 9 = #[.int .i64 6, .bool true, .bool false, .int .i64 4, .bool true] := rfl
  rw [er]
  clear hrow g1 er
  go_wp2_with fail
  all_goals (try go_rounds 5)
  all_goals (try go_wp2_with fail)
  all_goals go_ret
  all_goals exact ⟨ret_bool (by rw [em.out]; clear em d1 d2 d3 z1 G1; first | (simp_all; done) | (simp_all <;> omega) | (simp_all; intros; omega) | (rw [Bool.eq_iff_iff]; simp_all <;> omega) | (rw [Bool.eq_iff_iff]; simp_all; constructor <;> intros <;> omega)), G1.alloc _⟩
theorem refMay_any (op a b imm : Int) (host : Bool) (w : World) (h0 : 0 ≤ a) (h1 : 0 ≤ b) (h2 : -2147483648 ≤ imm) (h3 : imm ≤ 2147483647) :
    Calls Tryz.prog 42 #[.agg (insA op a b imm), .bool host] w fun e w' => e = .returned (.bool (mayB (rowOf op host) a b imm)) ∧ Kep w w' := by
  have hr := rowOf_lt op host
  generalize hrow : rowOf op host = r at hr
  rcases (by omega : r = 0 ∨ r = 1 ∨ r = 2 ∨ r = 3 ∨ r = 4 ∨ r = 5 ∨ r = 6 ∨ r = 7 ∨ r = 8 ∨ r = 9) with rfl | rfl | rfl | rfl | rfl | rfl | rfl | rfl | rfl | rfl
  · exact refMay0 op a b imm host hrow w h0 h1 h2 h3
  · exact refMay1 op a b imm host hrow w h0 h1 h2 h3
  · exact refMay2 op a b imm host hrow w h0 h1 h2 h3
  · exact refMay3 op a b imm host hrow w h0 h1 h2 h3
  · exact refMay4 op a b imm host hrow w h0 h1 h2 h3
  · exact refMay5 op a b imm host hrow w h0 h1 h2 h3
  · exact refMay6 op a b imm host hrow w h0 h1 h2 h3
  · exact refMay7 op a b imm host hrow w h0 h1 h2 h3
  · exact refMay8 op a b imm host hrow w h0 h1 h2 h3
  · exact refMay9 op a b imm host hrow w h0 h1 h2 h3
end Go.Proofs.YtamffningddgbaaGreatDoor
