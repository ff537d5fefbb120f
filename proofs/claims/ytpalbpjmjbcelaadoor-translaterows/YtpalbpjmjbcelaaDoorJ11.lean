/- Part of a proof. -/
import Derived.Laws.Slices
import Derived.Test.YtpalbpjmjbcelaaDoorJ10
namespace Go.Proofs.YtpalbpjmjbcelaaDoor
open Go.RowKit
set_option linter.unusedVariables false
set_option linter.unusedSimpArgs false
def up32 (imm : Int) : Int := if imm < 0 then imm + 4294967296 else imm
theorem byte_up (imm : Int) (k : Nat) (hk : k ≤ 3) : up32 imm / 2 ^ (8 * k) % 256 = byteAt imm k := by
  unfold up32 byteAt
  rcases (by omega : k = 0 ∨ k = 1 ∨ k = 2 ∨ k = 3) with rfl | rfl | rfl | rfl <;> simp <;> split <;> omega
theorem up_range (imm : Int) (h0 : -2147483648 ≤ imm) (h1 : imm ≤ 2147483647) : 0 ≤ up32 imm ∧ up32 imm ≤ 4294967295 := by unfold up32; split <;> omega
theorem up_step (imm : Int) (k : Nat) (h0 : 0 ≤ up32 imm) : up32 imm / 2 ^ (8 * k) / 256 = up32 imm / 2 ^ (8 * (k + 1)) := by
  rw [show (2 : Int) ^ (8 * (k + 1)) = 2 ^ (8 * k) * 256 by rw [Nat.mul_add, Int.pow_add]; rfl]
  exact Int.ediv_ediv_of_nonneg (Int.le_of_lt (Int.pow_pos (by decide)))
theorem owns_slice {w : World} {base n : Nat} {v : Value} {xs : List Value} (h : w.ownsRow base 5 1 v n xs) (hn : 0 < n) : ∃ C c, v = .slice (some ⟨C, 0, none⟩) n c ∧ base ≤ C := by
  rcases h.2 with ⟨_, h1⟩ | ⟨g, cap, cur, h1, h2, _⟩
  · omega
  · exact ⟨g, cap, h1, h2⟩
theorem one_two (x : Int) (w : World) (o1 o2 : Obj) : ∀ j u, ([Value.int .u8 x])[j]? = some u → (((w.alloc o1).alloc o2).alloc (.cells #[.int .u8 x] 5)).cell? ((⟨w.heap.size + 1 + 1, 0, none⟩ : Addr).add j) = some u := by
  intro j u hj
  match j, hj with
  | 0, hj =>
    simp at hj; subst hj
    have hs : w.heap.size + 1 + 1 = ((w.alloc o1).alloc o2).heap.size := by show _ = ((w.heap.push o1).push o2).size; simp
    exact (cell_of_block (heap_at _ _ _ hs)).trans rfl
set_option maxHeartbeats 8000000 in
set_option maxRecDepth 100000 in
theorem refEnc_any (r : Nat) (hr : r < 10) (hr0 : r ≠ 0) (op a b imm : Int) (host : Bool) (hrow : rowOf op host = r) (w : World) (h0 : 0 ≤ op) (h1 : op < 256) (h2 : -2147483648 ≤ imm) (h3 : imm ≤ 2147483647) (ha : 0 ≤ a) (ha' : a ≤ 7) (hb : 0 ≤ b) (hb' : b ≤ 7) :
    Calls Tryd.prog 46 #[.agg (insA op a b imm), .bool host] w fun e w' => ∃ C c : Nat, e = .returned (.slice (some ⟨C, 0, none⟩) (encL r op a b imm).length c) ∧
      w'.ownsRow w.heap.size 5 1 (.slice (some ⟨C, 0, none⟩) (encL r op a b imm).length c) (encL r op a b imm).length (bs (encL r op a b imm)) ∧ Kep w w' := by
  have hf3 := f3_range r hr
  have hup := up_range imm h2 h3
  obtain ⟨i5, hi5, hz0, hz1, hz2⟩ := info_parts info5
  have hfin : Hid (∀ (pre : List Int) (k : Nat), preL r op a b = pre → (k : Int) = f3 r → encL r op a b imm = pre ++ (List.range k).map (byteAt imm)) := by
    intro pre k hp hk
    unfold encL; rw [hp, ← hk]; rfl
  go_enter Tryd.func46, Tryd.ntmps46
  go_wp2_with fail
  refine (refOf_any op host _).mono ?_
  rintro e w1 ⟨rfl, g1⟩
  rw [hrow]
  have d0 := g1.cell (o := 0) (b := w.heap.size) (by simp)
  have d1 := g1.cell (o := 1) (b := w.heap.size) (by simp)
  have d2 := g1.cell (o := 2) (b := w.heap.size) (by simp)
  have d3 := g1.cell (o := 3) (b := w.heap.size) (by simp)
  simp at d0 d1 d2 d3
  have z1 : w.heap.size < w1.heap.size := g1.lt (by simp)
  have G1 : Hid (Kep w w1) := kep_trans ((Kep.refl _).alloc _) g1
  have e3' : Hid (w1.cell? ⟨w.heap.size, 3, none⟩ = some (.int .i32 imm)) := d3
  clear g1 hrow
  unfold rformA
  have hN : Hid (∀ A w5, Kep (w1.alloc (.cells #[.int .i64 (sz r), .bool A, .bool (rB r), .int .i64 (f3 r), .bool (rS r)] 111)) w5 → w5.cell? ⟨w1.heap.size, 3, none⟩ = some (.int .i64 (f3 r)) ∧ w5.cell? ⟨w.heap.size, 3, none⟩ = some (.int .i32 imm)) := by
    intro A w5 h
    exact ⟨(h.cell (by simp)).trans (by simp), (h.cell (by simp; omega)).trans ((cell_old z1).trans e3')⟩
  cases hA : hasA r
  · have hpre : Hid (preL r op a b = [op]) := by unfold Hid preL; rw [hA]; rfl
    have hown1 : Hid (((w1.alloc (.cells #[.int .i64 (sz r), .bool false, .bool (rB r), .int .i64 (f3 r), .bool (rS r)] 111)).alloc (.cells #[.int .u8 op] 5)).ownsRow (w1.heap.size + 1) 5 1 (.slice (some ⟨w1.heap.size + 1, 0, none⟩) 1 1) 1 (bs [op])) :=
      ⟨rfl, .inr ⟨_, 1, #[.int .u8 op], rfl, Nat.le_refl _, heap_at _ _ _ (by simp), Nat.le_refl _, by unfold maxLen; omega, rfl, rfl⟩⟩
    by_cases hneg : imm < 0
    · have hU : up32 imm = imm + 4294967296 := by unfold up32; rw [if_pos hneg]
      go_wp2_with fail
      go_loopw [6, 7, 8] (fun v nn i wr => ∃ (k C c : Nat), (k : Int) ≤ f3 r ∧ i = .int .i64 k ∧ nn = .int .i64 (up32 imm / 2 ^ (8 * k)) ∧ v = .slice (some ⟨C, 0, none⟩) (1 + k) c ∧ Hid (wr.ownsRow (w1.heap.size + 1) 5 1 (.slice (some ⟨C, 0, none⟩) (1 + k) c) (1 + k) (bs ([op] ++ (List.range k).map (byteAt imm)))) ∧ Hid (Kep (w1.alloc (.cells #[.int .i64 (sz r), .bool false, .bool (rB r), .int .i64 (f3 r), .bool (rS r)] 111)) wr)) (fun _ _ i _ => 6 - (intOf i).toNat)
      case atStart => exact ⟨0, w1.heap.size + 1, 1, hf3.1, rfl, by simp [hU], rfl, hown1, (Kep.refl _).alloc _⟩
      case round =>
        obtain ⟨k, C, c, hk, rfl, rfl, rfl, hownk, hgk⟩ := hrel
        have hCb : w1.heap.size + 1 ≤ C := owns_base hownk
        have hk4 : (k : Int) ≤ 4 := by omega
        obtain ⟨n3, _⟩ := hN.out false wr hgk
        have hM0 : 0 ≤ up32 imm / 2 ^ (8 * k) := Int.ediv_nonneg hup.1 (Int.le_of_lt (Int.pow_pos (by decide)))
        have hM1 : up32 imm / 2 ^ (8 * k) ≤ 4294967295 := Int.le_trans (Int.ediv_le_self _ hup.1) hup.2
        obtain ⟨M, hM⟩ : ∃ M, Hid (up32 imm / 2 ^ (8 * k) = M) := ⟨_, rfl⟩
        rw [hM.out] at hM0 hM1 ⊢
        have ht1 : M.tdiv 256 = M / 256 := Int.tdiv_eq_ediv_of_nonneg hM0
        have ht2 : M.tmod 256 = M % 256 := Int.tmod_eq_emod_of_nonneg hM0
        obtain ⟨X, hX⟩ : ∃ X, Hid (X = bs ([op] ++ (List.range k).map (byteAt imm))) := ⟨_, rfl⟩
        have hownk' : wr.ownsRow (w1.heap.size + 1) 5 1 (.slice (some ⟨C, 0, none⟩) (1 + k) c) (1 + k) X := by rw [hX.out]; exact hownk
        have hszk : w1.heap.size + 1 ≤ wr.heap.size := by have := hgk.size; simpa using this
        clear hownk
        go_wp2_with (at_builtin; refine wpList_append_own _ rfl _ _ 30 rfl (w1.heap.size + 1) 5 i5 (.int .u8 0) 1 1 Tryd.underlying30 hi5 hz0 hz1 hz2 rfl (by decide) (.slice (some ⟨C, 0, none⟩) (1 + k) c) (1 + k) X rfl (World.ownsRow.alloc hownk' _) ⟨wr.heap.size, 0, none⟩ 1 1 [.int .u8 (M % 256)] rfl rfl (one_cell _ _) (one_one _) (by unfold maxLen; omega) (by omega) (by simp; omega) ?_; intro v5 w5 hown5 hgrow5 hnil5; obtain ⟨C5, c5, hv5, hC5⟩ := owns_slice hown5 (by omega); subst hv5; have hg5 : Hid (Kep (w1.alloc (.cells #[.int .i64 (sz r), .bool false, .bool (rB r), .int .i64 (f3 r), .bool (rS r)] 111)) w5) := (hgk.alloc _).by hgrow5 (by intro j hj; have h5 : some C = some j := hj; simp at h5; subst h5; simpa using hCb); have hown6 : Hid (w5.ownsRow (w1.heap.size + 1) 5 1 (.slice (some ⟨C5, 0, none⟩) (1 + (k + 1)) c5) (1 + (k + 1)) (X ++ [.int .u8 (M % 256)])) := hown5; clear hgrow5 hown5 hnil5)
        · go_roundw
          case rel =>
            refine ⟨k + 1, C5, c5, by omega, by go_num, by rw [← up_step imm k hup.1, hM.out], rfl, ?_, hg5⟩
            have h := hown6.out
            rw [hX.out, ← hM.out, byte_up imm k (by omega)] at h
            rw [bs_step]
            exact h
          case measure => simp [intOf]; omega
        · have hkf : (k : Int) = f3 r := by omega
          have hL := hfin.out _ k hpre hkf
          have hn : (encL r op a b imm).length = 1 + k := by rw [hL]; simp; omega
          go_ret
          refine ⟨C, c, ?_, ?_, ?_⟩
          · rw [hn]; rfl
          · rw [hn, hL, ← hX.out]
            exact owns_mono hownk' (by omega)
          · exact kep_trans (G1.alloc _) hgk
    · have hU : up32 imm = imm := by unfold up32; rw [if_neg hneg]
      go_wp2_with fail
      go_loopw [6, 7, 8] (fun v nn i wr => ∃ (k C c : Nat), (k : Int) ≤ f3 r ∧ i = .int .i64 k ∧ nn = .int .i64 (up32 imm / 2 ^ (8 * k)) ∧ v = .slice (some ⟨C, 0, none⟩) (1 + k) c ∧ Hid (wr.ownsRow (w1.heap.size + 1) 5 1 (.slice (some ⟨C, 0, none⟩) (1 + k) c) (1 + k) (bs ([op] ++ (List.range k).map (byteAt imm)))) ∧ Hid (Kep (w1.alloc (.cells #[.int .i64 (sz r), .bool false, .bool (rB r), .int .i64 (f3 r), .bool (rS r)] 111)) wr)) (fun _ _ i _ => 6 - (intOf i).toNat)
      case atStart => exact ⟨0, w1.heap.size + 1, 1, hf3.1, rfl, by simp [hU], rfl, hown1, (Kep.refl _).alloc _⟩
      case round =>
        obtain ⟨k, C, c, hk, rfl, rfl, rfl, hownk, hgk⟩ := hrel
        have hCb : w1.heap.size + 1 ≤ C := owns_base hownk
        have hk4 : (k : Int) ≤ 4 := by omega
        obtain ⟨n3, _⟩ := hN.out false wr hgk
        have hM0 : 0 ≤ up32 imm / 2 ^ (8 * k) := Int.ediv_nonneg hup.1 (Int.le_of_lt (Int.pow_pos (by decide)))
        have hM1 : up32 imm / 2 ^ (8 * k) ≤ 4294967295 := Int.le_trans (Int.ediv_le_self _ hup.1) hup.2
        obtain ⟨M, hM⟩ : ∃ M, Hid (up32 imm / 2 ^ (8 * k) = M) := ⟨_, rfl⟩
        rw [hM.out] at hM0 hM1 ⊢
        have ht1 : M.tdiv 256 = M / 256 := Int.tdiv_eq_ediv_of_nonneg hM0
        have ht2 : M.tmod 256 = M % 256 := Int.tmod_eq_emod_of_nonneg hM0
        obtain ⟨X, hX⟩ : ∃ X, Hid (X = bs ([op] ++ (List.range k).map (byteAt imm))) := ⟨_, rfl⟩
        have hownk' : wr.ownsRow (w1.heap.size + 1) 5 1 (.slice (some ⟨C, 0, none⟩) (1 + k) c) (1 + k) X := by rw [hX.out]; exact hownk
        have hszk : w1.heap.size + 1 ≤ wr.heap.size := by have := hgk.size; simpa using this
        clear hownk
        go_wp2_with (at_builtin; refine wpList_append_own _ rfl _ _ 30 rfl (w1.heap.size + 1) 5 i5 (.int .u8 0) 1 1 Tryd.underlying30 hi5 hz0 hz1 hz2 rfl (by decide) (.slice (some ⟨C, 0, none⟩) (1 + k) c) (1 + k) X rfl (World.ownsRow.alloc hownk' _) ⟨wr.heap.size, 0, none⟩ 1 1 [.int .u8 (M % 256)] rfl rfl (one_cell _ _) (one_one _) (by unfold maxLen; omega) (by omega) (by simp; omega) ?_; intro v5 w5 hown5 hgrow5 hnil5; obtain ⟨C5, c5, hv5, hC5⟩ := owns_slice hown5 (by omega); subst hv5; have hg5 : Hid (Kep (w1.alloc (.cells #[.int .i64 (sz r), .bool false, .bool (rB r), .int .i64 (f3 r), .bool (rS r)] 111)) w5) := (hgk.alloc _).by hgrow5 (by intro j hj; have h5 : some C = some j := hj; simp at h5; subst h5; simpa using hCb); have hown6 : Hid (w5.ownsRow (w1.heap.size + 1) 5 1 (.slice (some ⟨C5, 0, none⟩) (1 + (k + 1)) c5) (1 + (k + 1)) (X ++ [.int .u8 (M % 256)])) := hown5; clear hgrow5 hown5 hnil5)
        · go_roundw
          case rel =>
            refine ⟨k + 1, C5, c5, by omega, by go_num, by rw [← up_step imm k hup.1, hM.out], rfl, ?_, hg5⟩
            have h := hown6.out
            rw [hX.out, ← hM.out, byte_up imm k (by omega)] at h
            rw [bs_step]
            exact h
          case measure => simp [intOf]; omega
        · have hkf : (k : Int) = f3 r := by omega
          have hL := hfin.out _ k hpre hkf
          have hn : (encL r op a b imm).length = 1 + k := by rw [hL]; simp; omega
          go_ret
          refine ⟨C, c, ?_, ?_, ?_⟩
          · rw [hn]; rfl
          · rw [hn, hL, ← hX.out]
            exact owns_mono hownk' (by omega)
          · exact kep_trans (G1.alloc _) hgk
  · have hpre : Hid (preL r op a b = [op, a * 16 + b]) := by unfold Hid preL; rw [hA]; rfl
    have hown1 : Hid (((w1.alloc (.cells #[.int .i64 (sz r), .bool true, .bool (rB r), .int .i64 (f3 r), .bool (rS r)] 111)).alloc (.cells #[.int .u8 op] 5)).ownsRow (w1.heap.size + 1) 5 1 (.slice (some ⟨w1.heap.size + 1, 0, none⟩) 1 1) 1 (bs [op])) :=
      ⟨rfl, .inr ⟨_, 1, #[.int .u8 op], rfl, Nat.le_refl _, heap_at _ _ _ (by simp), Nat.le_refl _, by unfold maxLen; omega, rfl, rfl⟩⟩
    have hg1 : Hid (Kep (w1.alloc (.cells #[.int .i64 (sz r), .bool true, .bool (rB r), .int .i64 (f3 r), .bool (rS r)] 111)) ((w1.alloc (.cells #[.int .i64 (sz r), .bool true, .bool (rB r), .int .i64 (f3 r), .bool (rS r)] 111)).alloc (.cells #[.int .u8 op] 5))) := (Kep.refl _).alloc _
    have hwr : (a * 16 + b) % 256 = a * 16 + b := by omega
    by_cases hneg : imm < 0
    · have hU : up32 imm = imm + 4294967296 := by unfold up32; rw [if_pos hneg]
      go_wp2_with (at_builtin; refine wpList_append_own _ rfl _ _ 30 rfl (w1.heap.size + 1) 5 i5 (.int .u8 0) 1 1 Tryd.underlying30 hi5 hz0 hz1 hz2 rfl (by decide) (.slice (some ⟨w1.heap.size + 1, 0, none⟩) 1 1) 1 (bs [op]) rfl (World.ownsRow.alloc hown1 _) ⟨w1.heap.size + 1 + 1, 0, none⟩ 1 1 [.int .u8 (a * 16 + b)] rfl rfl (one_two _ _ _ _) (one_one _) (by unfold maxLen; omega) (by omega) (by simp <;> omega) ?_; intro v5 w5 hown5 hgrow5 hnil5; obtain ⟨C5, c5, hv5, hC5⟩ := owns_slice hown5 (by omega); subst hv5; have hg5 : Hid (Kep (w1.alloc (.cells #[.int .i64 (sz r), .bool true, .bool (rB r), .int .i64 (f3 r), .bool (rS r)] 111)) w5) := (hg1.alloc _).by hgrow5 (by intro j hj; have h5 : some (w1.heap.size + 1) = some j := hj; simp at h5; subst h5; simp); obtain ⟨n3, n3'⟩ := hN.out true w5 hg5; have hown6 : Hid (w5.ownsRow (w1.heap.size + 1) 5 1 (.slice (some ⟨C5, 0, none⟩) 2 c5) 2 (bs [op, a * 16 + b])) := hown5; clear hgrow5 hown5 hnil5)
      go_loopw [6, 7, 8] (fun v nn i wr => ∃ (k C c : Nat), (k : Int) ≤ f3 r ∧ i = .int .i64 k ∧ nn = .int .i64 (up32 imm / 2 ^ (8 * k)) ∧ v = .slice (some ⟨C, 0, none⟩) (2 + k) c ∧ Hid (wr.ownsRow (w1.heap.size + 1) 5 1 (.slice (some ⟨C, 0, none⟩) (2 + k) c) (2 + k) (bs ([op, a * 16 + b] ++ (List.range k).map (byteAt imm)))) ∧ Hid (Kep (w1.alloc (.cells #[.int .i64 (sz r), .bool true, .bool (rB r), .int .i64 (f3 r), .bool (rS r)] 111)) wr)) (fun _ _ i _ => 6 - (intOf i).toNat)
      case atStart => exact ⟨0, C5, c5, hf3.1, rfl, by simp [hU], rfl, hown6, hg5⟩
      case round =>
        obtain ⟨k, C, c, hk, rfl, rfl, rfl, hownk, hgk⟩ := hrel
        have hCb : w1.heap.size + 1 ≤ C := owns_base hownk
        have hk4 : (k : Int) ≤ 4 := by omega
        obtain ⟨n3, _⟩ := hN.out true wr hgk
        have hM0 : 0 ≤ up32 imm / 2 ^ (8 * k) := Int.ediv_nonneg hup.1 (Int.le_of_lt (Int.pow_pos (by decide)))
        have hM1 : up32 imm / 2 ^ (8 * k) ≤ 4294967295 := Int.le_trans (Int.ediv_le_self _ hup.1) hup.2
        obtain ⟨M, hM⟩ : ∃ M, Hid (up32 imm / 2 ^ (8 * k) = M) := ⟨_, rfl⟩
        rw [hM.out] at hM0 hM1 ⊢
        have ht1 : M.tdiv 256 = M / 256 := Int.tdiv_eq_ediv_of_nonneg hM0
        have ht2 : M.tmod 256 = M % 256 := Int.tmod_eq_emod_of_nonneg hM0
        obtain ⟨X, hX⟩ : ∃ X, Hid (X = bs ([op, a * 16 + b] ++ (List.range k).map (byteAt imm))) := ⟨_, rfl⟩
        have hownk' : wr.ownsRow (w1.heap.size + 1) 5 1 (.slice (some ⟨C, 0, none⟩) (2 + k) c) (2 + k) X := by rw [hX.out]; exact hownk
        have hszk : w1.heap.size + 1 ≤ wr.heap.size := by have := hgk.size; simpa using this
        clear hownk
        go_wp2_with (at_builtin; refine wpList_append_own _ rfl _ _ 30 rfl (w1.heap.size + 1) 5 i5 (.int .u8 0) 1 1 Tryd.underlying30 hi5 hz0 hz1 hz2 rfl (by decide) (.slice (some ⟨C, 0, none⟩) (2 + k) c) (2 + k) X rfl (World.ownsRow.alloc hownk' _) ⟨wr.heap.size, 0, none⟩ 1 1 [.int .u8 (M % 256)] rfl rfl (one_cell _ _) (one_one _) (by unfold maxLen; omega) (by omega) (by simp; omega) ?_; intro v5 w5 hown5 hgrow5 hnil5; obtain ⟨C5, c5, hv5, hC5⟩ := owns_slice hown5 (by omega); subst hv5; have hg5 : Hid (Kep (w1.alloc (.cells #[.int .i64 (sz r), .bool true, .bool (rB r), .int .i64 (f3 r), .bool (rS r)] 111)) w5) := (hgk.alloc _).by hgrow5 (by intro j hj; have h5 : some C = some j := hj; simp at h5; subst h5; simpa using hCb); have hown6 : Hid (w5.ownsRow (w1.heap.size + 1) 5 1 (.slice (some ⟨C5, 0, none⟩) (2 + (k + 1)) c5) (2 + (k + 1)) (X ++ [.int .u8 (M % 256)])) := hown5; clear hgrow5 hown5 hnil5)
        · go_roundw
          case rel =>
            refine ⟨k + 1, C5, c5, by omega, by go_num, by rw [← up_step imm k hup.1, hM.out], rfl, ?_, hg5⟩
            have h := hown6.out
            rw [hX.out, ← hM.out, byte_up imm k (by omega)] at h
            rw [bs_step]
            exact h
          case measure => simp [intOf]; omega
        · have hkf : (k : Int) = f3 r := by omega
          have hL := hfin.out _ k hpre hkf
          have hn : (encL r op a b imm).length = 2 + k := by rw [hL]; simp; omega
          go_ret
          refine ⟨C, c, ?_, ?_, ?_⟩
          · rw [hn]; rfl
          · rw [hn, hL, ← hX.out]
            exact owns_mono hownk' (by omega)
          · exact kep_trans (G1.alloc _) hgk
    · have hU : up32 imm = imm := by unfold up32; rw [if_neg hneg]
      go_wp2_with (at_builtin; refine wpList_append_own _ rfl _ _ 30 rfl (w1.heap.size + 1) 5 i5 (.int .u8 0) 1 1 Tryd.underlying30 hi5 hz0 hz1 hz2 rfl (by decide) (.slice (some ⟨w1.heap.size + 1, 0, none⟩) 1 1) 1 (bs [op]) rfl (World.ownsRow.alloc hown1 _) ⟨w1.heap.size + 1 + 1, 0, none⟩ 1 1 [.int .u8 (a * 16 + b)] rfl rfl (one_two _ _ _ _) (one_one _) (by unfold maxLen; omega) (by omega) (by simp <;> omega) ?_; intro v5 w5 hown5 hgrow5 hnil5; obtain ⟨C5, c5, hv5, hC5⟩ := owns_slice hown5 (by omega); subst hv5; have hg5 : Hid (Kep (w1.alloc (.cells #[.int .i64 (sz r), .bool true, .bool (rB r), .int .i64 (f3 r), .bool (rS r)] 111)) w5) := (hg1.alloc _).by hgrow5 (by intro j hj; have h5 : some (w1.heap.size + 1) = some j := hj; simp at h5; subst h5; simp); obtain ⟨n3, n3'⟩ := hN.out true w5 hg5; have hown6 : Hid (w5.ownsRow (w1.heap.size + 1) 5 1 (.slice (some ⟨C5, 0, none⟩) 2 c5) 2 (bs [op, a * 16 + b])) := hown5; clear hgrow5 hown5 hnil5)
      go_loopw [6, 7, 8] (fun v nn i wr => ∃ (k C c : Nat), (k : Int) ≤ f3 r ∧ i = .int .i64 k ∧ nn = .int .i64 (up32 imm / 2 ^ (8 * k)) ∧ v = .slice (some ⟨C, 0, none⟩) (2 + k) c ∧ Hid (wr.ownsRow (w1.heap.size + 1) 5 1 (.slice (some ⟨C, 0, none⟩) (2 + k) c) (2 + k) (bs ([op, a * 16 + b] ++ (List.range k).map (byteAt imm)))) ∧ Hid (Kep (w1.alloc (.cells #[.int .i64 (sz r), .bool true, .bool (rB r), .int .i64 (f3 r), .bool (rS r)] 111)) wr)) (fun _ _ i _ => 6 - (intOf i).toNat)
      case atStart => exact ⟨0, C5, c5, hf3.1, rfl, by simp [hU], rfl, hown6, hg5⟩
      case round =>
        obtain ⟨k, C, c, hk, rfl, rfl, rfl, hownk, hgk⟩ := hrel
        have hCb : w1.heap.size + 1 ≤ C := owns_base hownk
        have hk4 : (k : Int) ≤ 4 := by omega
        obtain ⟨n3, _⟩ := hN.out true wr hgk
        have hM0 : 0 ≤ up32 imm / 2 ^ (8 * k) := Int.ediv_nonneg hup.1 (Int.le_of_lt (Int.pow_pos (by decide)))
        have hM1 : up32 imm / 2 ^ (8 * k) ≤ 4294967295 := Int.le_trans (Int.ediv_le_self _ hup.1) hup.2
        obtain ⟨M, hM⟩ : ∃ M, Hid (up32 imm / 2 ^ (8 * k) = M) := ⟨_, rfl⟩
        rw [hM.out] at hM0 hM1 ⊢
        have ht1 : M.tdiv 256 = M / 256 := Int.tdiv_eq_ediv_of_nonneg hM0
        have ht2 : M.tmod 256 = M % 256 := Int.tmod_eq_emod_of_nonneg hM0
        obtain ⟨X, hX⟩ : ∃ X, Hid (X = bs ([op, a * 16 + b] ++ (List.range k).map (byteAt imm))) := ⟨_, rfl⟩
        have hownk' : wr.ownsRow (w1.heap.size + 1) 5 1 (.slice (some ⟨C, 0, none⟩) (2 + k) c) (2 + k) X := by rw [hX.out]; exact hownk
        have hszk : w1.heap.size + 1 ≤ wr.heap.size := by have := hgk.size; simpa using this
        clear hownk
        go_wp2_with (at_builtin; refine wpList_append_own _ rfl _ _ 30 rfl (w1.heap.size + 1) 5 i5 (.int .u8 0) 1 1 Tryd.underlying30 hi5 hz0 hz1 hz2 rfl (by decide) (.slice (some ⟨C, 0, none⟩) (2 + k) c) (2 + k) X rfl (World.ownsRow.alloc hownk' _) ⟨wr.heap.size, 0, none⟩ 1 1 [.int .u8 (M % 256)] rfl rfl (one_cell _ _) (one_one _) (by unfold maxLen; omega) (by omega) (by simp; omega) ?_; intro v5 w5 hown5 hgrow5 hnil5; obtain ⟨C5, c5, hv5, hC5⟩ := owns_slice hown5 (by omega); subst hv5; have hg5 : Hid (Kep (w1.alloc (.cells #[.int .i64 (sz r), .bool true, .bool (rB r), .int .i64 (f3 r), .bool (rS r)] 111)) w5) := (hgk.alloc _).by hgrow5 (by intro j hj; have h5 : some C = some j := hj; simp at h5; subst h5; simpa using hCb); have hown6 : Hid (w5.ownsRow (w1.heap.size + 1) 5 1 (.slice (some ⟨C5, 0, none⟩) (2 + (k + 1)) c5) (2 + (k + 1)) (X ++ [.int .u8 (M % 256)])) := hown5; clear hgrow5 hown5 hnil5)
        · go_roundw
          case rel =>
            refine ⟨k + 1, C5, c5, by omega, by go_num, by rw [← up_step imm k hup.1, hM.out], rfl, ?_, hg5⟩
            have h := hown6.out
            rw [hX.out, ← hM.out, byte_up imm k (by omega)] at h
            rw [bs_step]
            exact h
          case measure => simp [intOf]; omega
        · have hkf : (k : Int) = f3 r := by omega
          have hL := hfin.out _ k hpre hkf
          have hn : (encL r op a b imm).length = 2 + k := by rw [hL]; simp; omega
          go_ret
          refine ⟨C, c, ?_, ?_, ?_⟩
          · rw [hn]; rfl
          · rw [hn, hL, ← hX.out]
            exact owns_mono hownk' (by omega)
          · exact kep_trans (G1.alloc _) hgk
def RB (w : World) (x : Option Addr) (len cap : Nat) (zs : List Int) : Prop := len = 0 ∨ ∃ b off, x = some ⟨b, off, none⟩ ∧ 0 < len ∧ Bytes w b off len cap zs
theorem bs_fresh {w : World} (l : List Int) (n : Nat) (hl : l.length = n) (hm : n ≤ 1000) : (w.alloc (.cells (bs l).toArray 5)).ownsRow w.heap.size 5 1 (.slice (some ⟨w.heap.size, 0, none⟩) n n) n (bs l) := by
  refine ⟨by simp [hl], .inr ⟨_, n, (bs l).toArray, rfl, Nat.le_refl _, heap_alloc_new w _, Nat.le_refl _, by unfold maxLen; omega, by simp [hl], by simpa using (List.take_of_length_le (by simp [hl] : (bs l).length ≤ n))⟩⟩
theorem rstub_any (n x : Int) (h0 : 0 ≤ n) (h1 : n ≤ 255) (h2 : 0 ≤ x) (h3 : x ≤ 65535) (w : World) :
    Calls Tryd.prog 47 #[.int .i64 n, .int .i64 x] w fun e w' => e = .returned (.slice (some ⟨w.heap.size, 0, none⟩) 5 5) ∧ w' = w.alloc (.cells (bs [112, n, 113, x % 256, x / 256]).toArray 5) := by
  go_enter Tryd.func47, Tryd.ntmps47
  go_wp2_with fail
  go_ret
  exact ⟨rfl, rfl⟩
theorem rstub_made (n x : Int) (h0 : 0 ≤ n) (h1 : n ≤ 255) (h2 : 0 ≤ x) (h3 : x ≤ 65535) (w : World) :
    Calls Tryd.prog 47 #[.int .i64 n, .int .i64 x] w fun e w' => ∃ C : Nat, e = .returned (.slice (some ⟨C, 0, none⟩) 5 5) ∧
      w'.ownsRow w.heap.size 5 1 (.slice (some ⟨C, 0, none⟩) 5 5) 5 (bs [112, n, 113, x % 256, x / 256]) ∧ Kep w w' := by
  refine (rstub_any n x h0 h1 h2 h3 w).mono ?_
  rintro e w' ⟨rfl, rfl⟩
  exact ⟨_, rfl, bs_fresh _ 5 rfl (by decide), (Kep.refl _).alloc _⟩
end Go.Proofs.YtpalbpjmjbcelaaDoor
