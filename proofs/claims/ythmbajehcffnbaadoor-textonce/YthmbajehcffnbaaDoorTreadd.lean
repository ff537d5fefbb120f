/- What Read answers of a text with the right number of words. -/
import Derived.Test.YthmbajehcffnbaaDoorTreadh
namespace Go.Proofs.YthmbajehcffnbaaDoor
open Go.RowKit
set_option linter.unusedVariables false

set_option maxHeartbeats 16000000 in
set_option maxRecDepth 100000 in
theorem read_2o (op : Int) (s n p q : List UInt8) (w : World) (h0 : 0 ≤ op) (h1 : op < 256) (hE : Env w)
    (HC : ∀ w, Calls Tryd.prog 23 #[strV s] w fun e w' => (∃ g cap, e = .returned (.tuple #[.slice (some ⟨g, 0, none⟩) 3 cap, .bool true]) ∧ PartsAt w' g [n, p, q]) ∧ Kep w w')
    (HN : ∀ w, Calls Tryd.prog 24 #[strV n] w fun e w' => e = .returned (.tuple #[.int .u8 op, .bool true]) ∧ Kep w w')
    (HF : ∀ w, Env w → Calls Tryd.prog 14 #[.int .u8 op] w fun e w' => e = .returned (.agg #[.string ⟨#[114, letB op]⟩, .bool false]) ∧ Kep w w') :
    Calls Tryd.prog 11 #[strV s] w fun e w' => e = .returned (.tuple #[.agg (insV (readF op true true false [p, q])), .int .i64 (errV (readF op true true false [p, q]))]) ∧ Kep w w' := by
  have hE' : Hid (Env w) := hE
  have H1 : Hid _ := HC
  have H2 : Hid _ := HN
  obtain ⟨L, hL⟩ : ∃ L, Hid (letB op = L) := ⟨_, rfl⟩
  rw [hL.out] at HF
  have H3 : Hid _ := HF
  have H4 : Hid (∀ w, Calls Tryd.prog 25 #[.agg #[.string ⟨#[114, L]⟩, .bool false]] w fun e w' => e = .returned (.int .i64 3) ∧ Kep w w') := fun w => fwords_any #[114, L] false (by simp) w
  obtain ⟨r1, hr1⟩ : ∃ r1, Hid (regL p 114 = r1) := ⟨_, rfl⟩
  have H5 : Hid (∀ w, Calls Tryd.prog 26 #[strV p, .int .u8 114] w fun e w' => e = .returned (.tuple #[.int .u8 (r1.getD 0), .bool r1.isSome]) ∧ w' = w) := fun w => hr1.out ▸ register_any p 114 w
  have hLr := u8_lt L
  obtain ⟨LI, hLI⟩ : ∃ LI : Int, Hid (LI = L.toNat) := ⟨_, rfl⟩
  rw [← hLI.out] at hLr
  have hi0 : ∀ w, (Instr.index 9 (.string ⟨#[114, L]⟩) (.int .i64 0)).run Tryd.prog w = .ok (.int .u8 114) w := index_str [114, L] 0 114 rfl
  have hi1 : ∀ w, (Instr.index 9 (.string ⟨#[114, L]⟩) (.int .i64 1)).run Tryd.prog w = .ok (.int .u8 LI) w := hLI.out ▸ index_str [114, L] 1 L rfl
  obtain ⟨r2, hr2⟩ : ∃ r2, Hid (regL q (letB op) = r2) := ⟨_, rfl⟩
  have H6 : Hid (∀ w, Calls Tryd.prog 26 #[strV q, .int .u8 LI] w fun e w' => e = .returned (.tuple #[.int .u8 (r2.getD 0), .bool r2.isSome]) ∧ w' = w) := fun w => by
    have h := register_any q L w
    rw [← hL.out, hr2.out, hL.out, ← hLI.out] at h
    exact h
  clear hE HC HN HF
  go_enter Tryd.func11, Tryd.ntmps11
  go_wp2_with fail
  refine (H1.out _).mono ?_
  rintro e w1 ⟨⟨g, cap, rfl, hP1⟩, g1⟩
  have S1 : Hid (RdS w w1 g [n, p, q]) := ⟨g1.block (heap_alloc_new _ _), hP1, kep_trans ((Kep.refl _).alloc _) g1⟩
  have c0 : w1.cell? ⟨g, 0, none⟩ = some (strV n) := hP1.cell 0 n rfl
  clear hP1 g1
  go_wp2_with fail
  refine (H2.out _).mono ?_
  rintro e w2 ⟨rfl, g2⟩
  have S2 : Hid (RdS w w2 g [n, p, q]) := S1.out.kep g2
  clear g2 c0
  go_wp2_with fail
  refine (H3.out _ (hE'.out.grown S2.out.kp)).mono ?_
  rintro e w3 ⟨rfl, g3⟩
  have S3 : Hid (RdS w w3 g [n, p, q]) := S2.out.kep g3
  clear g3
  go_wp2_with fail
  refine (H4.out _).mono ?_
  rintro e w4 ⟨rfl, g4⟩
  have S4 : Hid (RdS w w4 g [n, p, q]) := S3.out.kep (kep_trans ((Kep.refl _).alloc _) g4)
  have F4 : Hid (w4.heap[w3.heap.size]? = some (.cells #[.string ⟨#[114, L]⟩, .bool false] 36 (0, 0))) := g4.block (heap_alloc_new _ _)
  have z3 : w3.heap.size < w4.heap.size := g4.lt (by simp)
  have zg : g < w4.heap.size := S4.out.pt.lt
  have zr : w.heap.size < w4.heap.size := blk_lt S4.out.rs
  have e0 : w4.cell? ⟨w3.heap.size, 0, none⟩ = some (.string ⟨#[114, L]⟩) := cell_of_block F4.out
  have e1 : w4.cell? ⟨w3.heap.size, 1, none⟩ = some (.bool false) := cell_of_block F4.out
  have c0 : w4.cell? ⟨g, 0, none⟩ = some (strV n) := S4.out.pt.cell 0 n rfl
  have c1 : w4.cell? ⟨g, 1, none⟩ = some (strV p) := S4.out.pt.cell 1 p rfl
  have c2 : w4.cell? ⟨g, 2, none⟩ = some (strV q) := S4.out.pt.cell 2 q rfl
  clear g4
  go_wp2_with fail
  refine wp_loop_rounds 3 ?_
  rw [rounds_succ]
  go_wp2_with fail
  go_cut [5] from 43 to 57 (fun s5 wx => s5 = .bool r1.isSome ∧ wx = (w4.alloc (.cells #[.int .u8 (r1.getD 0), .int .u8 0] 39)).drew)
  case first =>
    go_region_with (go_at_call 26; refine (H5.out _).mono ?_; rintro e wz ⟨rfl, rfl⟩)
    all_goals go_wp2_with fail
    all_goals go_meet
    all_goals exact ⟨rfl, rfl⟩
  case rest =>
    rename World => w5
    obtain ⟨rfl, hX⟩ := hcut
    have K5 : Hid (Kep w4 w5) := by unfold Hid; rw [hX]; exact ((Kep.refl _).alloc _).drew
    have S5 : Hid (RdS w w5 g [n, p, q]) := S4.out.kep K5.out
    have B5 : Hid (w5.heap[w4.heap.size]? = some (.cells #[.int .u8 (r1.getD 0), .int .u8 0] 39 (0, 0))) := by unfold Hid; rw [hX]; exact heap_alloc_new _ _
    have F5 : Hid (w5.heap[w3.heap.size]? = some (.cells #[.string ⟨#[114, L]⟩, .bool false] 36 (0, 0))) := K5.out.block F4.out
    clear e0 e1 c0 c1 c2 hX z3 zg zr
    cases r1 with
    | none =>
      have hfin : Hid (readF op true true false [p, q] = .error 40) := by unfold Hid; simp only [readF, hr1.out]
      go_wp2_with (refine wpList_store_row rfl 23 _ _ rfl w.heap.size zI rfl rfl 23 _ S5.out.rs sizeIns rfl (ins_one _ _ _ _) ?_)
      try simp only [Exit.inBlock, Exit.then]
      exact bodyPost_ret (results2 rfl _ _ w.heap.size 23 zI (0, 0) _ rfl (setRow_heap _ _ _ _ _ _ S5.out.rs) Tryd.underlying23 rfl sizeIns) rfl ⟨by rw [hfin.out]; rfl, S5.out.kp.setRow _ _ (Nat.le_refl _)⟩
    | some a =>
      obtain ⟨_, ha⟩ := reg_own hr1.out
      have e0 : w5.cell? ⟨w3.heap.size, 0, none⟩ = some (.string ⟨#[114, L]⟩) := cell_of_block F5.out
      have e1 : w5.cell? ⟨w3.heap.size, 1, none⟩ = some (.bool false) := cell_of_block F5.out
      have c0 : w5.cell? ⟨g, 0, none⟩ = some (strV n) := S5.out.pt.cell 0 n rfl
      have c1 : w5.cell? ⟨g, 1, none⟩ = some (strV p) := S5.out.pt.cell 1 p rfl
      have c2 : w5.cell? ⟨g, 2, none⟩ = some (strV q) := S5.out.pt.cell 2 q rfl
      have b0 : w5.cell? ⟨w4.heap.size, 0, none⟩ = some (.int .u8 a) := cell_of_block B5.out
      have b1 : w5.cell? ⟨w4.heap.size, 1, none⟩ = some (.int .u8 0) := cell_of_block B5.out
      have z4 : w4.heap.size < w5.heap.size := blk_lt B5.out
      have z3' : w3.heap.size < w5.heap.size := blk_lt F5.out
      have zg' : g < w5.heap.size := S5.out.pt.lt
      have zr' : w.heap.size < w5.heap.size := blk_lt S5.out.rs
      have fz1 : w5.frozen? ⟨w4.heap.size, 1, none⟩ = false := frozen_of_row _ _ _ _ _ B5.out
      go_wp2_with fail
      rw [rounds_succ]
      go_wp2_with fail
      go_cut [5] from 43 to 57 (fun s5 wx => s5 = .bool r2.isSome ∧ wx = (w5.setCell ⟨w4.heap.size, 1, none⟩ (.int .u8 (r2.getD 0))).drew)
      case first =>
        go_region_with (go_at_call 26; refine (H6.out _).mono ?_; rintro e wz ⟨rfl, rfl⟩)
        all_goals go_wp2_with fail
        all_goals go_meet
        all_goals exact ⟨rfl, rfl⟩
      case rest =>
        rename World => w6
        obtain ⟨rfl, hX⟩ := hcut
        have hrw : w.heap.size ≠ w4.heap.size := by have := blk_lt S4.out.rs; omega
        have hgw : g ≠ w4.heap.size := by have := S4.out.pt.lt; omega
        have hfw : w3.heap.size ≠ w4.heap.size := by have := blk_lt F4.out; omega
        have S6 : Hid (RdS w w6 g [n, p, q]) := by
          unfold Hid
          rw [hX]
          exact ⟨(heap_setCell_other _ _ _ _ hrw).trans S5.out.rs, ⟨fun j x hx => (cell_set_other hgw).trans (S5.out.pt.cell j x hx), by have := S5.out.pt.lt; simpa [World.setCell] using this⟩, (S5.out.kp.setCell (by have := blk_lt S4.out.rs; simp; omega) _).drew⟩
        have B6 : Hid (w6.heap[w4.heap.size]? = some (.cells #[.int .u8 a, .int .u8 (r2.getD 0)] 39 (0, 0))) := by
          unfold Hid
          rw [hX]
          exact heap_setCell_same w5 w4.heap.size 1 _ _ _ B5.out
        have F6 : Hid (w6.heap[w3.heap.size]? = some (.cells #[.string ⟨#[114, L]⟩, .bool false] 36 (0, 0))) := by
          unfold Hid
          rw [hX]
          exact (heap_setCell_other _ _ _ _ hfw).trans F5.out
        clear e0 e1 c0 c1 c2 hX b0 b1 fz1 z4 z3' zg' zr'
        cases r2 with
        | none =>
          have hfin : Hid (readF op true true false [p, q] = .error 40) := by unfold Hid; simp only [readF, hr1.out, hr2.out]
          go_wp2_with (refine wpList_store_row rfl 23 _ _ rfl w.heap.size zI rfl rfl 23 _ S6.out.rs sizeIns rfl (ins_one _ _ _ _) ?_)
          try simp only [Exit.inBlock, Exit.then]
          exact bodyPost_ret (results2 rfl _ _ w.heap.size 23 zI (0, 0) _ rfl (setRow_heap _ _ _ _ _ _ S6.out.rs) Tryd.underlying23 rfl sizeIns) rfl ⟨by rw [hfin.out]; rfl, S6.out.kp.setRow _ _ (Nat.le_refl _)⟩
        | some b =>
          obtain ⟨_, hb⟩ := reg_own hr2.out
          have e0 : w6.cell? ⟨w3.heap.size, 0, none⟩ = some (.string ⟨#[114, L]⟩) := cell_of_block F6.out
          have e1 : w6.cell? ⟨w3.heap.size, 1, none⟩ = some (.bool false) := cell_of_block F6.out
          have c0 : w6.cell? ⟨g, 0, none⟩ = some (strV n) := S6.out.pt.cell 0 n rfl
          have c1 : w6.cell? ⟨g, 1, none⟩ = some (strV p) := S6.out.pt.cell 1 p rfl
          have c2 : w6.cell? ⟨g, 2, none⟩ = some (strV q) := S6.out.pt.cell 2 q rfl
          have b0 : w6.cell? ⟨w4.heap.size, 0, none⟩ = some (.int .u8 a) := cell_of_block B6.out
          have b1 : w6.cell? ⟨w4.heap.size, 1, none⟩ = some (.int .u8 b) := cell_of_block B6.out
          have z4 : w4.heap.size < w6.heap.size := blk_lt B6.out
          have z3' : w3.heap.size < w6.heap.size := blk_lt F6.out
          have zg' : g < w6.heap.size := S6.out.pt.lt
          have zr' : w.heap.size < w6.heap.size := blk_lt S6.out.rs
          go_wp2_with fail
          rw [rounds_succ]
          have SX : Hid (∀ o1, RdS w (w6.alloc o1) g [n, p, q]) := fun o1 => S6.out.kep ((Kep.refl _).alloc _)
          have hfin : Hid (readF op true true false [p, q] = .ok (op, a, b, 0)) := by unfold Hid; simp only [readF, hr1.out, hr2.out]
          go_wp2_with (refine wpList_store_row rfl 23 _ _ rfl w.heap.size #[.int .u8 op, .int .u8 a, .int .u8 b, .int .i32 0] rfl rfl 23 _ (SX.out _).rs sizeIns rfl (ins_one _ _ _ _) ?_)
          try simp only [Exit.inBlock, Exit.then]
          exact bodyPost_ret (results2 rfl _ _ w.heap.size 23 #[.int .u8 op, .int .u8 a, .int .u8 b, .int .i32 0] (0, 0) _ rfl (setRow_heap _ _ _ _ _ _ (SX.out _).rs) Tryd.underlying23 rfl sizeIns) rfl ⟨by rw [hfin.out]; rfl, (SX.out _).kp.setRow _ _ (Nat.le_refl _)⟩

end Go.Proofs.YthmbajehcffnbaaDoor
