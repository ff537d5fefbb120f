/- What Read answers of a text with the right number of words. -/
import Derived.Test.YthmbajehcffnbaaDoorTreadh
namespace Go.Proofs.YthmbajehcffnbaaDoor
open Go.RowKit
set_option linter.unusedVariables false

set_option maxHeartbeats 16000000 in
set_option maxRecDepth 100000 in
theorem read_0o (op : Int) (s n : List UInt8) (w : World) (h0 : 0 ≤ op) (h1 : op < 256) (hE : Env w)
    (HC : ∀ w, Calls Tryd.prog 23 #[strV s] w fun e w' => (∃ g cap, e = .returned (.tuple #[.slice (some ⟨g, 0, none⟩) 1 cap, .bool true]) ∧ PartsAt w' g [n]) ∧ Kep w w')
    (HN : ∀ w, Calls Tryd.prog 24 #[strV n] w fun e w' => e = .returned (.tuple #[.int .u8 op, .bool true]) ∧ Kep w w')
    (HF : ∀ w, Env w → Calls Tryd.prog 14 #[.int .u8 op] w fun e w' => e = .returned (.agg #[.string ⟨#[]⟩, .bool false]) ∧ Kep w w') :
    Calls Tryd.prog 11 #[strV s] w fun e w' => e = .returned (.tuple #[.agg (insV (readF op false false false [])), .int .i64 (errV (readF op false false false []))]) ∧ Kep w w' := by
  have hE' : Hid (Env w) := hE
  have H1 : Hid _ := HC
  have H2 : Hid _ := HN
  have H3 : Hid _ := HF
  have H4 : Hid (∀ w, Calls Tryd.prog 25 #[.agg #[.string ⟨#[]⟩, .bool false]] w fun e w' => e = .returned (.int .i64 1) ∧ Kep w w') := fun w => fwords_any #[] false (by decide) w
  clear hE HC HN HF
  go_enter Tryd.func11, Tryd.ntmps11
  go_wp2_with fail
  refine (H1.out _).mono ?_
  rintro e w1 ⟨⟨g, cap, rfl, hP1⟩, g1⟩
  have S1 : Hid (RdS w w1 g [n]) := ⟨g1.block (heap_alloc_new _ _), hP1, kep_trans ((Kep.refl _).alloc _) g1⟩
  have c0 : w1.cell? ⟨g, 0, none⟩ = some (strV n) := hP1.cell 0 n rfl
  clear hP1 g1
  go_wp2_with fail
  refine (H2.out _).mono ?_
  rintro e w2 ⟨rfl, g2⟩
  have S2 : Hid (RdS w w2 g [n]) := S1.out.kep g2
  clear g2 c0
  go_wp2_with fail
  refine (H3.out _ (hE'.out.grown S2.out.kp)).mono ?_
  rintro e w3 ⟨rfl, g3⟩
  have S3 : Hid (RdS w w3 g [n]) := S2.out.kep g3
  clear g3
  go_wp2_with fail
  refine (H4.out _).mono ?_
  rintro e w4 ⟨rfl, g4⟩
  have S4 : Hid (RdS w w4 g [n]) := S3.out.kep (kep_trans ((Kep.refl _).alloc _) g4)
  have F4 : Hid (w4.heap[w3.heap.size]? = some (.cells #[.string ⟨#[]⟩, .bool false] 36 (0, 0))) := g4.block (heap_alloc_new _ _)
  have z3 : w3.heap.size < w4.heap.size := g4.lt (by simp)
  have zg : g < w4.heap.size := S4.out.pt.lt
  have zr : w.heap.size < w4.heap.size := blk_lt S4.out.rs
  have e0 : w4.cell? ⟨w3.heap.size, 0, none⟩ = some (.string ⟨#[]⟩) := cell_of_block F4.out
  have e1 : w4.cell? ⟨w3.heap.size, 1, none⟩ = some (.bool false) := cell_of_block F4.out
  have c0 : w4.cell? ⟨g, 0, none⟩ = some (strV n) := S4.out.pt.cell 0 n rfl
  clear g4
  go_wp2_with fail
  refine wp_loop_rounds 1 ?_
  rw [rounds_succ]
  have SX : Hid (∀ o1 o2, RdS w ((w4.alloc o1).alloc o2) g [n]) := fun o1 o2 => S4.out.kep (((Kep.refl _).alloc _).alloc _)
  have hfin : Hid (readF op false false false [] = .ok (op, 0, 0, 0)) := by unfold Hid; simp only [readF]
  go_wp2_with (refine wpList_store_row rfl 23 _ _ rfl w.heap.size #[.int .u8 op, .int .u8 0, .int .u8 0, .int .i32 0] rfl rfl 23 _ (SX.out _ _).rs sizeIns rfl (ins_one _ _ _ _) ?_)
  try simp only [Exit.inBlock, Exit.then]
  exact bodyPost_ret (results2 rfl _ _ w.heap.size 23 #[.int .u8 op, .int .u8 0, .int .u8 0, .int .i32 0] (0, 0) _ rfl (setRow_heap _ _ _ _ _ _ (SX.out _ _).rs) Tryd.underlying23 rfl sizeIns) rfl ⟨by rw [hfin.out]; rfl, (SX.out _ _).kp.setRow _ _ (Nat.le_refl _)⟩

set_option maxHeartbeats 16000000 in
set_option maxRecDepth 100000 in
theorem read_0n (op : Int) (s n m : List UInt8) (w : World) (h0 : 0 ≤ op) (h1 : op < 256) (hE : Env w) (hm : (m.length : Int) ≤ 140737488355328)
    (HC : ∀ w, Calls Tryd.prog 23 #[strV s] w fun e w' => (∃ g cap, e = .returned (.tuple #[.slice (some ⟨g, 0, none⟩) 2 cap, .bool true]) ∧ PartsAt w' g [n, m]) ∧ Kep w w')
    (HN : ∀ w, Calls Tryd.prog 24 #[strV n] w fun e w' => e = .returned (.tuple #[.int .u8 op, .bool true]) ∧ Kep w w')
    (HF : ∀ w, Env w → Calls Tryd.prog 14 #[.int .u8 op] w fun e w' => e = .returned (.agg #[.string ⟨#[]⟩, .bool true]) ∧ Kep w w') :
    Calls Tryd.prog 11 #[strV s] w fun e w' => e = .returned (.tuple #[.agg (insV (readF op false false true [m])), .int .i64 (errV (readF op false false true [m]))]) ∧ Kep w w' := by
  have hE' : Hid (Env w) := hE
  have H1 : Hid _ := HC
  have H2 : Hid _ := HN
  have H3 : Hid _ := HF
  have H4 : Hid (∀ w, Calls Tryd.prog 25 #[.agg #[.string ⟨#[]⟩, .bool true]] w fun e w' => e = .returned (.int .i64 2) ∧ Kep w w') := fun w => fwords_any #[] true (by decide) w
  obtain ⟨rm, hrm⟩ : ∃ rm, Hid (numL m = rm) := ⟨_, rfl⟩
  have H7 : Hid (∀ w, Calls Tryd.prog 27 #[strV m] w fun e w' => e = .returned (.tuple #[.int .i32 (rm.getD 0), .bool rm.isSome]) ∧ Kep w w') := fun w => hrm.out ▸ number_any m hm w
  clear hE HC HN HF
  go_enter Tryd.func11, Tryd.ntmps11
  go_wp2_with fail
  refine (H1.out _).mono ?_
  rintro e w1 ⟨⟨g, cap, rfl, hP1⟩, g1⟩
  have S1 : Hid (RdS w w1 g [n, m]) := ⟨g1.block (heap_alloc_new _ _), hP1, kep_trans ((Kep.refl _).alloc _) g1⟩
  have c0 : w1.cell? ⟨g, 0, none⟩ = some (strV n) := hP1.cell 0 n rfl
  clear hP1 g1
  go_wp2_with fail
  refine (H2.out _).mono ?_
  rintro e w2 ⟨rfl, g2⟩
  have S2 : Hid (RdS w w2 g [n, m]) := S1.out.kep g2
  clear g2 c0
  go_wp2_with fail
  refine (H3.out _ (hE'.out.grown S2.out.kp)).mono ?_
  rintro e w3 ⟨rfl, g3⟩
  have S3 : Hid (RdS w w3 g [n, m]) := S2.out.kep g3
  clear g3
  go_wp2_with fail
  refine (H4.out _).mono ?_
  rintro e w4 ⟨rfl, g4⟩
  have S4 : Hid (RdS w w4 g [n, m]) := S3.out.kep (kep_trans ((Kep.refl _).alloc _) g4)
  have F4 : Hid (w4.heap[w3.heap.size]? = some (.cells #[.string ⟨#[]⟩, .bool true] 36 (0, 0))) := g4.block (heap_alloc_new _ _)
  have z3 : w3.heap.size < w4.heap.size := g4.lt (by simp)
  have zg : g < w4.heap.size := S4.out.pt.lt
  have zr : w.heap.size < w4.heap.size := blk_lt S4.out.rs
  have e0 : w4.cell? ⟨w3.heap.size, 0, none⟩ = some (.string ⟨#[]⟩) := cell_of_block F4.out
  have e1 : w4.cell? ⟨w3.heap.size, 1, none⟩ = some (.bool true) := cell_of_block F4.out
  have c0 : w4.cell? ⟨g, 0, none⟩ = some (strV n) := S4.out.pt.cell 0 n rfl
  have c1 : w4.cell? ⟨g, 1, none⟩ = some (strV m) := S4.out.pt.cell 1 m rfl
  clear g4
  go_wp2_with fail
  refine wp_loop_rounds 1 ?_
  rw [rounds_succ]
  have SX : Hid (∀ o1 o2, RdS w ((w4.alloc o1).alloc o2) g [n, m]) := fun o1 o2 => S4.out.kep (((Kep.refl _).alloc _).alloc _)
  go_wp2_with fail
  refine (H7.out _).mono ?_
  rintro e w7 ⟨rfl, g7⟩
  have S7 : Hid (RdS w w7 g [n, m]) := (SX.out _ _).kep g7
  have I7 : Hid (w7.heap[w4.heap.size + 1]? = some (.cells #[.int .u8 op, .int .u8 0, .int .u8 0, .int .i32 0] 23 (0, 0))) := g7.block (by have := heap_alloc_new (w4.alloc (.cells #[.int .u8 0, .int .u8 0] 39)) (.cells #[.int .u8 op, .int .u8 0, .int .u8 0, .int .i32 0] 23); simpa using this)
  have z7 : w4.heap.size + 1 < w7.heap.size := blk_lt I7.out
  have y0 : w7.cell? ⟨w4.heap.size + 1, 0, none⟩ = some (.int .u8 op) := cell_of_block I7.out
  have y1 : w7.cell? ⟨w4.heap.size + 1, 1, none⟩ = some (.int .u8 0) := cell_of_block I7.out
  have y2 : w7.cell? ⟨w4.heap.size + 1, 2, none⟩ = some (.int .u8 0) := cell_of_block I7.out
  have y3 : w7.cell? ⟨w4.heap.size + 1, 3, none⟩ = some (.int .i32 0) := cell_of_block I7.out
  have yf : w7.frozen? ⟨w4.heap.size + 1, 3, none⟩ = false := frozen_of_row _ _ _ _ _ I7.out
  have hne : w.heap.size ≠ w4.heap.size + 1 := by have := blk_lt S4.out.rs; omega
  have hgn : g ≠ w4.heap.size + 1 := by have := S4.out.pt.lt; omega
  have S8 : Hid (∀ v, RdS w (w7.setCell ⟨w4.heap.size + 1, 3, none⟩ v) g [n, m]) := fun v => ⟨(heap_setCell_other _ _ _ _ hne).trans S7.out.rs, ⟨fun j x hx => (cell_set_other hgn).trans (S7.out.pt.cell j x hx), by have := S7.out.pt.lt; simpa [World.setCell] using this⟩, S7.out.kp.setCell (by have := blk_lt S4.out.rs; simp; omega) _⟩
  clear e0 e1 c0 c1 g7
  cases rm with
  | none =>
    have hfin : Hid (readF op false false true [m] = .error 41) := by unfold Hid; simp only [readF, numE, hrm.out]
    go_wp2_with (refine wpList_store_row rfl 23 _ _ rfl w.heap.size zI rfl rfl 23 _ (S8.out _).rs sizeIns rfl (ins_one _ _ _ _) ?_)
    try simp only [Exit.inBlock, Exit.then]
    exact bodyPost_ret (results2 rfl _ _ w.heap.size 23 zI (0, 0) _ rfl (setRow_heap _ _ _ _ _ _ (S8.out _).rs) Tryd.underlying23 rfl sizeIns) rfl ⟨by rw [hfin.out]; rfl, (S8.out _).kp.setRow _ _ (Nat.le_refl _)⟩
  | some v =>
    obtain ⟨_, hv⟩ := numL_own m v hrm.out
    have S8' : Hid (RdS w (w7.setCell ⟨w4.heap.size + 1, 3, none⟩ (.int .i32 v)) g [n, m]) := S8.out _
    have I8 : Hid ((w7.setCell ⟨w4.heap.size + 1, 3, none⟩ (.int .i32 v)).heap[w4.heap.size + 1]? = some (.cells #[.int .u8 op, .int .u8 0, .int .u8 0, .int .i32 v] 23 (0, 0))) := heap_setCell_same w7 (w4.heap.size + 1) 3 _ _ _ I7.out
    obtain ⟨mb, hmb⟩ : ∃ mb, Hid (mayB (rowOf op true) 0 0 v = mb) := ⟨_, rfl⟩
    have H8 : Hid (∀ w, Env w → Calls Tryd.prog 13 #[.agg #[.int .u8 op, .int .u8 0, .int .u8 0, .int .i32 v], .bool true] w fun e w' => e = .returned (.bool mb) ∧ Kep w w') := fun w h => hmb.out ▸ may_any op 0 0 v true w h0 h1 hv.1 hv.2 h.1
    go_wp2_with fail
    refine (H8.out _ (hE'.out.grown S8'.out.kp)).mono ?_
    rintro e w9 ⟨rfl, g9⟩
    have S9 : Hid (RdS w w9 g [n, m]) := S8'.out.kep g9
    have I9 : Hid (w9.heap[w4.heap.size + 1]? = some (.cells #[.int .u8 op, .int .u8 0, .int .u8 0, .int .i32 v] 23 (0, 0))) := g9.block I8.out
    have u0 : w9.cell? ⟨w4.heap.size + 1, 0, none⟩ = some (.int .u8 op) := cell_of_block I9.out
    have u1 : w9.cell? ⟨w4.heap.size + 1, 1, none⟩ = some (.int .u8 0) := cell_of_block I9.out
    have u2 : w9.cell? ⟨w4.heap.size + 1, 2, none⟩ = some (.int .u8 0) := cell_of_block I9.out
    have u3 : w9.cell? ⟨w4.heap.size + 1, 3, none⟩ = some (.int .i32 v) := cell_of_block I9.out
    clear g9 y0 y1 y2 y3 yf
    cases mb with
    | false =>
      have hfin : Hid (readF op false false true [m] = .error 41) := by unfold Hid; simp only [readF, numE, hrm.out, hmb.out]; rfl
      go_wp2_with (refine wpList_store_row rfl 23 _ _ rfl w.heap.size zI rfl rfl 23 _ S9.out.rs sizeIns rfl (ins_one _ _ _ _) ?_)
      try simp only [Exit.inBlock, Exit.then]
      exact bodyPost_ret (results2 rfl _ _ w.heap.size 23 zI (0, 0) _ rfl (setRow_heap _ _ _ _ _ _ S9.out.rs) Tryd.underlying23 rfl sizeIns) rfl ⟨by rw [hfin.out]; rfl, S9.out.kp.setRow _ _ (Nat.le_refl _)⟩
    | true =>
      have hfin : Hid (readF op false false true [m] = .ok (op, 0, 0, v)) := by unfold Hid; simp only [readF, numE, hrm.out, hmb.out]; rfl
      go_wp2_with (refine wpList_store_row rfl 23 _ _ rfl w.heap.size #[.int .u8 op, .int .u8 0, .int .u8 0, .int .i32 v] rfl rfl 23 _ S9.out.rs sizeIns rfl (ins_one _ _ _ _) ?_)
      try simp only [Exit.inBlock, Exit.then]
      exact bodyPost_ret (results2 rfl _ _ w.heap.size 23 #[.int .u8 op, .int .u8 0, .int .u8 0, .int .i32 v] (0, 0) _ rfl (setRow_heap _ _ _ _ _ _ S9.out.rs) Tryd.underlying23 rfl sizeIns) rfl ⟨by rw [hfin.out]; rfl, S9.out.kp.setRow _ _ (Nat.le_refl _)⟩

end Go.Proofs.YthmbajehcffnbaaDoor
