/- What Read answers of a text with the right number of words. -/
import Derived.Test.YthmbajehcffnbaaDoorTreadh
namespace Go.Proofs.YthmbajehcffnbaaDoor
open Go.RowKit
set_option linter.unusedVariables false

set_option maxHeartbeats 16000000 in
set_option maxRecDepth 100000 in
theorem read_1o (op : Int) (s n p : List UInt8) (w : World) (h0 : 0 ≤ op) (h1 : op < 256) (hE : Env w)
    (HC : ∀ w, Calls Tryd.prog 23 #[strV s] w fun e w' => (∃ g cap, e = .returned (.tuple #[.slice (some ⟨g, 0, none⟩) 2 cap, .bool true]) ∧ PartsAt w' g [n, p]) ∧ Kep w w')
    (HN : ∀ w, Calls Tryd.prog 24 #[strV n] w fun e w' => e = .returned (.tuple #[.int .u8 op, .bool true]) ∧ Kep w w')
    (HF : ∀ w, Env w → Calls Tryd.prog 14 #[.int .u8 op] w fun e w' => e = .returned (.agg #[.string ⟨#[114]⟩, .bool false]) ∧ Kep w w') :
    Calls Tryd.prog 11 #[strV s] w fun e w' => e = .returned (.tuple #[.agg (insV (readF op true false false [p])), .int .i64 (errV (readF op true false false [p]))]) ∧ Kep w w' := by
  have hE' : Hid (Env w) := hE
  have H1 : Hid _ := HC
  have H2 : Hid _ := HN
  have H3 : Hid _ := HF
  have H4 : Hid (∀ w, Calls Tryd.prog 25 #[.agg #[.string ⟨#[114]⟩, .bool false]] w fun e w' => e = .returned (.int .i64 2) ∧ Kep w w') := fun w => fwords_any #[114] false (by decide) w
  obtain ⟨r1, hr1⟩ : ∃ r1, Hid (regL p 114 = r1) := ⟨_, rfl⟩
  have H5 : Hid (∀ w, Calls Tryd.prog 26 #[strV p, .int .u8 114] w fun e w' => e = .returned (.tuple #[.int .u8 (r1.getD 0), .bool r1.isSome]) ∧ w' = w) := fun w => hr1.out ▸ register_any p 114 w
  have hi0 := index_str [114] 0 114 rfl
  clear hE HC HN HF
  go_enter Tryd.func11, Tryd.ntmps11
  go_wp2_with fail
  refine (H1.out _).mono ?_
  rintro e w1 ⟨⟨g, cap, rfl, hP1⟩, g1⟩
  have S1 : Hid (RdS w w1 g [n, p]) := ⟨g1.block (heap_alloc_new _ _), hP1, kep_trans ((Kep.refl _).alloc _) g1⟩
  have c0 : w1.cell? ⟨g, 0, none⟩ = some (strV n) := hP1.cell 0 n rfl
  clear hP1 g1
  go_wp2_with fail
  refine (H2.out _).mono ?_
  rintro e w2 ⟨rfl, g2⟩
  have S2 : Hid (RdS w w2 g [n, p]) := S1.out.kep g2
  clear g2 c0
  go_wp2_with fail
  refine (H3.out _ (hE'.out.grown S2.out.kp)).mono ?_
  rintro e w3 ⟨rfl, g3⟩
  have S3 : Hid (RdS w w3 g [n, p]) := S2.out.kep g3
  clear g3
  go_wp2_with fail
  refine (H4.out _).mono ?_
  rintro e w4 ⟨rfl, g4⟩
  have S4 : Hid (RdS w w4 g [n, p]) := S3.out.kep (kep_trans ((Kep.refl _).alloc _) g4)
  have F4 : Hid (w4.heap[w3.heap.size]? = some (.cells #[.string ⟨#[114]⟩, .bool false] 36 (0, 0))) := g4.block (heap_alloc_new _ _)
  have z3 : w3.heap.size < w4.heap.size := g4.lt (by simp)
  have zg : g < w4.heap.size := S4.out.pt.lt
  have zr : w.heap.size < w4.heap.size := blk_lt S4.out.rs
  have e0 : w4.cell? ⟨w3.heap.size, 0, none⟩ = some (.string ⟨#[114]⟩) := cell_of_block F4.out
  have e1 : w4.cell? ⟨w3.heap.size, 1, none⟩ = some (.bool false) := cell_of_block F4.out
  have c0 : w4.cell? ⟨g, 0, none⟩ = some (strV n) := S4.out.pt.cell 0 n rfl
  have c1 : w4.cell? ⟨g, 1, none⟩ = some (strV p) := S4.out.pt.cell 1 p rfl
  clear g4
  go_wp2_with fail
  refine wp_loop_rounds 2 ?_
  rw [rounds_succ]
  go_wp2_with fail
  go_cut [5] from 43 to 57 (fun s5 wx => s5 = .bool r1.isSome ∧ wx = (w4.alloc (.cells #[.int .u8 (r1.getD 0), .int .u8 0] 39)).drew)
  case first =>
    go_region_with (go_at_call 26; refine (H5.out _).mono ?_; rintro e wz ⟨rfl, rfl⟩)
    all_goals go_wp2_with fail
    all_goals go_meet
    all_goals exact ⟨rfl, rfl⟩
  case rest =>
    rename World => w5
    obtain ⟨rfl, hX⟩ := hcut
    have K5 : Hid (Kep w4 w5) := by unfold Hid; rw [hX]; exact ((Kep.refl _).alloc _).drew
    have S5 : Hid (RdS w w5 g [n, p]) := S4.out.kep K5.out
    have B5 : Hid (w5.heap[w4.heap.size]? = some (.cells #[.int .u8 (r1.getD 0), .int .u8 0] 39 (0, 0))) := by unfold Hid; rw [hX]; exact heap_alloc_new _ _
    have F5 : Hid (w5.heap[w3.heap.size]? = some (.cells #[.string ⟨#[114]⟩, .bool false] 36 (0, 0))) := K5.out.block F4.out
    clear e0 e1 c0 c1 hX z3 zg zr
    cases r1 with
    | none =>
      have hfin : Hid (readF op true false false [p] = .error 40) := by unfold Hid; simp only [readF, hr1.out]
      go_wp2_with (refine wpList_store_row rfl 23 _ _ rfl w.heap.size zI rfl rfl 23 _ S5.out.rs sizeIns rfl (ins_one _ _ _ _) ?_)
      try simp only [Exit.inBlock, Exit.then]
      exact bodyPost_ret (results2 rfl _ _ w.heap.size 23 zI (0, 0) _ rfl (setRow_heap _ _ _ _ _ _ S5.out.rs) Tryd.underlying23 rfl sizeIns) rfl ⟨by rw [hfin.out]; rfl, S5.out.kp.setRow _ _ (Nat.le_refl _)⟩
    | some a =>
      obtain ⟨_, ha⟩ := reg_own hr1.out
      have e0 : w5.cell? ⟨w3.heap.size, 0, none⟩ = some (.string ⟨#[114]⟩) := cell_of_block F5.out
      have e1 : w5.cell? ⟨w3.heap.size, 1, none⟩ = some (.bool false) := cell_of_block F5.out
      have c0 : w5.cell? ⟨g, 0, none⟩ = some (strV n) := S5.out.pt.cell 0 n rfl
      have c1 : w5.cell? ⟨g, 1, none⟩ = some (strV p) := S5.out.pt.cell 1 p rfl
      have b0 : w5.cell? ⟨w4.heap.size, 0, none⟩ = some (.int .u8 a) := cell_of_block B5.out
      have b1 : w5.cell? ⟨w4.heap.size, 1, none⟩ = some (.int .u8 0) := cell_of_block B5.out
      have z4 : w4.heap.size < w5.heap.size := blk_lt B5.out
      have z3' : w3.heap.size < w5.heap.size := blk_lt F5.out
      have zg' : g < w5.heap.size := S5.out.pt.lt
      have zr' : w.heap.size < w5.heap.size := blk_lt S5.out.rs
      go_wp2_with fail
      rw [rounds_succ]
      have SX : Hid (∀ o1, RdS w (w5.alloc o1) g [n, p]) := fun o1 => S5.out.kep ((Kep.refl _).alloc _)
      have hfin : Hid (readF op true false false [p] = .ok (op, a, 0, 0)) := by unfold Hid; simp only [readF, hr1.out]
      go_wp2_with (refine wpList_store_row rfl 23 _ _ rfl w.heap.size #[.int .u8 op, .int .u8 a, .int .u8 0, .int .i32 0] rfl rfl 23 _ (SX.out _).rs sizeIns rfl (ins_one _ _ _ _) ?_)
      try simp only [Exit.inBlock, Exit.then]
      exact bodyPost_ret (results2 rfl _ _ w.heap.size 23 #[.int .u8 op, .int .u8 a, .int .u8 0, .int .i32 0] (0, 0) _ rfl (setRow_heap _ _ _ _ _ _ (SX.out _).rs) Tryd.underlying23 rfl sizeIns) rfl ⟨by rw [hfin.out]; rfl, (SX.out _).kp.setRow _ _ (Nat.le_refl _)⟩

end Go.Proofs.YthmbajehcffnbaaDoor
