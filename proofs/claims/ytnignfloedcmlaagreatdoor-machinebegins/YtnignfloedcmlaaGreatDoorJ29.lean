/- Part of a proof. -/
import Derived.Deep.RegionHeld3
import Derived.Test.YtnignfloedcmlaaGreatDoorJ28
namespace Go.Proofs.YtnignfloedcmlaaGreatDoor
open Go.RowKit
set_option linter.unusedVariables false
set_option linter.unusedSimpArgs false
set_option maxHeartbeats 1600000 in
set_option maxRecDepth 100000 in
theorem do_may (s : Sta) (op : Int) (a b : Nat) (imm n : Int) (w : World) (ok : s.Ok) (h0 : 0 ≤ op) (h1 : op < 256) (h2 : -2147483648 ≤ imm) (h3 : imm ≤ 2147483647) (hn : mayB (rowOf op false) a b imm = false) (hT : Tabs w) :
    Calls Tryz.prog 67 #[.agg s.v, .agg (insA op a b imm), .int .u32 n] w fun e w' => e = .returned (.tuple #[.agg s.v, .agg (e0 1).v]) ∧ Kep w w' := by
  have MA : Hid (∀ w, Tabs w → Calls Tryz.prog 80 #[.agg (insA op a b imm), .bool false] w fun e w' => e = .returned (.bool false) ∧ Kep w w') := fun w hT => by have := may_any op a b imm false w h0 h1 h2 h3 hT; rw [hn] at this; exact this
  have hT' : Hid (Tabs w) := hT
  clear hn hT h2 h3 h0 h1
  go_enter Tryz.func67, Tryz.ntmps67
  go_wp2_with fail
  refine (MA.out _ (hT'.out.grown kepA)).mono ?_
  rintro e w1 ⟨rfl, K1⟩
  have G1 : Hid (Kep w w1) := kep_trans kepA K1
  obtain ⟨B0, B1, B2, B3⟩ := five_blocks _ _ _ _ _ _ K1
  have z3 := block_lt B3
  have H0 : Hid (w1.heap[w.heap.size]? = _) := B0
  have H2 : Hid (w1.heap[w.heap.size + 1 + 1]? = _) := B2
  have H3 : Hid (w1.heap[w.heap.size + 1 + 1 + 1]? = _) := B3
  clear B0 B1 B2 B3 K1
  go_wp2_with (first | (refine wpList_load_row (by rfl) 26 _ (by rfl) _ (by rfl) 26 _ (0, 0) _ blkA Tryz.underlying26 rfl (by exact size_sta) ?_) | (refine wpList_store_row (by rfl) 26 _ _ (by rfl) _ _ (by rfl) (by rfl) 26 z19 blkA (by exact size_sta) (by rfl) (v_one _) ?_) | (refine wpList_store_row (by rfl) 133 _ _ (by rfl) _ (e0 1).v (by rfl) (by rfl) 133 #[.int .i64 0, .bool false, .bool false, .int .i64 0, .int .u32 0] blkA (by exact size_eff) (by rfl) (eff_one _) ?_))
  try simp only [Exit.inBlock, Exit.then]
  exact bodyPost_ret (resultsCC rfl _ _ (w.heap.size + 1 + 1) 26 _ (0, 0) _ (w.heap.size + 1 + 1 + 1) 133 _ (0, 0) _ (by rfl) blkA Tryz.underlying26 rfl (by exact size_sta) (by rfl) blkA Tryz.underlying133 rfl (by exact size_eff)) rfl ⟨by rfl, kepA⟩
end Go.Proofs.YtnignfloedcmlaaGreatDoor
