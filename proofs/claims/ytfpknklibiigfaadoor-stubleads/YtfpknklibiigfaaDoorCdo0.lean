/- Do. By mkdo.py. -/
import Derived.Test.YtfpknklibiigfaaDoorCwork
import Derived.Test.YtfpknklibiigfaaDoorAuto
import Derived.Test.YtfpknklibiigfaaDoorCmove
import Derived.Deep.RegionHeld3
namespace Go.Proofs.YtfpknklibiigfaaDoor
open Go.RowKit
set_option linter.unusedVariables false
set_option linter.unusedSimpArgs false


set_option maxHeartbeats 1600000 in
set_option maxRecDepth 100000 in
theorem do_none (s : Sta) (op : Int) (a b : Nat) (imm v : Int) (w : World) (ok : s.Ok) (h0 : 0 ≤ op) (h1 : op < 256) (h2 : -2147483648 ≤ imm) (h3 : imm ≤ 2147483647) (hn : isIns op a b imm = false) (hT : Tabs w) :
    Calls Tryd.prog 16 #[.agg s.v, .agg (insA op a b imm), .int .u32 v] w fun e w' => e = .returned (.tuple #[.agg s.v, .agg (fltV (1, s.pc))]) ∧ Kep w w' := by
  have WK : Hid (∀ w, Tabs w → Calls Tryd.prog 27 #[.agg (insA op a b imm)] w fun e w' => e = .returned .nilFunc ∧ Kep w w') := fun w hT => work_no op a b imm w h0 h1 h2 h3 hn hT
  have hT' : Hid (Tabs w) := hT
  have hnil : ∀ w, (binOp .eql 65 .nilFunc .nilFunc).run Tryd.prog w = .ok (.bool true) w := fun _ => by kernel_rfl
  clear hn hT h0 h1 h2 h3
  go_enter Tryd.func16, Tryd.ntmps16
  go_wp2_with fail
  refine (WK.out _ (hT'.out.grown kepA)).mono ?_
  rintro e w1 ⟨rfl, K1⟩
  have G1 : Hid (Kep w w1) := kep_trans kepA K1
  obtain ⟨B0, B1, B2, B3⟩ := five_blocks _ _ _ _ _ _ K1
  have z3 := block_lt B3
  have A0 : At w1 w.heap.size s := B0
  have c8 := A0.pc
  have H0 : Hid (At w1 w.heap.size s) := B0
  have H2 : Hid (w1.heap[w.heap.size + 1 + 1]? = _) := B2
  have H3 : Hid (w1.heap[w.heap.size + 1 + 1 + 1]? = _) := B3
  clear B0 B1 B2 B3 K1 A0
  go_wp2_with fail
  refine wp_region_held_drew (S := fun w' => At w' w.heap.size s) (by kernel_rfl) H0.out (fun hH => ?_)
  refine wpAnyH_take (i := 0) (v := .agg s.v) rfl (by kernel_rfl) (by kernel_rfl) (by kernel_rfl) (fun _ _ _ h => h) (yields_row rfl 43 _ rfl w.heap.size rfl 43 s.v (0, 0) _ (fun w h => h) Tryd.underlying43 rfl size_sta) hH ?_
  (try simp only [List.getElem_toArray, List.getElem_cons_zero, List.getElem_cons_succ, Act.put, List.setIfInBounds_toArray, List.set_cons_zero, List.set_cons_succ])
  refine wpAnyH_take (i := 1) (v := .pointer (some ⟨w.heap.size, 8, none⟩)) rfl (by kernel_rfl) (by kernel_rfl) (by kernel_rfl) (fun _ _ _ h => h) (Or.inl ⟨by rfl, by intro w' _; (first | kernel_rfl | (go_simp; done))⟩) hH ?_
  (try simp only [List.getElem_toArray, List.getElem_cons_zero, List.getElem_cons_succ, Act.put, List.setIfInBounds_toArray, List.set_cons_zero, List.set_cons_succ])
  refine wpAnyH_take (i := 2) (v := .int .u32 s.pc) rfl (by kernel_rfl) (by kernel_rfl) (by kernel_rfl) (fun _ _ _ h => h) (Or.inl ⟨by rfl, by intro w' hS; have c := At.pc hS; clear hS; go_simp⟩) hH ?_
  (try simp only [List.getElem_toArray, List.getElem_cons_zero, List.getElem_cons_succ, Act.put, List.setIfInBounds_toArray, List.set_cons_zero, List.set_cons_succ])
  refine wpAnyH_take (i := 3) (v := .agg (fltV (1, s.pc))) rfl (by kernel_rfl) (by kernel_rfl) (by kernel_rfl) (fun _ _ _ h => h) (Or.inl ⟨by rfl, by intro w' _; (first | kernel_rfl | (go_simp; done))⟩) hH ?_
  (try simp only [List.getElem_toArray, List.getElem_cons_zero, List.getElem_cons_succ, Act.put, List.setIfInBounds_toArray, List.set_cons_zero, List.set_cons_succ])
  refine wpAnyH_ready (rs := [4]) (by kernel_rfl) (by simp) ?_
  refine AllReadyH.cons rfl (fun K hK => ?_) AllReadyH.nil
  rw [if_pos (by rfl)]
  refine wp_store_row 43 _ _ rfl (w.heap.size + 1 + 1) s.v rfl rfl 43 #[.int .u32 0, .int .u32 0, .int .u32 0, .int .u32 0, .int .u32 0, .int .u32 0, .int .u32 0, .int .u32 0, .int .u32 0, .int .u32 0, .int .u32 0, .int .u32 0, .int .u32 0, .int .u32 0, .int .u32 0, .int .u32 0, .int .u32 0, .int .u32 0, .bool false] blkA size_sta rfl (v_one _) ?_
  refine hK.out _ _ (At.setRow hH (by omega) _) (fun hH => ?_)
  clear hK K
  (try simp only [List.getElem_toArray, List.getElem_cons_zero, List.getElem_cons_succ, Act.put, List.setIfInBounds_toArray, List.set_cons_zero, List.set_cons_succ])
  refine wpAnyH_ready (rs := [5]) (by kernel_rfl) (by simp) ?_
  refine AllReadyH.cons rfl (fun K hK => ?_) AllReadyH.nil
  rw [if_pos (by rfl)]
  refine wp_store_row 45 _ _ rfl (w.heap.size + 1 + 1 + 1) (fltV (1, s.pc)) rfl rfl 45 #[.int .i64 0, .int .u32 0] blkA size_flt rfl (by simp [Value.oneCell']) ?_
  refine hK.out _ _ (At.setRow hH (by omega) _) (fun hH => ?_)
  clear hK K
  (try simp only [List.getElem_toArray, List.getElem_cons_zero, List.getElem_cons_succ, Act.put, List.setIfInBounds_toArray, List.set_cons_zero, List.set_cons_succ])
  refine wpAnyH_done (by kernel_rfl) ?_ _
  go_wp2_with fail
  try simp only [Exit.inBlock, Exit.then]
  exact bodyPost_ret (resultsCC rfl _ _ (w.heap.size + 1 + 1) 43 _ (0, 0) _ (w.heap.size + 1 + 1 + 1) 45 _ (0, 0) _ (by rfl) blkA Tryd.underlying43 rfl (by exact size_sta) (by rfl) blkA Tryd.underlying45 rfl (by exact size_flt)) rfl ⟨by rfl, kepA⟩
end Go.Proofs.YtfpknklibiigfaaDoor
