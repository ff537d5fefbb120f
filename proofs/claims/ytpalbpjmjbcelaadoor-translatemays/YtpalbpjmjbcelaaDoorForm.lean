/- What formOf answers: the row of the code's table of forms that is the operation's. -/
import Derived.Test.YtpalbpjmjbcelaaDoorFormm
import Derived.LoopTactic
namespace Go.Proofs.YtpalbpjmjbcelaaDoor
open Go.RowKit

theorem size43 : (Tryd.prog.info? 75).map (·.size) = some 5 := by kernel_rfl
theorem form_one (r : Nat) : (formA r).all (·.oneCell') = true := by simp [formA, Value.oneCell']
theorem span_at (k : Nat) (hk : k < 14) (w : World) : (Instr.index 123 (.agg spansC) (.int .i64 k)).run Tryd.prog w = .ok (.agg (spanA k)) w := by
  rcases (by omega : k = 0 ∨ k = 1 ∨ k = 2 ∨ k = 3 ∨ k = 4 ∨ k = 5 ∨ k = 6 ∨ k = 7 ∨ k = 8 ∨ k = 9 ∨ k = 10 ∨ k = 11 ∨ k = 12 ∨ k = 13) with rfl | rfl | rfl | rfl | rfl | rfl | rfl | rfl | rfl | rfl | rfl | rfl | rfl | rfl <;> kernel_rfl

set_option maxHeartbeats 1000000 in
set_option maxRecDepth 100000 in
theorem formOf_any (op : Int) (host : Bool) (w : World) (h0 : 0 ≤ op) (h1 : op < 256) (hT : Tabs w) :
    Calls Tryd.prog 28 #[.int .u8 op, .bool host] w fun e w' => e = .returned (.agg (formA (rowOf op host))) ∧ Kep w w' := by
  obtain ⟨ts, hs⟩ := hT.2
  have hs' : (w.alloc (.cells #[.int .u8 0, .int .u8 0, .int .u8 0, .int .u8 0, .int .u8 0] 75)).heap[1]? = some (.cells spansC ts (0, 0)) := ((Kep.refl _).alloc _).block hs
  obtain ⟨M, hM⟩ : ∃ M : Nat → Bool, Hid (∀ j, M j = matchB j op host) := ⟨_, fun _ => rfl⟩
  cases host
  all_goals
    go_enter Tryd.func28, Tryd.ntmps28
    go_wp2_with (refine wpList_load_row rfl 123 _ rfl 1 rfl ts _ (0, 0) _ hs' Tryd.underlying123 rfl (by kernel_rfl) ?_)
    go_loopw [8] (fun i wr => ∃ k : Nat, k ≤ 14 ∧ i = .int .i64 k ∧ Hid (Kep (w.alloc (.cells #[.int .u8 0, .int .u8 0, .int .u8 0, .int .u8 0, .int .u8 0] 75)) wr) ∧ Hid (∀ j : Nat, j < k → M j = false)) (fun i _ => 14 - (intOf i).toNat)
    case atStart => exact ⟨0, Nat.zero_le _, rfl, Kep.refl _, fun j hj => absurd hj (Nat.not_lt_zero j)⟩
    case round =>
      obtain ⟨k, hk, rfl, hg, hm⟩ := hrel
      have hG : Hid (Kep w wr) := kep_trans ((Kep.refl _).alloc _) hg
      have hT' := hT.grown hG
      have z0 : 0 < wr.heap.size := Nat.lt_of_lt_of_le (by have := tabs_size hT; omega) hG.size
      have z1 : w.heap.size < wr.heap.size := Nat.lt_of_lt_of_le (by simp) hg.size
      have hrow : wr.heap[w.heap.size]? = some (.cells #[.int .u8 0, .int .u8 0, .int .u8 0, .int .u8 0, .int .u8 0] 75 (0, 0)) := hg.block (heap_alloc_new _ _)
      have hrow2 := ((Kep.refl wr).alloc (.cells #[.int .u8 (sLo k), .int .u8 (sHi k), .int .u8 (sRow k), .bool (sHost k)] 122)).block hrow
      clear hs hs'
      rcases Nat.lt_or_ge k 14 with h14 | h14
      · have hi := span_at k h14
        unfold spanA at hi
        have hr2 := sRow_lt k h14
        have hr0 : (0 : Int) ≤ sRow k := by omega
        have hr1 : (sRow k : Int) < 10 := by omega
        obtain ⟨c0, c1, c2, c3, c4⟩ := hT'.form (sRow k) hr2
        clear hrow
        have hb : ∃ b, Hid (sHost k = b) ∧ sHost k = b := ⟨_, rfl, rfl⟩
        obtain ⟨b, hb, hb'⟩ := hb
        rw [hb'] at hi hrow2
        clear hb'
        cases b
        all_goals go_wp2_with ((refine wpList_store_row rfl 75 _ _ rfl w.heap.size (formA (sRow k)) rfl rfl 75 _ hrow2 size43 rfl (form_one _) ?_))
        all_goals first
          | (try simp only [Exit.inBlock, Exit.then]
             refine bodyPost_ret (results_cell_row rfl _ _ w.heap.size 75 (formA (sRow k)) (0, 0) _ rfl (setRow_heap _ _ _ _ _ _ hrow2) Tryd.underlying75 rfl size43) rfl ⟨?_, ?_⟩
             · rw [row_hit op h0 h1 _ k h14 (by have hb' := hb.out; clear hi hm hM; simp_all [matchB])]
             · exact (hG.alloc _).setRow _ _ (Nat.le_refl _))
          | (go_roundw
             case rel =>
               refine ⟨k + 1, by omega, by go_num, hg.alloc _, fun j hj => ?_⟩
               rcases Nat.lt_or_ge j k with hjk | hjk
               · exact hm j hjk
               · obtain rfl : j = k := by omega
                 have hb' := hb.out
                 rw [hM.out]
                 clear hm hM
                 clear hi
                 simp_all [matchB]
                 try omega
             case measure => simp [intOf]; omega)
      · obtain rfl : k = 14 := by omega
        obtain ⟨c0, c1, c2, c3, c4⟩ := hT'.form 0 (by decide)
        clear hrow2
        go_wp2_with (refine wpList_store_row rfl 75 _ _ rfl w.heap.size (formA 0) rfl rfl 75 _ hrow size43 rfl (form_one _) ?_)
        try simp only [Exit.inBlock, Exit.then]
        refine bodyPost_ret (results_cell_row rfl _ _ w.heap.size 75 (formA 0) (0, 0) _ rfl (setRow_heap _ _ _ _ _ _ hrow) Tryd.underlying75 rfl size43) rfl ⟨?_, ?_⟩
        · rw [row_miss op h0 h1 _ (fun j hj => (hM.out j).symm.trans (hm j hj))]
        · exact hG.setRow _ _ (Nat.le_refl _)
end Go.Proofs.YtpalbpjmjbcelaaDoor
