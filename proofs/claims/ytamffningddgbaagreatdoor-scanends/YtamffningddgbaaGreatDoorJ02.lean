/- Part of a proof. -/
import Derived.LoopTactic
import Derived.Test.YtamffningddgbaaGreatDoorRows
import Derived.Laws.BitsLemmas
import Derived.Deep.RegionWith
import Derived.Deep.CutRange
import Derived.Test.YtamffningddgbaaGreatDoorJ01
namespace Go.Proofs.YtamffningddgbaaGreatDoor
open Go.RowKit
set_option linter.unusedVariables false
set_option linter.unusedSimpArgs false
theorem size43 : (Tryz.prog.info? 156).map (·.size) = some 5 := by kernel_rfl
theorem form_one (r : Nat) : (formA r).all (·.oneCell') = true := by simp [formA, Value.oneCell']
theorem span_at (k : Nat) (hk : k < 14) (w : World) : (Instr.index 178 (.agg spansC) (.int .i64 k)).run Tryz.prog w = .ok (.agg (spanA k)) w := by
  rcases (by omega : k = 0 ∨ k = 1 ∨ k = 2 ∨ k = 3 ∨ k = 4 ∨ k = 5 ∨ k = 6 ∨ k = 7 ∨ k = 8 ∨ k = 9 ∨ k = 10 ∨ k = 11 ∨ k = 12 ∨ k = 13) with rfl | rfl | rfl | rfl | rfl | rfl | rfl | rfl | rfl | rfl | rfl | rfl | rfl | rfl <;> kernel_rfl
set_option maxHeartbeats 1000000 in
set_option maxRecDepth 100000 in
theorem formOf_any (op : Int) (host : Bool) (w : World) (h0 : 0 ≤ op) (h1 : op < 256) (hT : Tabs w) :
    Calls Tryz.prog 67 #[.int .u8 op, .bool host] w fun e w' => e = .returned (.agg (formA (rowOf op host))) ∧ Kep w w' := by
  obtain ⟨ts, hs⟩ := hT.2
  have hs' : (w.alloc (.cells #[.int .u8 0, .int .u8 0, .int .u8 0, .int .u8 0, .int .u8 0] 156)).heap[1]? = some (.cells spansC ts (0, 0)) := ((Kep.refl _).alloc _).block hs
  obtain ⟨M, hM⟩ : ∃ M : Nat → Bool, Hid (∀ j, M j = matchB j op host) := ⟨_, fun _ => rfl⟩
  cases host
  all_goals
    go_enter Tryz.func67, Tryz.ntmps67
    go_wp2_with (refine wpList_load_row rfl 178 _ rfl 1 rfl ts _ (0, 0) _ hs' Tryz.underlying178 rfl (by kernel_rfl) ?_)
    go_loopw [8] (fun i wr => ∃ k : Nat, k ≤ 14 ∧ i = .int .i64 k ∧ Hid (Kep (w.alloc (.cells #[.int .u8 0, .int .u8 0, .int .u8 0, .int .u8 0, .int .u8 0] 156)) wr) ∧ Hid (∀ j : Nat, j < k → M j = false)) (fun i _ => 14 - (intOf i).toNat)
    case atStart => exact ⟨0, Nat.zero_le _, rfl, Kep.refl _, fun j hj => absurd hj (Nat.not_lt_zero j)⟩
    case round =>
      obtain ⟨k, hk, rfl, hg, hm⟩ := hrel
      have hG : Hid (Kep w wr) := kep_trans ((Kep.refl _).alloc _) hg
      have hT' := hT.grown hG
      have z0 : 0 < wr.heap.size := Nat.lt_of_lt_of_le (by have := tabs_size hT; omega) hG.size
      have z1 : w.heap.size < wr.heap.size := Nat.lt_of_lt_of_le (by simp) hg.size
      have hrow : wr.heap[w.heap.size]? = some (.cells #[.int .u8 0, .int .u8 0, .int .u8 0, .int .u8 0, .int .u8 0] 156 (0, 0)) := hg.block (heap_alloc_new _ _)
      have hrow2 := ((Kep.refl wr).alloc (.cells #[.int .u8 (sLo k), .int .u8 (sHi k), .int .u8 (sRow k), .bool (sHost k)] 177)).block hrow
      clear hs hs'
      rcases Nat.lt_or_ge k 14 with h14 | h14
      · have hi := span_at k h14
        unfold spanA at hi
        have hr2 := sRow_lt k h14
        have hr0 : (0 : Int) ≤ sRow k := by omega
        have hr1 : (sRow k : Int) < 10 := by omega
        obtain ⟨c0, c1, c2, c3, c4⟩ := hT'.form (sRow k) hr2
        clear hrow
        have hb : ∃ b, Hid (sHost k = b) ∧ sHost k = b := ⟨_, rfl, rfl⟩
        obtain ⟨b, hb, hb'⟩ := hb
        rw [hb'] at hi hrow2
        clear hb'
        cases b
        all_goals go_wp2_with ((refine wpList_store_row rfl 156 _ _ rfl w.heap.size (formA (sRow k)) rfl rfl 156 _ hrow2 size43 rfl (form_one _) ?_))
        all_goals first
          | (try simp only [Exit.inBlock, Exit.then]
             refine bodyPost_ret (results_cell_row rfl _ _ w.heap.size 156 (formA (sRow k)) (0, 0) _ rfl (setRow_heap _ _ _ _ _ _ hrow2) Tryz.underlying156 rfl size43) rfl ⟨?_, ?_⟩
             · rw [row_hit op h0 h1 _ k h14 (by have hb' := hb.out; clear hi hm hM; simp_all [matchB])]
             · exact (hG.alloc _).setRow _ _ (Nat.le_refl _))
          | (go_roundw
             case rel =>
               refine ⟨k + 1, by omega, by go_num, hg.alloc _, fun j hj => ?_⟩
               rcases Nat.lt_or_ge j k with hjk | hjk
               · exact hm j hjk
               · obtain rfl : j = k := by omega
                 have hb' := hb.out
                 rw [hM.out]
                 clear hm hM
                 clear hi
                 simp_all [matchB]
                 try omega
             case measure => simp [intOf]; omega)
      · obtain rfl : k = 14 := by omega
        obtain ⟨c0, c1, c2, c3, c4⟩ := hT'.form 0 (by decide)
        clear hrow2
        go_wp2_with (refine wpList_store_row rfl 156 _ _ rfl w.heap.size (formA 0) rfl rfl 156 _ hrow size43 rfl (form_one _) ?_)
        try simp only [Exit.inBlock, Exit.then]
        refine bodyPost_ret (results_cell_row rfl _ _ w.heap.size 156 (formA 0) (0, 0) _ rfl (setRow_heap _ _ _ _ _ _ hrow) Tryz.underlying156 rfl size43) rfl ⟨?_, ?_⟩
        · rw [row_miss op h0 h1 _ (fun j hj => (hM.out j).symm.trans (hm j hj))]
        · exact hG.setRow _ _ (Nat.le_refl _)
def sz (r : Nat) : Int := [0, 1, 2, 2, 2, 3, 3, 3, 3, 6].getD r 0
def lo (r : Nat) : Int := [0, 0, 0, 0, 0, -128, -128, -32768, 0, -2147483648].getD r 0
def hi (r : Nat) : Int := [0, 0, 0, 0, 255, 127, 127, 32767, 65535, 2147483647].getD r 0
def hasA (r : Nat) : Bool := [false, false, true, true, false, true, true, false, false, true].getD r false
theorem ten {p : Nat → Prop} (r : Nat) (hr : r < 10) (h0 : p 0) (h1 : p 1) (h2 : p 2) (h3 : p 3) (h4 : p 4) (h5 : p 5) (h6 : p 6) (h7 : p 7) (h8 : p 8) (h9 : p 9) : p r := by
  rcases (by omega : r = 0 ∨ r = 1 ∨ r = 2 ∨ r = 3 ∨ r = 4 ∨ r = 5 ∨ r = 6 ∨ r = 7 ∨ r = 8 ∨ r = 9) with rfl | rfl | rfl | rfl | rfl | rfl | rfl | rfl | rfl | rfl <;> assumption
set_option maxHeartbeats 400000 in
theorem has_of (a b c d e : Int) (w : World) :
    Calls Tryz.prog 84 #[.agg #[.int .u8 a, .int .u8 b, .int .u8 c, .int .u8 d, .int .u8 e]] w fun x w' => x = .returned (.bool (decide (b > 0))) ∧ w' = w.alloc (.cells #[.int .u8 a, .int .u8 b, .int .u8 c, .int .u8 d, .int .u8 e] 156) := by
  go_enter Tryz.func84, Tryz.ntmps84
  go_wp2
  go_ret
  exact ⟨rfl, rfl⟩
theorem has_any (r : Nat) (hr : r < 10) (w : World) :
    Calls Tryz.prog 84 #[.agg (formA r)] w fun x w' => x = .returned (.bool (hasA r)) ∧ w' = w.alloc (.cells (formA r) 156) := by
  have e : hasA r = decide (f1 r > 0) := ten (p := fun r => hasA r = decide (f1 r > 0)) r hr rfl rfl rfl rfl rfl rfl rfl rfl rfl rfl
  rw [e]; exact has_of _ _ _ _ _ w
set_option maxHeartbeats 400000 in
theorem size_of (a b c d e : Int) (w : World) (h0 : 0 ≤ a) (h1 : a ≤ 1) (h2 : 0 ≤ d) (h3 : d ≤ 4) :
    Calls Tryz.prog 68 #[.agg #[.int .u8 a, .int .u8 b, .int .u8 c, .int .u8 d, .int .u8 e]] w fun x w' => x = .returned (.int .i64 (a + d + if b > 0 then 1 else 0)) ∧ w' = (w.alloc (.cells #[.int .u8 a, .int .u8 b, .int .u8 c, .int .u8 d, .int .u8 e] 156)).alloc (.cells #[.int .u8 a, .int .u8 b, .int .u8 c, .int .u8 d, .int .u8 e] 156) := by
  go_enter Tryz.func68, Tryz.ntmps68
  go_wp2_with fail
  refine (has_of _ _ _ _ _ _).mono ?_
  rintro x w1 ⟨rfl, rfl⟩
  go_wp2_with fail
  all_goals go_ret
  all_goals exact ⟨ret_int (by simp_all <;> omega), rfl⟩
theorem size_any (r : Nat) (hr : r < 10) (w : World) :
    Calls Tryz.prog 68 #[.agg (formA r)] w fun x w' => x = .returned (.int .i64 (sz r)) ∧ w' = (w.alloc (.cells (formA r) 156)).alloc (.cells (formA r) 156) := by
  have e : sz r = f0 r + f3 r + if f1 r > 0 then 1 else 0 := ten (p := fun r => sz r = f0 r + f3 r + if f1 r > 0 then 1 else 0) r hr rfl rfl rfl rfl rfl rfl rfl rfl rfl rfl
  have a0 : 0 ≤ f0 r ∧ f0 r ≤ 1 ∧ 0 ≤ f3 r ∧ f3 r ≤ 4 := by refine ten (p := fun r => 0 ≤ f0 r ∧ f0 r ≤ 1 ∧ 0 ≤ f3 r ∧ f3 r ≤ 4) r hr ?_ ?_ ?_ ?_ ?_ ?_ ?_ ?_ ?_ ?_ <;> decide
  rw [e]; exact size_of _ _ _ _ _ w a0.1 a0.2.1 a0.2.2.1 a0.2.2.2
set_option maxHeartbeats 400000 in
theorem imm_s (a b c : Int) (w : World) (d n : Int) (hd : d = 1 ∧ n = 128 ∨ d = 2 ∧ n = 32768 ∨ d = 4 ∧ n = 2147483648) :
    Calls Tryz.prog 85 #[.agg #[.int .u8 a, .int .u8 b, .int .u8 c, .int .u8 d, .int .u8 1]] w fun x w' => x = .returned (.tuple #[.int .i64 (-n), .int .i64 (n - 1)]) ∧ Kep w w' := by
  rcases hd with ⟨rfl, rfl⟩ | ⟨rfl, rfl⟩ | ⟨rfl, rfl⟩
  all_goals
    go_enter Tryz.func85, Tryz.ntmps85
    go_wp2
    go_ret2
    exact ⟨rfl, (Kep.refl _).alloc _⟩
set_option maxHeartbeats 400000 in
theorem imm_u (a b c : Int) (w : World) (d n : Int) (hd : d = 0 ∧ n = 0 ∨ d = 1 ∧ n = 255 ∨ d = 2 ∧ n = 65535) :
    Calls Tryz.prog 85 #[.agg #[.int .u8 a, .int .u8 b, .int .u8 c, .int .u8 d, .int .u8 0]] w fun x w' => x = .returned (.tuple #[.int .i64 0, .int .i64 n]) ∧ Kep w w' := by
  rcases hd with ⟨rfl, rfl⟩ | ⟨rfl, rfl⟩ | ⟨rfl, rfl⟩
  all_goals
    go_enter Tryz.func85, Tryz.ntmps85
    go_wp2
    go_ret2
    exact ⟨rfl, (Kep.refl _).alloc _⟩
theorem imm_any (r : Nat) (hr : r < 10) (w : World) :
    Calls Tryz.prog 85 #[.agg (formA r)] w fun x w' => x = .returned (.tuple #[.int .i64 (lo r), .int .i64 (hi r)]) ∧ Kep w w' :=
  ten (p := fun r => Calls Tryz.prog 85 #[.agg (formA r)] w fun x w' => x = .returned (.tuple #[.int .i64 (lo r), .int .i64 (hi r)]) ∧ Kep w w') r hr
    (imm_u 0 0 0 w 0 0 (by simp)) (imm_u 1 0 0 w 0 0 (by simp)) (imm_u 1 7 0 w 0 0 (by simp)) (imm_u 1 7 7 w 0 0 (by simp)) (imm_u 1 0 0 w 1 255 (by simp))
    (imm_s 1 7 0 w 1 128 (by simp)) (imm_s 1 7 7 w 1 128 (by simp)) (imm_s 1 0 0 w 2 32768 (by simp)) (imm_u 1 0 0 w 2 65535 (by simp)) (imm_s 1 7 0 w 4 2147483648 (by simp))
def rB (r : Nat) : Bool := [false, false, false, true, false, false, true, false, false, false].getD r false
def rS (r : Nat) : Bool := [false, false, false, false, false, true, true, true, false, true].getD r false
def rformA (r : Nat) : Array Value := #[.int .i64 (sz r), .bool (hasA r), .bool (rB r), .int .i64 (f3 r), .bool (rS r)]
theorem size24 : (Tryz.prog.info? 144).map (·.size) = some 5 := by kernel_rfl
theorem rform_one (r : Nat) : (rformA r).all (·.oneCell') = true := by simp [rformA, Value.oneCell']
abbrev zero24 : Array Value := #[.int .i64 0, .bool false, .bool false, .int .i64 0, .bool false]
theorem ret24 (w : World) (r : Nat) : Kep w ((w.alloc (.cells zero24 144)).setRow w.heap.size (rformA r)) := ((Kep.refl _).alloc _).setRow _ _ (Nat.le_refl _)
set_option maxHeartbeats 2000000 in
set_option maxRecDepth 100000 in
theorem ref1 (op : Int) (host : Bool) (w : World) (h : op = 0 ∨ op = 1 ∨ op = 2 ∨ op = 3) :
    Calls Tryz.prog 59 #[.int .u8 op, .bool host] w fun e w' => e = .returned (.agg (rformA 1)) ∧ Kep w w' := by
  rcases h with rfl | rfl | rfl | rfl
  all_goals
    go_enter Tryz.func59, Tryz.ntmps59
    go_wp2_with (refine wpList_store_row rfl 144 _ _ rfl w.heap.size (rformA 1) rfl rfl 144 zero24 (heap_alloc_new _ _) size24 rfl (rform_one _) ?_)
  all_goals
    try simp only [Exit.inBlock, Exit.then]
    refine bodyPost_ret (results_cell_row rfl _ _ w.heap.size 144 (rformA 1) (0, 0) _ rfl (setRow_heap _ _ _ _ _ _ (heap_alloc_new _ _)) Tryz.underlying144 rfl size24) rfl ⟨rfl, ret24 w 1⟩
set_option maxHeartbeats 2000000 in
set_option maxRecDepth 100000 in
theorem ref3a (op : Int) (host : Bool) (w : World) (h : 16 ≤ op) (h' : op ≤ 31) :
    Calls Tryz.prog 59 #[.int .u8 op, .bool host] w fun e w' => e = .returned (.agg (rformA 3)) ∧ Kep w w' := by
  have q0 : (op == 0) = false := by rw [beq_eq_false_iff_ne]; omega
  have q1 : (op == 1) = false := by rw [beq_eq_false_iff_ne]; omega
  have q2 : (op == 2) = false := by rw [beq_eq_false_iff_ne]; omega
  have q3 : (op == 3) = false := by rw [beq_eq_false_iff_ne]; omega
  all_goals
    go_enter Tryz.func59, Tryz.ntmps59
    go_wp2_with (refine wpList_store_row rfl 144 _ _ rfl w.heap.size (rformA 3) rfl rfl 144 zero24 (heap_alloc_new _ _) size24 rfl (rform_one _) ?_)
  all_goals
    try simp only [Exit.inBlock, Exit.then]
    refine bodyPost_ret (results_cell_row rfl _ _ w.heap.size 144 (rformA 3) (0, 0) _ rfl (setRow_heap _ _ _ _ _ _ (heap_alloc_new _ _)) Tryz.underlying144 rfl size24) rfl ⟨rfl, ret24 w 3⟩
set_option maxHeartbeats 2000000 in
set_option maxRecDepth 100000 in
theorem ref3b (op : Int) (host : Bool) (w : World) (h : op = 58 ∨ op = 98 ∨ op = 99 ∨ op = 100 ∨ op = 101) :
    Calls Tryz.prog 59 #[.int .u8 op, .bool host] w fun e w' => e = .returned (.agg (rformA 3)) ∧ Kep w w' := by
  rcases h with rfl | rfl | rfl | rfl | rfl
  all_goals
    go_enter Tryz.func59, Tryz.ntmps59
    go_wp2_with (refine wpList_store_row rfl 144 _ _ rfl w.heap.size (rformA 3) rfl rfl 144 zero24 (heap_alloc_new _ _) size24 rfl (rform_one _) ?_)
  all_goals
    try simp only [Exit.inBlock, Exit.then]
    refine bodyPost_ret (results_cell_row rfl _ _ w.heap.size 144 (rformA 3) (0, 0) _ rfl (setRow_heap _ _ _ _ _ _ (heap_alloc_new _ _)) Tryz.underlying144 rfl size24) rfl ⟨rfl, ret24 w 3⟩
set_option maxHeartbeats 2000000 in
set_option maxRecDepth 100000 in
theorem ref2 (op : Int) (host : Bool) (w : World) (h : op = 73 ∨ op = 74 ∨ op = 56 ∨ op = 57 ∨ op = 96 ∨ op = 97) :
    Calls Tryz.prog 59 #[.int .u8 op, .bool host] w fun e w' => e = .returned (.agg (rformA 2)) ∧ Kep w w' := by
  rcases h with rfl | rfl | rfl | rfl | rfl | rfl
  all_goals
    go_enter Tryz.func59, Tryz.ntmps59
    go_wp2_with (refine wpList_store_row rfl 144 _ _ rfl w.heap.size (rformA 2) rfl rfl 144 zero24 (heap_alloc_new _ _) size24 rfl (rform_one _) ?_)
  all_goals
    try simp only [Exit.inBlock, Exit.then]
    refine bodyPost_ret (results_cell_row rfl _ _ w.heap.size 144 (rformA 2) (0, 0) _ rfl (setRow_heap _ _ _ _ _ _ (heap_alloc_new _ _)) Tryz.underlying144 rfl size24) rfl ⟨rfl, ret24 w 2⟩
set_option maxHeartbeats 2000000 in
set_option maxRecDepth 100000 in
theorem ref4 (op : Int) (host : Bool) (w : World) (h : op = 80 ∨ (op = 112 ∧ host = true)) :
    Calls Tryz.prog 59 #[.int .u8 op, .bool host] w fun e w' => e = .returned (.agg (rformA 4)) ∧ Kep w w' := by
  rcases h with rfl | ⟨rfl, rfl⟩
  all_goals
    go_enter Tryz.func59, Tryz.ntmps59
    go_wp2_with (refine wpList_store_row rfl 144 _ _ rfl w.heap.size (rformA 4) rfl rfl 144 zero24 (heap_alloc_new _ _) size24 rfl (rform_one _) ?_)
  all_goals
    try simp only [Exit.inBlock, Exit.then]
    refine bodyPost_ret (results_cell_row rfl _ _ w.heap.size 144 (rformA 4) (0, 0) _ rfl (setRow_heap _ _ _ _ _ _ (heap_alloc_new _ _)) Tryz.underlying144 rfl size24) rfl ⟨rfl, ret24 w 4⟩
set_option maxHeartbeats 2000000 in
set_option maxRecDepth 100000 in
theorem ref5 (op : Int) (host : Bool) (w : World) (h : op = 33) :
    Calls Tryz.prog 59 #[.int .u8 op, .bool host] w fun e w' => e = .returned (.agg (rformA 5)) ∧ Kep w w' := by
  subst h
  all_goals
    go_enter Tryz.func59, Tryz.ntmps59
    go_wp2_with (refine wpList_store_row rfl 144 _ _ rfl w.heap.size (rformA 5) rfl rfl 144 zero24 (heap_alloc_new _ _) size24 rfl (rform_one _) ?_)
  all_goals
    try simp only [Exit.inBlock, Exit.then]
    refine bodyPost_ret (results_cell_row rfl _ _ w.heap.size 144 (rformA 5) (0, 0) _ rfl (setRow_heap _ _ _ _ _ _ (heap_alloc_new _ _)) Tryz.underlying144 rfl size24) rfl ⟨rfl, ret24 w 5⟩
set_option maxHeartbeats 2000000 in
set_option maxRecDepth 100000 in
theorem ref9 (op : Int) (host : Bool) (w : World) (h : op = 32) :
    Calls Tryz.prog 59 #[.int .u8 op, .bool host] w fun e w' => e = .returned (.agg (rformA 9)) ∧ Kep w w' := by
  subst h
  all_goals
    go_enter Tryz.func59, Tryz.ntmps59
    go_wp2_with (refine wpList_store_row rfl 144 _ _ rfl w.heap.size (rformA 9) rfl rfl 144 zero24 (heap_alloc_new _ _) size24 rfl (rform_one _) ?_)
  all_goals
    try simp only [Exit.inBlock, Exit.then]
    refine bodyPost_ret (results_cell_row rfl _ _ w.heap.size 144 (rformA 9) (0, 0) _ rfl (setRow_heap _ _ _ _ _ _ (heap_alloc_new _ _)) Tryz.underlying144 rfl size24) rfl ⟨rfl, ret24 w 9⟩
set_option maxHeartbeats 2000000 in
set_option maxRecDepth 100000 in
theorem ref8 (op : Int) (host : Bool) (w : World) (h : op = 113 ∧ host = true) :
    Calls Tryz.prog 59 #[.int .u8 op, .bool host] w fun e w' => e = .returned (.agg (rformA 8)) ∧ Kep w w' := by
  obtain ⟨rfl, rfl⟩ := h
  all_goals
    go_enter Tryz.func59, Tryz.ntmps59
    go_wp2_with (refine wpList_store_row rfl 144 _ _ rfl w.heap.size (rformA 8) rfl rfl 144 zero24 (heap_alloc_new _ _) size24 rfl (rform_one _) ?_)
  all_goals
    try simp only [Exit.inBlock, Exit.then]
    refine bodyPost_ret (results_cell_row rfl _ _ w.heap.size 144 (rformA 8) (0, 0) _ rfl (setRow_heap _ _ _ _ _ _ (heap_alloc_new _ _)) Tryz.underlying144 rfl size24) rfl ⟨rfl, ret24 w 8⟩
set_option maxHeartbeats 2000000 in
set_option maxRecDepth 100000 in
theorem ref6 (op : Int) (host : Bool) (w : World) (h : 48 ≤ op) (h' : op ≤ 55) :
    Calls Tryz.prog 59 #[.int .u8 op, .bool host] w fun e w' => e = .returned (.agg (rformA 6)) ∧ Kep w w' := by
  have q0 : (op == 0) = false := by rw [beq_eq_false_iff_ne]; omega
  have q1 : (op == 1) = false := by rw [beq_eq_false_iff_ne]; omega
  have q2 : (op == 2) = false := by rw [beq_eq_false_iff_ne]; omega
  have q3 : (op == 3) = false := by rw [beq_eq_false_iff_ne]; omega
  have q58 : (op == 58) = false := by rw [beq_eq_false_iff_ne]; omega
  have q98 : (op == 98) = false := by rw [beq_eq_false_iff_ne]; omega
  have q99 : (op == 99) = false := by rw [beq_eq_false_iff_ne]; omega
  have q100 : (op == 100) = false := by rw [beq_eq_false_iff_ne]; omega
  have q101 : (op == 101) = false := by rw [beq_eq_false_iff_ne]; omega
  have q73 : (op == 73) = false := by rw [beq_eq_false_iff_ne]; omega
  have q74 : (op == 74) = false := by rw [beq_eq_false_iff_ne]; omega
  have q56 : (op == 56) = false := by rw [beq_eq_false_iff_ne]; omega
  have q57 : (op == 57) = false := by rw [beq_eq_false_iff_ne]; omega
  have q96 : (op == 96) = false := by rw [beq_eq_false_iff_ne]; omega
  have q97 : (op == 97) = false := by rw [beq_eq_false_iff_ne]; omega
  have q80 : (op == 80) = false := by rw [beq_eq_false_iff_ne]; omega
  have q112 : (op == 112) = false := by rw [beq_eq_false_iff_ne]; omega
  have q33 : (op == 33) = false := by rw [beq_eq_false_iff_ne]; omega
  have r31 : decide (op ≤ 31) = false := by rw [decide_eq_false_iff_not]; omega
  all_goals
    go_enter Tryz.func59, Tryz.ntmps59
    go_wp2_with (refine wpList_store_row rfl 144 _ _ rfl w.heap.size (rformA 6) rfl rfl 144 zero24 (heap_alloc_new _ _) size24 rfl (rform_one _) ?_)
  all_goals
    try simp only [Exit.inBlock, Exit.then]
    refine bodyPost_ret (results_cell_row rfl _ _ w.heap.size 144 (rformA 6) (0, 0) _ rfl (setRow_heap _ _ _ _ _ _ (heap_alloc_new _ _)) Tryz.underlying144 rfl size24) rfl ⟨rfl, ret24 w 6⟩
set_option maxHeartbeats 2000000 in
set_option maxRecDepth 100000 in
theorem ref7 (op : Int) (host : Bool) (w : World) (h : 64 ≤ op) (h' : op ≤ 72) :
    Calls Tryz.prog 59 #[.int .u8 op, .bool host] w fun e w' => e = .returned (.agg (rformA 7)) ∧ Kep w w' := by
  have q0 : (op == 0) = false := by rw [beq_eq_false_iff_ne]; omega
  have q1 : (op == 1) = false := by rw [beq_eq_false_iff_ne]; omega
  have q2 : (op == 2) = false := by rw [beq_eq_false_iff_ne]; omega
  have q3 : (op == 3) = false := by rw [beq_eq_false_iff_ne]; omega
  have q58 : (op == 58) = false := by rw [beq_eq_false_iff_ne]; omega
  have q98 : (op == 98) = false := by rw [beq_eq_false_iff_ne]; omega
  have q99 : (op == 99) = false := by rw [beq_eq_false_iff_ne]; omega
  have q100 : (op == 100) = false := by rw [beq_eq_false_iff_ne]; omega
  have q101 : (op == 101) = false := by rw [beq_eq_false_iff_ne]; omega
  have q73 : (op == 73) = false := by rw [beq_eq_false_iff_ne]; omega
  have q74 : (op == 74) = false := by rw [beq_eq_false_iff_ne]; omega
  have q56 : (op == 56) = false := by rw [beq_eq_false_iff_ne]; omega
  have q57 : (op == 57) = false := by rw [beq_eq_false_iff_ne]; omega
  have q96 : (op == 96) = false := by rw [beq_eq_false_iff_ne]; omega
  have q97 : (op == 97) = false := by rw [beq_eq_false_iff_ne]; omega
  have q80 : (op == 80) = false := by rw [beq_eq_false_iff_ne]; omega
  have q112 : (op == 112) = false := by rw [beq_eq_false_iff_ne]; omega
  have q33 : (op == 33) = false := by rw [beq_eq_false_iff_ne]; omega
  have r31 : decide (op ≤ 31) = false := by rw [decide_eq_false_iff_not]; omega
  have r55 : decide (op ≤ 55) = false := by rw [decide_eq_false_iff_not]; omega
  all_goals
    go_enter Tryz.func59, Tryz.ntmps59
    go_wp2_with (refine wpList_store_row rfl 144 _ _ rfl w.heap.size (rformA 7) rfl rfl 144 zero24 (heap_alloc_new _ _) size24 rfl (rform_one _) ?_)
  all_goals
    try simp only [Exit.inBlock, Exit.then]
    refine bodyPost_ret (results_cell_row rfl _ _ w.heap.size 144 (rformA 7) (0, 0) _ rfl (setRow_heap _ _ _ _ _ _ (heap_alloc_new _ _)) Tryz.underlying144 rfl size24) rfl ⟨rfl, ret24 w 7⟩
set_option maxHeartbeats 2000000 in
set_option maxRecDepth 100000 in
theorem ref0h (op : Int) (host : Bool) (w : World)  (h : op = 112 ∨ op = 113) (hh : host = false) :
    Calls Tryz.prog 59 #[.int .u8 op, .bool host] w fun e w' => e = .returned (.agg (rformA 0)) ∧ Kep w w' := by
  subst hh
  rcases h with rfl | rfl
  all_goals
    go_enter Tryz.func59, Tryz.ntmps59
    go_wp2_with (refine wpList_store_row rfl 144 _ _ rfl w.heap.size (rformA 0) rfl rfl 144 zero24 (heap_alloc_new _ _) size24 rfl (rform_one _) ?_)
  all_goals
    try simp only [Exit.inBlock, Exit.then]
    refine bodyPost_ret (results_cell_row rfl _ _ w.heap.size 144 (rformA 0) (0, 0) _ rfl (setRow_heap _ _ _ _ _ _ (heap_alloc_new _ _)) Tryz.underlying144 rfl size24) rfl ⟨rfl, ret24 w 0⟩
set_option maxHeartbeats 2000000 in
set_option maxRecDepth 100000 in
theorem ref0 (op : Int) (host : Bool) (w : World) (h0 : op ≠ 0 ∧ op ≠ 1 ∧ op ≠ 2 ∧ op ≠ 3) (h1 : ¬ (16 ≤ op ∧ op ≤ 31)) (h2 : op ≠ 58 ∧ op ≠ 98 ∧ op ≠ 99 ∧ op ≠ 100 ∧ op ≠ 101) (h3 : op ≠ 73 ∧ op ≠ 74 ∧ op ≠ 56 ∧ op ≠ 57 ∧ op ≠ 96 ∧ op ≠ 97) (h4 : op ≠ 80 ∧ op ≠ 112 ∧ op ≠ 33) (h5 : ¬ (48 ≤ op ∧ op ≤ 55)) (h6 : ¬ (64 ≤ op ∧ op ≤ 72)) (h7 : op ≠ 113 ∧ op ≠ 32) :
    Calls Tryz.prog 59 #[.int .u8 op, .bool host] w fun e w' => e = .returned (.agg (rformA 0)) ∧ Kep w w' := by
  have q0 : (op == 0) = false := by rw [beq_eq_false_iff_ne]; omega
  have q1 : (op == 1) = false := by rw [beq_eq_false_iff_ne]; omega
  have q2 : (op == 2) = false := by rw [beq_eq_false_iff_ne]; omega
  have q3 : (op == 3) = false := by rw [beq_eq_false_iff_ne]; omega
  have q58 : (op == 58) = false := by rw [beq_eq_false_iff_ne]; omega
  have q98 : (op == 98) = false := by rw [beq_eq_false_iff_ne]; omega
  have q99 : (op == 99) = false := by rw [beq_eq_false_iff_ne]; omega
  have q100 : (op == 100) = false := by rw [beq_eq_false_iff_ne]; omega
  have q101 : (op == 101) = false := by rw [beq_eq_false_iff_ne]; omega
  have q73 : (op == 73) = false := by rw [beq_eq_false_iff_ne]; omega
  have q74 : (op == 74) = false := by rw [beq_eq_false_iff_ne]; omega
  have q56 : (op == 56) = false := by rw [beq_eq_false_iff_ne]; omega
  have q57 : (op == 57) = false := by rw [beq_eq_false_iff_ne]; omega
  have q96 : (op == 96) = false := by rw [beq_eq_false_iff_ne]; omega
  have q97 : (op == 97) = false := by rw [beq_eq_false_iff_ne]; omega
  have q80 : (op == 80) = false := by rw [beq_eq_false_iff_ne]; omega
  have q112 : (op == 112) = false := by rw [beq_eq_false_iff_ne]; omega
  have q33 : (op == 33) = false := by rw [beq_eq_false_iff_ne]; omega
  have q113 : (op == 113) = false := by rw [beq_eq_false_iff_ne]; omega
  have q32 : (op == 32) = false := by rw [beq_eq_false_iff_ne]; omega
  have c : (decide (op ≥ 16) = false ∧ decide (op ≥ 48) = false ∧ decide (op ≥ 64) = false) ∨ ((decide (op ≥ 16) = true ∧ decide (op ≤ 31) = false) ∧ decide (op ≥ 48) = false ∧ decide (op ≥ 64) = false) ∨
      ((decide (op ≥ 16) = true ∧ decide (op ≤ 31) = false) ∧ (decide (op ≥ 48) = true ∧ decide (op ≤ 55) = false) ∧ decide (op ≥ 64) = false) ∨
      ((decide (op ≥ 16) = true ∧ decide (op ≤ 31) = false) ∧ (decide (op ≥ 48) = true ∧ decide (op ≤ 55) = false) ∧ (decide (op ≥ 64) = true ∧ decide (op ≤ 72) = false)) := by
    simp only [decide_eq_false_iff_not, decide_eq_true_iff]; omega
  clear h0 h1 h2 h3 h4 h5 h6 h7
  rcases c with ⟨c1, c2, c3⟩ | ⟨⟨c1, c2⟩, c3, c4⟩ | ⟨⟨c1, c2⟩, ⟨c3, c4⟩, c5⟩ | ⟨⟨c1, c2⟩, ⟨c3, c4⟩, ⟨c5, c6⟩⟩
  all_goals
    go_enter Tryz.func59, Tryz.ntmps59
    go_wp2_with (refine wpList_store_row rfl 144 _ _ rfl w.heap.size (rformA 0) rfl rfl 144 zero24 (heap_alloc_new _ _) size24 rfl (rform_one _) ?_)
  all_goals
    try simp only [Exit.inBlock, Exit.then]
    refine bodyPost_ret (results_cell_row rfl _ _ w.heap.size 144 (rformA 0) (0, 0) _ rfl (setRow_heap _ _ _ _ _ _ (heap_alloc_new _ _)) Tryz.underlying144 rfl size24) rfl ⟨rfl, ret24 w 0⟩
theorem refOf_any (op : Int) (host : Bool) (w : World) :
    Calls Tryz.prog 59 #[.int .u8 op, .bool host] w fun e w' => e = .returned (.agg (rformA (rowOf op host))) ∧ Kep w w' := by
  unfold rowOf
  split
  · exact ref1 op host w (by assumption)
  split
  · rename_i h
    rcases h with h | h
    · exact ref3a op host w h.1 h.2
    · exact ref3b op host w h
  split
  · exact ref2 op host w (by assumption)
  split
  · exact ref4 op host w (by assumption)
  split
  · exact ref5 op host w (by assumption)
  split
  · rename_i h; exact ref6 op host w h.1 h.2
  split
  · rename_i h; exact ref7 op host w h.1 h.2
  split
  · exact ref8 op host w (by assumption)
  split
  · exact ref9 op host w (by assumption)
  · by_cases c : op = 112 ∨ op = 113
    · refine ref0h op host w c ?_
      cases host
      · rfl
      · exfalso; simp_all
    · apply ref0 <;> omega
theorem tabs_of_laid {W : World} (h : laidMetH Tryz.prog [("mummer/isa.forms", Rows.laid_mummer_isa_forms), ("mummer/isa.spans", Rows.laid_mummer_isa_spans)] W) : Tabs W := by
  rw [MakeChecks.laidMetH_plain _ _ _ (by kernel_rfl)] at h
  refine ⟨laid_block 4 formsC (show Tryz.prog.globalNamed "mummer/isa.forms" = some 0 by kernel_rfl) (show (Tryz.prog.globals[0]?).map (·.type) = some 158 by kernel_rfl) (by kernel_rfl) (by kernel_rfl) (by rw [show formsC.size = 50 from by kernel_rfl]; decide) h,
    laid_block 4 spansC (show Tryz.prog.globalNamed "mummer/isa.spans" = some 1 by kernel_rfl) (show (Tryz.prog.globals[1]?).map (·.type) = some 178 by kernel_rfl) (by kernel_rfl) (by kernel_rfl) (by rw [show spansC.size = 56 from by kernel_rfl]; decide) (laid_rest h)⟩
def zat (zs : List Int) (i : Nat) : Int := zs.getD i 0
def rawL (zs : List Int) (p : Nat) : Nat → Int
  | 0 => 0
  | k + 1 => rawL zs p k + zat zs (p + k) * 2 ^ (8 * k)
theorem zat_range {zs : List Int} (hz : ∀ n ∈ zs, 0 ≤ n ∧ n < 256) (i : Nat) : 0 ≤ zat zs i ∧ zat zs i < 256 := by
  unfold zat
  rw [List.getD_eq_getElem?_getD]
  cases h : zs[i]? with
  | none => simp
  | some x => exact hz x (List.mem_of_getElem? h)
theorem rawL_range {zs : List Int} (hz : ∀ n ∈ zs, 0 ≤ n ∧ n < 256) (p : Nat) : ∀ k, 0 ≤ rawL zs p k ∧ rawL zs p k < 2 ^ (8 * k)
  | 0 => by simp [rawL]
  | k + 1 => by
    have h1 := rawL_range hz p k
    have h2 := zat_range hz (p + k)
    have h3 : (2 : Int) ^ (8 * (k + 1)) = 2 ^ (8 * k) * 256 := by rw [Nat.mul_add, Int.pow_add]; rfl
    have h4 : (0 : Int) < 2 ^ (8 * k) := Int.pow_pos (by decide)
    simp only [rawL]
    rw [h3]
    generalize (2 : Int) ^ (8 * k) = P at h1 h4
    have h5 : 0 ≤ zat zs (p + k) * P := Int.mul_nonneg h2.1 (by omega)
    have h6 : zat zs (p + k) * P ≤ 255 * P := Int.mul_le_mul_of_nonneg_right (by omega) (by omega)
    omega
theorem or_comm64 (x y : Int) : bits .or .i64 x y = bits .or .i64 y x := by simp only [bits, BitVec.or_comm]
theorem join64 (raw z : Int) (k : Nat) (hk : k ≤ 3) (h0 : 0 ≤ raw) (h1 : raw < 2 ^ (8 * k)) (z0 : 0 ≤ z) (z1 : z < 256) : bits .or .i64 raw (z * 2 ^ (8 * k)) = raw + z * 2 ^ (8 * k) := by
  rw [or_comm64, bits_join .i64 40 (by decide) (by intro n h₀ h₁; rw [IntKind.wrap_i64]; omega) (8 * k) (z * 2 ^ (8 * k)) raw]
  · omega
  · exact Int.mul_nonneg z0 (Int.le_of_lt (Int.pow_pos (by decide)))
  · exact Int.mul_emod_left _ _
  · rcases (by omega : k = 0 ∨ k = 1 ∨ k = 2 ∨ k = 3) with rfl | rfl | rfl | rfl <;> simp <;> omega
  · exact h0
  · exact h1
  · rcases (by omega : k = 0 ∨ k = 1 ∨ k = 2 ∨ k = 3) with rfl | rfl | rfl | rfl <;> simp at h1 ⊢ <;> omega
set_option maxRecDepth 100000 in
theorem and15_all : ∀ n : Nat, n < 256 → bits .and .u8 (n : Int) 15 = (n : Int) % 16 := by decide +kernel
theorem and15 (x : Int) (h0 : 0 ≤ x) (h1 : x < 256) : bits .and .u8 x 15 = x % 16 := by
  obtain ⟨n, rfl⟩ : ∃ n : Nat, x = n := ⟨x.toNat, by omega⟩
  exact and15_all n (by omega)
def posI (r : Nat) : Nat := if hasA r then 2 else 1
def aOf (r : Nat) (zs : List Int) : Int := if hasA r then zat zs 1 / 16 else 0
def bOf (r : Nat) (zs : List Int) : Int := if hasA r then zat zs 1 % 16 else 0
def rawOf (r : Nat) (zs : List Int) : Int := rawL zs (posI r) (f3 r).toNat
def immOf (r : Nat) (zs : List Int) : Int := if rawOf r zs > hi r then rawOf r zs + 2 * lo r else rawOf r zs
theorem raw_hi (r : Nat) (hr : r < 10) : lo r ≤ 0 ∧ 0 ≤ hi r ∧ (2 : Int) ^ (8 * (f3 r).toNat) = (if lo r = 0 then hi r + 1 else 2 * (hi r + 1)) ∧ (lo r ≠ 0 → lo r = -(hi r + 1)) ∧ -2147483648 ≤ lo r ∧ hi r ≤ 2147483647 := by
  refine ten (p := fun r => lo r ≤ 0 ∧ 0 ≤ hi r ∧ (2 : Int) ^ (8 * (f3 r).toNat) = (if lo r = 0 then hi r + 1 else 2 * (hi r + 1)) ∧ (lo r ≠ 0 → lo r = -(hi r + 1)) ∧ -2147483648 ≤ lo r ∧ hi r ≤ 2147483647) r hr ?_ ?_ ?_ ?_ ?_ ?_ ?_ ?_ ?_ ?_ <;> decide
theorem immOf_range {zs : List Int} (hz : ∀ n ∈ zs, 0 ≤ n ∧ n < 256) (r : Nat) (hr : r < 10) : lo r ≤ immOf r zs ∧ immOf r zs ≤ hi r := by
  have h1 := rawL_range hz (posI r) (f3 r).toNat
  obtain ⟨h2, h3, h4, h5, _⟩ := raw_hi r hr
  unfold immOf
  have e : rawOf r zs = rawL zs (posI r) (f3 r).toNat := rfl
  rw [← e, h4] at h1
  split at h1 <;> split <;> omega
abbrev insA (op a b imm : Int) : Array Value := #[.int .u8 op, .int .u8 a, .int .u8 b, .int .i32 imm]
def mayB (r : Nat) (a b imm : Int) : Bool := r != 0 && (((decide (a ≤ f1 r) && decide (b ≤ f2 r)) && decide (lo r ≤ imm)) && decide (imm ≤ hi r))
theorem Tabs.form0 {w : World} (h : Tabs w) : w.cell? ⟨0, 0, none⟩ = some (.int .u8 0) ∧ w.cell? ⟨0, 1, none⟩ = some (.int .u8 0) ∧
    w.cell? ⟨0, 2, none⟩ = some (.int .u8 0) ∧ w.cell? ⟨0, 3, none⟩ = some (.int .u8 0) ∧ w.cell? ⟨0, 4, none⟩ = some (.int .u8 0) := h.form 0 (by decide)
theorem form_eq (r : Nat) (hr : r < 10) (w : World) : Sem.run Tryz.prog (Op.equalIn 10000 156 (.agg (formA r)) (.agg #[.int .u8 0, .int .u8 0, .int .u8 0, .int .u8 0, .int .u8 0])) w = .ok (r == 0) w :=
  ten (p := fun r => Sem.run Tryz.prog (Op.equalIn 10000 156 (.agg (formA r)) (.agg #[.int .u8 0, .int .u8 0, .int .u8 0, .int .u8 0, .int .u8 0])) w = .ok (r == 0) w) r hr
    (by kernel_rfl) (by kernel_rfl) (by kernel_rfl) (by kernel_rfl) (by kernel_rfl) (by kernel_rfl) (by kernel_rfl) (by kernel_rfl) (by kernel_rfl) (by kernel_rfl)
theorem sz_cases (r : Nat) (hr : r < 10) (h0 : r ≠ 0) : sz r = 1 ∨ sz r = 2 ∨ sz r = 3 ∨ sz r = 6 :=
  ten (p := fun r => r ≠ 0 → sz r = 1 ∨ sz r = 2 ∨ sz r = 3 ∨ sz r = 6) r hr (fun h => absurd rfl h) (fun _ => by decide) (fun _ => by decide) (fun _ => by decide) (fun _ => by decide) (fun _ => by decide) (fun _ => by decide) (fun _ => by decide) (fun _ => by decide) (fun _ => by decide) h0
theorem info5 : (Tryz.prog.info? 5).map (fun i => (i.zero, i.size, i.bytes)) = some (some (.int .u8 0), 1, 1) := by kernel_rfl
def byteAt (imm : Int) (k : Nat) : Int := imm / 2 ^ (8 * k) % 256
def preL (r : Nat) (op a b : Int) : List Int := if hasA r then [op, a * 16 + b] else [op]
def encL (r : Nat) (op a b imm : Int) : List Int := preL r op a b ++ (List.range (f3 r).toNat).map (byteAt imm)
abbrev bs (l : List Int) : List Value := l.map (Value.int .u8)
theorem sz_is (r : Nat) (hr : r < 10) (h0 : r ≠ 0) : sz r = (if hasA r then 2 else 1) + f3 r :=
  ten (p := fun r => r ≠ 0 → sz r = (if hasA r then 2 else 1) + f3 r) r hr (fun h => absurd rfl h) (fun _ => rfl) (fun _ => rfl) (fun _ => rfl) (fun _ => rfl) (fun _ => rfl) (fun _ => rfl) (fun _ => rfl) (fun _ => rfl) (fun _ => rfl) h0
theorem f3_range (r : Nat) (hr : r < 10) : 0 ≤ f3 r ∧ f3 r ≤ 4 := by refine ten (p := fun r => 0 ≤ f3 r ∧ f3 r ≤ 4) r hr ?_ ?_ ?_ ?_ ?_ ?_ ?_ ?_ ?_ ?_ <;> decide
theorem owns_mono {w : World} {base base' : Nat} {e : TypeId} {size : Nat} {v : Value} {n : Nat} {xs : List Value} (h : w.ownsRow base e size v n xs) (hb : base' ≤ base) : w.ownsRow base' e size v n xs := by
  refine ⟨h.1, ?_⟩
  rcases h.2 with h | ⟨g, cap, cur, h1, h2, h3⟩
  · exact .inl h
  · exact .inr ⟨g, cap, cur, h1, by omega, h3⟩
theorem one_cell (x : Int) (w : World) : ∀ j u, ([Value.int .u8 x])[j]? = some u → (w.alloc (.cells #[.int .u8 x] 5)).cell? ((⟨w.heap.size, 0, none⟩ : Addr).add j) = some u := by
  intro j u hj
  match j, hj with
  | 0, hj => simp at hj; subst hj; simp [Addr.add]
theorem one_one (x : Int) : ∀ u ∈ [Value.int .u8 x], u.oneCell' = true := by
  intro u hu; simp at hu; subst hu; rfl
theorem heap_at (W : World) (o : Obj) (n : Nat) (h : n = W.heap.size) : (W.alloc o).heap[n]? = some o := by subst h; exact heap_alloc_new W o
theorem heap_skip (W : World) (o : Obj) (n : Nat) (h : n < W.heap.size) : (W.alloc o).heap[n]? = W.heap[n]? := by simp only [World.alloc, Array.getElem?_push_lt h, Array.getElem?_eq_getElem h]
theorem bs_step (pre : List Int) (imm : Int) (k : Nat) : bs (pre ++ (List.range (k + 1)).map (byteAt imm)) = bs (pre ++ (List.range k).map (byteAt imm)) ++ [.int .u8 (imm / 2 ^ (8 * k) % 256)] := by
  unfold bs
  simp only [List.range_succ, List.map_append, List.append_assoc]; rfl
theorem owns_base {w : World} {base : Nat} {e : TypeId} {size B n c : Nat} {xs : List Value} (h : w.ownsRow base e size (.slice (some ⟨B, 0, none⟩) n c) n xs) : base ≤ B := by
  rcases h.2 with ⟨h, _⟩ | ⟨g, cap, cur, h1, h2, _⟩
  · cases h
  · simp at h1; omega
end Go.Proofs.YtamffningddgbaaGreatDoor
