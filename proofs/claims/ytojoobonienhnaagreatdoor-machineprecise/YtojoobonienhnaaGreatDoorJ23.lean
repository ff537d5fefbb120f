/- Part of a proof. -/
import Derived.Deep.QuietTactic
import Derived.BigQuiet
import Derived.Handy
import Derived.Test.YtojoobonienhnaaGreatDoorJ22
namespace Go.Proofs.YtojoobonienhnaaGreatDoor
open Go.RowKit
set_option linter.unusedVariables false
set_option linter.unusedSimpArgs false
def rB (r : Nat) : Bool := [false, false, false, true, false, false, true, false, false, false].getD r false
def rS (r : Nat) : Bool := [false, false, false, false, false, true, true, true, false, true].getD r false
def rformA (r : Nat) : Array Value := #[.int .i64 (sz r), .bool (hasA r), .bool (rB r), .int .i64 (f3 r), .bool (rS r)]
theorem size24 : (Tryz.prog.info? 162).map (·.size) = some 5 := by kernel_rfl
theorem rform_one (r : Nat) : (rformA r).all (·.oneCell') = true := by simp [rformA, Value.oneCell']
abbrev zero24 : Array Value := #[.int .i64 0, .bool false, .bool false, .int .i64 0, .bool false]
theorem ret24 (w : World) (r : Nat) : Kep w ((w.alloc (.cells zero24 162)).setRow w.heap.size (rformA r)) := ((Kep.refl _).alloc _).setRow _ _ (Nat.le_refl _)
set_option maxHeartbeats 2000000 in
set_option maxRecDepth 100000 in
theorem ref1 (op : Int) (host : Bool) (w : World) (h : op = 0 ∨ op = 1 ∨ op = 2 ∨ op = 3) :
    Calls Tryz.prog 87 #[.int .u8 op, .bool host] w fun e w' => e = .returned (.agg (rformA 1)) ∧ Kep w w' := by
  rcases h with rfl | rfl | rfl | rfl
  all_goals
    go_enter Tryz.func87, Tryz.ntmps87
    go_wp2_with (refine wpList_store_row rfl 162 _ _ rfl w.heap.size (rformA 1) rfl rfl 162 zero24 (heap_alloc_new _ _) size24 rfl (rform_one _) ?_)
  all_goals
    try simp only [Exit.inBlock, Exit.then]
    refine bodyPost_ret (results_cell_row rfl _ _ w.heap.size 162 (rformA 1) (0, 0) _ rfl (setRow_heap _ _ _ _ _ _ (heap_alloc_new _ _)) Tryz.underlying162 rfl size24) rfl ⟨rfl, ret24 w 1⟩
set_option maxHeartbeats 2000000 in
set_option maxRecDepth 100000 in
theorem ref3a (op : Int) (host : Bool) (w : World) (h : 16 ≤ op) (h' : op ≤ 31) :
    Calls Tryz.prog 87 #[.int .u8 op, .bool host] w fun e w' => e = .returned (.agg (rformA 3)) ∧ Kep w w' := by
  have q0 : (op == 0) = false := by rw [beq_eq_false_iff_ne]; omega
  have q1 : (op == 1) = false := by rw [beq_eq_false_iff_ne]; omega
  have q2 : (op == 2) = false := by rw [beq_eq_false_iff_ne]; omega
  have q3 : (op == 3) = false := by rw [beq_eq_false_iff_ne]; omega
  all_goals
    go_enter Tryz.func87, Tryz.ntmps87
    go_wp2_with (refine wpList_store_row rfl 162 _ _ rfl w.heap.size (rformA 3) rfl rfl 162 zero24 (heap_alloc_new _ _) size24 rfl (rform_one _) ?_)
  all_goals
    try simp only [Exit.inBlock, Exit.then]
    refine bodyPost_ret (results_cell_row rfl _ _ w.heap.size 162 (rformA 3) (0, 0) _ rfl (setRow_heap _ _ _ _ _ _ (heap_alloc_new _ _)) Tryz.underlying162 rfl size24) rfl ⟨rfl, ret24 w 3⟩
set_option maxHeartbeats 2000000 in
set_option maxRecDepth 100000 in
theorem ref3b (op : Int) (host : Bool) (w : World) (h : op = 58 ∨ op = 98 ∨ op = 99 ∨ op = 100 ∨ op = 101) :
    Calls Tryz.prog 87 #[.int .u8 op, .bool host] w fun e w' => e = .returned (.agg (rformA 3)) ∧ Kep w w' := by
  rcases h with rfl | rfl | rfl | rfl | rfl
  all_goals
    go_enter Tryz.func87, Tryz.ntmps87
    go_wp2_with (refine wpList_store_row rfl 162 _ _ rfl w.heap.size (rformA 3) rfl rfl 162 zero24 (heap_alloc_new _ _) size24 rfl (rform_one _) ?_)
  all_goals
    try simp only [Exit.inBlock, Exit.then]
    refine bodyPost_ret (results_cell_row rfl _ _ w.heap.size 162 (rformA 3) (0, 0) _ rfl (setRow_heap _ _ _ _ _ _ (heap_alloc_new _ _)) Tryz.underlying162 rfl size24) rfl ⟨rfl, ret24 w 3⟩
set_option maxHeartbeats 2000000 in
set_option maxRecDepth 100000 in
theorem ref2 (op : Int) (host : Bool) (w : World) (h : op = 73 ∨ op = 74 ∨ op = 56 ∨ op = 57 ∨ op = 96 ∨ op = 97) :
    Calls Tryz.prog 87 #[.int .u8 op, .bool host] w fun e w' => e = .returned (.agg (rformA 2)) ∧ Kep w w' := by
  rcases h with rfl | rfl | rfl | rfl | rfl | rfl
  all_goals
    go_enter Tryz.func87, Tryz.ntmps87
    go_wp2_with (refine wpList_store_row rfl 162 _ _ rfl w.heap.size (rformA 2) rfl rfl 162 zero24 (heap_alloc_new _ _) size24 rfl (rform_one _) ?_)
  all_goals
    try simp only [Exit.inBlock, Exit.then]
    refine bodyPost_ret (results_cell_row rfl _ _ w.heap.size 162 (rformA 2) (0, 0) _ rfl (setRow_heap _ _ _ _ _ _ (heap_alloc_new _ _)) Tryz.underlying162 rfl size24) rfl ⟨rfl, ret24 w 2⟩
set_option maxHeartbeats 2000000 in
set_option maxRecDepth 100000 in
theorem ref4 (op : Int) (host : Bool) (w : World) (h : op = 80 ∨ (op = 112 ∧ host = true)) :
    Calls Tryz.prog 87 #[.int .u8 op, .bool host] w fun e w' => e = .returned (.agg (rformA 4)) ∧ Kep w w' := by
  rcases h with rfl | ⟨rfl, rfl⟩
  all_goals
    go_enter Tryz.func87, Tryz.ntmps87
    go_wp2_with (refine wpList_store_row rfl 162 _ _ rfl w.heap.size (rformA 4) rfl rfl 162 zero24 (heap_alloc_new _ _) size24 rfl (rform_one _) ?_)
  all_goals
    try simp only [Exit.inBlock, Exit.then]
    refine bodyPost_ret (results_cell_row rfl _ _ w.heap.size 162 (rformA 4) (0, 0) _ rfl (setRow_heap _ _ _ _ _ _ (heap_alloc_new _ _)) Tryz.underlying162 rfl size24) rfl ⟨rfl, ret24 w 4⟩
set_option maxHeartbeats 2000000 in
set_option maxRecDepth 100000 in
theorem ref5 (op : Int) (host : Bool) (w : World) (h : op = 33) :
    Calls Tryz.prog 87 #[.int .u8 op, .bool host] w fun e w' => e = .returned (.agg (rformA 5)) ∧ Kep w w' := by
  subst h
  all_goals
    go_enter Tryz.func87, Tryz.ntmps87
    go_wp2_with (refine wpList_store_row rfl 162 _ _ rfl w.heap.size (rformA 5) rfl rfl 162 zero24 (heap_alloc_new _ _) size24 rfl (rform_one _) ?_)
  all_goals
    try simp only [Exit.inBlock, Exit.then]
    refine bodyPost_ret (results_cell_row rfl _ _ w.heap.size 162 (rformA 5) (0, 0) _ rfl (setRow_heap _ _ _ _ _ _ (heap_alloc_new _ _)) Tryz.underlying162 rfl size24) rfl ⟨rfl, ret24 w 5⟩
set_option maxHeartbeats 2000000 in
set_option maxRecDepth 100000 in
theorem ref9 (op : Int) (host : Bool) (w : World) (h : op = 32) :
    Calls Tryz.prog 87 #[.int .u8 op, .bool host] w fun e w' => e = .returned (.agg (rformA 9)) ∧ Kep w w' := by
  subst h
  all_goals
    go_enter Tryz.func87, Tryz.ntmps87
    go_wp2_with (refine wpList_store_row rfl 162 _ _ rfl w.heap.size (rformA 9) rfl rfl 162 zero24 (heap_alloc_new _ _) size24 rfl (rform_one _) ?_)
  all_goals
    try simp only [Exit.inBlock, Exit.then]
    refine bodyPost_ret (results_cell_row rfl _ _ w.heap.size 162 (rformA 9) (0, 0) _ rfl (setRow_heap _ _ _ _ _ _ (heap_alloc_new _ _)) Tryz.underlying162 rfl size24) rfl ⟨rfl, ret24 w 9⟩
set_option maxHeartbeats 2000000 in
set_option maxRecDepth 100000 in
theorem ref8 (op : Int) (host : Bool) (w : World) (h : op = 113 ∧ host = true) :
    Calls Tryz.prog 87 #[.int .u8 op, .bool host] w fun e w' => e = .returned (.agg (rformA 8)) ∧ Kep w w' := by
  obtain ⟨rfl, rfl⟩ := h
  all_goals
    go_enter Tryz.func87, Tryz.ntmps87
    go_wp2_with (refine wpList_store_row rfl 162 _ _ rfl w.heap.size (rformA 8) rfl rfl 162 zero24 (heap_alloc_new _ _) size24 rfl (rform_one _) ?_)
  all_goals
    try simp only [Exit.inBlock, Exit.then]
    refine bodyPost_ret (results_cell_row rfl _ _ w.heap.size 162 (rformA 8) (0, 0) _ rfl (setRow_heap _ _ _ _ _ _ (heap_alloc_new _ _)) Tryz.underlying162 rfl size24) rfl ⟨rfl, ret24 w 8⟩
set_option maxHeartbeats 2000000 in
set_option maxRecDepth 100000 in
theorem ref6 (op : Int) (host : Bool) (w : World) (h : 48 ≤ op) (h' : op ≤ 55) :
    Calls Tryz.prog 87 #[.int .u8 op, .bool host] w fun e w' => e = .returned (.agg (rformA 6)) ∧ Kep w w' := by
  have q0 : (op == 0) = false := by rw [beq_eq_false_iff_ne]; omega
  have q1 : (op == 1) = false := by rw [beq_eq_false_iff_ne]; omega
  have q2 : (op == 2) = false := by rw [beq_eq_false_iff_ne]; omega
  have q3 : (op == 3) = false := by rw [beq_eq_false_iff_ne]; omega
  have q58 : (op == 58) = false := by rw [beq_eq_false_iff_ne]; omega
  have q98 : (op == 98) = false := by rw [beq_eq_false_iff_ne]; omega
  have q99 : (op == 99) = false := by rw [beq_eq_false_iff_ne]; omega
  have q100 : (op == 100) = false := by rw [beq_eq_false_iff_ne]; omega
  have q101 : (op == 101) = false := by rw [beq_eq_false_iff_ne]; omega
  have q73 : (op == 73) = false := by rw [beq_eq_false_iff_ne]; omega
  have q74 : (op == 74) = false := by rw [beq_eq_false_iff_ne]; omega
  have q56 : (op == 56) = false := by rw [beq_eq_false_iff_ne]; omega
  have q57 : (op == 57) = false := by rw [beq_eq_false_iff_ne]; omega
  have q96 : (op == 96) = false := by rw [beq_eq_false_iff_ne]; omega
  have q97 : (op == 97) = false := by rw [beq_eq_false_iff_ne]; omega
  have q80 : (op == 80) = false := by rw [beq_eq_false_iff_ne]; omega
  have q112 : (op == 112) = false := by rw [beq_eq_false_iff_ne]; omega
  have q33 : (op == 33) = false := by rw [beq_eq_false_iff_ne]; omega
  have r31 : decide (op ≤ 31) = false := by rw [decide_eq_false_iff_not]; omega
  all_goals
    go_enter Tryz.func87, Tryz.ntmps87
    go_wp2_with (refine wpList_store_row rfl 162 _ _ rfl w.heap.size (rformA 6) rfl rfl 162 zero24 (heap_alloc_new _ _) size24 rfl (rform_one _) ?_)
  all_goals
    try simp only [Exit.inBlock, Exit.then]
    refine bodyPost_ret (results_cell_row rfl _ _ w.heap.size 162 (rformA 6) (0, 0) _ rfl (setRow_heap _ _ _ _ _ _ (heap_alloc_new _ _)) Tryz.underlying162 rfl size24) rfl ⟨rfl, ret24 w 6⟩
set_option maxHeartbeats 2000000 in
set_option maxRecDepth 100000 in
theorem ref7 (op : Int) (host : Bool) (w : World) (h : 64 ≤ op) (h' : op ≤ 72) :
    Calls Tryz.prog 87 #[.int .u8 op, .bool host] w fun e w' => e = .returned (.agg (rformA 7)) ∧ Kep w w' := by
  have q0 : (op == 0) = false := by rw [beq_eq_false_iff_ne]; omega
  have q1 : (op == 1) = false := by rw [beq_eq_false_iff_ne]; omega
  have q2 : (op == 2) = false := by rw [beq_eq_false_iff_ne]; omega
  have q3 : (op == 3) = false := by rw [beq_eq_false_iff_ne]; omega
  have q58 : (op == 58) = false := by rw [beq_eq_false_iff_ne]; omega
  have q98 : (op == 98) = false := by rw [beq_eq_false_iff_ne]; omega
  have q99 : (op == 99) = false := by rw [beq_eq_false_iff_ne]; omega
  have q100 : (op == 100) = false := by rw [beq_eq_false_iff_ne]; omega
  have q101 : (op == 101) = false := by rw [beq_eq_false_iff_ne]; omega
  have q73 : (op == 73) = false := by rw [beq_eq_false_iff_ne]; omega
  have q74 : (op == 74) = false := by rw [beq_eq_false_iff_ne]; omega
  have q56 : (op == 56) = false := by rw [beq_eq_false_iff_ne]; omega
  have q57 : (op == 57) = false := by rw [beq_eq_false_iff_ne]; omega
  have q96 : (op == 96) = false := by rw [beq_eq_false_iff_ne]; omega
  have q97 : (op == 97) = false := by rw [beq_eq_false_iff_ne]; omega
  have q80 : (op == 80) = false := by rw [beq_eq_false_iff_ne]; omega
  have q112 : (op == 112) = false := by rw [beq_eq_false_iff_ne]; omega
  have q33 : (op == 33) = false := by rw [beq_eq_false_iff_ne]; omega
  have r31 : decide (op ≤ 31) = false := by rw [decide_eq_false_iff_not]; omega
  have r55 : decide (op ≤ 55) = false := by rw [decide_eq_false_iff_not]; omega
  all_goals
    go_enter Tryz.func87, Tryz.ntmps87
    go_wp2_with (refine wpList_store_row rfl 162 _ _ rfl w.heap.size (rformA 7) rfl rfl 162 zero24 (heap_alloc_new _ _) size24 rfl (rform_one _) ?_)
  all_goals
    try simp only [Exit.inBlock, Exit.then]
    refine bodyPost_ret (results_cell_row rfl _ _ w.heap.size 162 (rformA 7) (0, 0) _ rfl (setRow_heap _ _ _ _ _ _ (heap_alloc_new _ _)) Tryz.underlying162 rfl size24) rfl ⟨rfl, ret24 w 7⟩
set_option maxHeartbeats 2000000 in
set_option maxRecDepth 100000 in
theorem ref0h (op : Int) (host : Bool) (w : World)  (h : op = 112 ∨ op = 113) (hh : host = false) :
    Calls Tryz.prog 87 #[.int .u8 op, .bool host] w fun e w' => e = .returned (.agg (rformA 0)) ∧ Kep w w' := by
  subst hh
  rcases h with rfl | rfl
  all_goals
    go_enter Tryz.func87, Tryz.ntmps87
    go_wp2_with (refine wpList_store_row rfl 162 _ _ rfl w.heap.size (rformA 0) rfl rfl 162 zero24 (heap_alloc_new _ _) size24 rfl (rform_one _) ?_)
  all_goals
    try simp only [Exit.inBlock, Exit.then]
    refine bodyPost_ret (results_cell_row rfl _ _ w.heap.size 162 (rformA 0) (0, 0) _ rfl (setRow_heap _ _ _ _ _ _ (heap_alloc_new _ _)) Tryz.underlying162 rfl size24) rfl ⟨rfl, ret24 w 0⟩
set_option maxHeartbeats 2000000 in
set_option maxRecDepth 100000 in
theorem ref0 (op : Int) (host : Bool) (w : World) (h0 : op ≠ 0 ∧ op ≠ 1 ∧ op ≠ 2 ∧ op ≠ 3) (h1 : ¬ (16 ≤ op ∧ op ≤ 31)) (h2 : op ≠ 58 ∧ op ≠ 98 ∧ op ≠ 99 ∧ op ≠ 100 ∧ op ≠ 101) (h3 : op ≠ 73 ∧ op ≠ 74 ∧ op ≠ 56 ∧ op ≠ 57 ∧ op ≠ 96 ∧ op ≠ 97) (h4 : op ≠ 80 ∧ op ≠ 112 ∧ op ≠ 33) (h5 : ¬ (48 ≤ op ∧ op ≤ 55)) (h6 : ¬ (64 ≤ op ∧ op ≤ 72)) (h7 : op ≠ 113 ∧ op ≠ 32) :
    Calls Tryz.prog 87 #[.int .u8 op, .bool host] w fun e w' => e = .returned (.agg (rformA 0)) ∧ Kep w w' := by
  have q0 : (op == 0) = false := by rw [beq_eq_false_iff_ne]; omega
  have q1 : (op == 1) = false := by rw [beq_eq_false_iff_ne]; omega
  have q2 : (op == 2) = false := by rw [beq_eq_false_iff_ne]; omega
  have q3 : (op == 3) = false := by rw [beq_eq_false_iff_ne]; omega
  have q58 : (op == 58) = false := by rw [beq_eq_false_iff_ne]; omega
  have q98 : (op == 98) = false := by rw [beq_eq_false_iff_ne]; omega
  have q99 : (op == 99) = false := by rw [beq_eq_false_iff_ne]; omega
  have q100 : (op == 100) = false := by rw [beq_eq_false_iff_ne]; omega
  have q101 : (op == 101) = false := by rw [beq_eq_false_iff_ne]; omega
  have q73 : (op == 73) = false := by rw [beq_eq_false_iff_ne]; omega
  have q74 : (op == 74) = false := by rw [beq_eq_false_iff_ne]; omega
  have q56 : (op == 56) = false := by rw [beq_eq_false_iff_ne]; omega
  have q57 : (op == 57) = false := by rw [beq_eq_false_iff_ne]; omega
  have q96 : (op == 96) = false := by rw [beq_eq_false_iff_ne]; omega
  have q97 : (op == 97) = false := by rw [beq_eq_false_iff_ne]; omega
  have q80 : (op == 80) = false := by rw [beq_eq_false_iff_ne]; omega
  have q112 : (op == 112) = false := by rw [beq_eq_false_iff_ne]; omega
  have q33 : (op == 33) = false := by rw [beq_eq_false_iff_ne]; omega
  have q113 : (op == 113) = false := by rw [beq_eq_false_iff_ne]; omega
  have q32 : (op == 32) = false := by rw [beq_eq_false_iff_ne]; omega
  have c : (decide (op ≥ 16) = false ∧ decide (op ≥ 48) = false ∧ decide (op ≥ 64) = false) ∨ ((decide (op ≥ 16) = true ∧ decide (op ≤ 31) = false) ∧ decide (op ≥ 48) = false ∧ decide (op ≥ 64) = false) ∨
      ((decide (op ≥ 16) = true ∧ decide (op ≤ 31) = false) ∧ (decide (op ≥ 48) = true ∧ decide (op ≤ 55) = false) ∧ decide (op ≥ 64) = false) ∨
      ((decide (op ≥ 16) = true ∧ decide (op ≤ 31) = false) ∧ (decide (op ≥ 48) = true ∧ decide (op ≤ 55) = false) ∧ (decide (op ≥ 64) = true ∧ decide (op ≤ 72) = false)) := by
    simp only [decide_eq_false_iff_not, decide_eq_true_iff]; omega
  clear h0 h1 h2 h3 h4 h5 h6 h7
  rcases c with ⟨c1, c2, c3⟩ | ⟨⟨c1, c2⟩, c3, c4⟩ | ⟨⟨c1, c2⟩, ⟨c3, c4⟩, c5⟩ | ⟨⟨c1, c2⟩, ⟨c3, c4⟩, ⟨c5, c6⟩⟩
  all_goals
    go_enter Tryz.func87, Tryz.ntmps87
    go_wp2_with (refine wpList_store_row rfl 162 _ _ rfl w.heap.size (rformA 0) rfl rfl 162 zero24 (heap_alloc_new _ _) size24 rfl (rform_one _) ?_)
  all_goals
    try simp only [Exit.inBlock, Exit.then]
    refine bodyPost_ret (results_cell_row rfl _ _ w.heap.size 162 (rformA 0) (0, 0) _ rfl (setRow_heap _ _ _ _ _ _ (heap_alloc_new _ _)) Tryz.underlying162 rfl size24) rfl ⟨rfl, ret24 w 0⟩
theorem refOf_any (op : Int) (host : Bool) (w : World) :
    Calls Tryz.prog 87 #[.int .u8 op, .bool host] w fun e w' => e = .returned (.agg (rformA (rowOf op host))) ∧ Kep w w' := by
  unfold rowOf
  split
  · exact ref1 op host w (by assumption)
  split
  · rename_i h
    rcases h with h | h
    · exact ref3a op host w h.1 h.2
    · exact ref3b op host w h
  split
  · exact ref2 op host w (by assumption)
  split
  · exact ref4 op host w (by assumption)
  split
  · exact ref5 op host w (by assumption)
  split
  · rename_i h; exact ref6 op host w h.1 h.2
  split
  · rename_i h; exact ref7 op host w h.1 h.2
  split
  · exact ref8 op host w (by assumption)
  split
  · exact ref9 op host w (by assumption)
  · by_cases c : op = 112 ∨ op = 113
    · refine ref0h op host w c ?_
      cases host
      · rfl
      · exfalso; simp_all
    · apply ref0 <;> omega
set_option maxHeartbeats 1600000 in
set_option maxRecDepth 100000 in
theorem reck_alw (s : Sta) (op : Int) (a b : Nat) (imm v : Int) (p : Nat) (w : World) (h : At w p s) (ok : s.Ok) (ha : (a : Int) < 8) (hb : (b : Int) < 8) (h2 : -2147483648 ≤ imm) (h3 : imm ≤ 2147483647) (hop : 16 ≤ op ∧ op ≤ 33 ∧ op ≠ 25 ∧ op ≠ 30) :
    Calls Tryz.prog 144 #[.pointer (some ⟨p, 0, none⟩), .agg (insA op a b imm), .int .u32 v] w fun e w' => e = .returned (.agg (fltV (0, 0))) ∧ Put [p] w w' ∧ At w' p (reckS s op a b imm) := by
  have hy : 0 ≤ secN s op b imm ∧ secN s op b imm < 4294967296 := by
    have := ok.r b
    unfold secN; split <;> omega
  have SE : Hid (∀ w, At w p s → Calls Tryz.prog 160 #[.pointer (some ⟨p, 0, none⟩), .agg (insA op a b imm)] w fun e w' => e = .returned (.int .u32 (secN s op b imm)) ∧ Kep w w') := fun w h => second_any s op a b imm p w h hb h2 h3
  have FL := flg_is op (s.r a) (secN s op b imm) s.ps ok.ps.1 ok.ps.2
  have hS : Hid (reckS s op a b imm = (s.regIf (keepsB op) a (alu op (s.r a) (secN s op b imm)).1).markIf (turnsB op) (flgI s.ps (alu op (s.r a) (secN s op b imm)).2)) := rfl
  have RU : Hid (∀ w, Calls Tryz.prog 159 #[.int .u8 op] w fun e w' => ∃ g : Nat, e = .returned (.agg #[alwV g, .bool (keepsB op), .bool (turnsB op)]) ∧ Kep w w' ∧ w'.cell? ⟨g, 0, none⟩ = some (fnV (fnOf op)) ∧ g < w'.heap.size) := fun w => rule_any op hop _ rfl w
  have AL : Hid (∀ (g : Nat) (w : World), w.cell? ⟨g, 0, none⟩ = some (fnV (fnOf op)) → Calls Tryz.prog 183 #[.int .u32 (s.r a), .int .u32 (secN s op b imm), .pointer (some ⟨g, 0, none⟩)] w fun e w' => e = .returned (.tuple #[.int .u32 (alu op (s.r a) (secN s op b imm)).1, .int .u32 (alu op (s.r a) (secN s op b imm)).2, .bool true]) ∧ Kep w w') := fun g w hc => alw_any op hop _ _ (ok.r a) hy g w hc
  generalize reckS s op a b imm = S' at *
  generalize flgI s.ps (alu op (s.r a) (secN s op b imm)).2 = F' at *
  generalize alu op (s.r a) (secN s op b imm) = q at *
  generalize secN s op b imm = y at *
  generalize keepsB op = kp at *
  generalize turnsB op = tp at *
  obtain ⟨r, f⟩ := q
  generalize fnOf op = fk at *
  have H : Hid (At w p s) := h
  have lp := h.lt
  have h9 : ∀ (w : World) (v : Value), (w.setCell ⟨p, a, none⟩ v).cell? ⟨p, 9, none⟩ = w.cell? ⟨p, 9, none⟩ := fun w v => World.cell?_setCell_other _ ⟨p, a, none⟩ ⟨p, 9, none⟩ _ (fun e => by have := congrArg Addr.off e; simp at this; omega)
  have hp1 : p ≠ w.heap.size + 1 := by omega
  clear h hop hy ok hb h2 h3
  go_enter Tryz.func144, Tryz.ntmps144
  go_wp2_with fail
  refine (RU.out _).mono ?_
  rintro e w1 ⟨g, rfl, K1, cg, lg⟩
  have H1 : At w1 p s := (H.out.kep (((Kep.refl _).alloc _).alloc _)).kep K1
  have I1 : w1.heap[w.heap.size]? = some (.cells (insA op a b imm) 119 (0, 0)) := K1.block blkA
  have F1 : w1.heap[w.heap.size + 1]? = some (.cells #[.int .i64 0, .int .u32 0] 56 (0, 0)) := K1.block blkA
  have G1 : Hid (Kep w w1) := kep_trans (((Kep.refl _).alloc _).alloc _) K1
  obtain ⟨W, hW⟩ : ∃ W, Hid (W = (w1.alloc (.cells #[.nilFunc, .bool false, .bool false] 243)).setRow w1.heap.size #[alwV g, .bool kp, .bool tp]) := ⟨_, rfl⟩
  have z1 := block_lt I1
  have zf := block_lt F1
  have zp := H1.lt
  have HW : At W p s := by rw [hW.out]; unfold At at H1 ⊢; exact blkA
  have IW : W.heap[w.heap.size]? = some (.cells (insA op a b imm) 119 (0, 0)) := by rw [hW.out]; exact blkA
  have FW : W.heap[w.heap.size + 1]? = some (.cells #[.int .i64 0, .int .u32 0] 56 (0, 0)) := by rw [hW.out]; exact blkA
  have RW : W.heap[w1.heap.size]? = some (.cells #[alwV g, .bool kp, .bool tp] 243 (0, 0)) := by rw [hW.out]; exact blkA
  have GW : Hid (Kep w W) := by
    have hle := G1.out.size
    rw [hW.out]; show Kep _ _; exact kepA
  have cW : W.cell? ⟨g, 0, none⟩ = some (fnV fk) := by
    rw [hW.out]
    have : ((w1.alloc (.cells #[.nilFunc, .bool false, .bool false] 243)).setRow w1.heap.size #[alwV g, .bool kp, .bool tp]).heap[g]? = w1.heap[g]? := (setRow_other _ _ _ _ (by omega)).trans (hsk _ _ _ lg)
    simp only [World.cell?, this]; simpa only [World.cell?] using cg
  have cW' : Hid (W.cell? ⟨g, 0, none⟩ = some (fnV fk)) := cW
  obtain ⟨i0, i1, i2, i3⟩ := ins_at IW
  have k0 := KW.cell i0
  have k1 := KW.cell i1
  have k2 := KW.cell i2
  have k3 := KW.cell i3
  have kr := KW.cell (HW.reg a (by omega))
  have k9 := KW.cell HW.ps
  have kg : ∀ i : KW W, i.val.cell? ⟨w1.heap.size, 0, none⟩ = some (alwV g) := KW.cell (cell_of_block RW)
  have kg1 : ∀ i : KW W, i.val.cell? ⟨w1.heap.size, 1, none⟩ = some (.bool kp) := KW.cell (cell_of_block RW)
  have kg2 : ∀ i : KW W, i.val.cell? ⟨w1.heap.size, 2, none⟩ = some (.bool tp) := KW.cell (cell_of_block RW)
  have kz : ∀ (i : KW W) (j : Nat), i.val.frozen? ⟨p, j, none⟩ = false := fun i j => row_frozen (i.ok.block HW) j
  have HW' : Hid (At W p s) := HW
  have FW' : Hid (W.heap[w.heap.size + 1]? = some (.cells #[.int .i64 0, .int .u32 0] 56 (0, 0))) := FW
  have hne : Nonempty (KW W) := ⟨⟨W, Kep.refl _⟩⟩
  clear HW IW FW RW cW cg lg i0 i1 i2 i3 I1 F1 H1 K1 G1
  go_wp2_with (refine wpList_store_row (by rfl) 243 _ _ (by rfl) w1.heap.size #[alwV g, .bool kp, .bool tp] (by rfl) (by rfl) 243 #[.nilFunc, .bool false, .bool false] blkA (by exact size_rule) (by rfl) (by simp [Value.oneCell']) ?_)
  rw [← hW.out]
  dsimp only [Act.put]
  refine region_kw (by kernel_rfl) (by kernel_rfl) ?_
  repeat (go_big_quiet_step (first
    | (go_at_call 160; refine (SE.out _ (HW'.out.kep (KW.ok _))).mono ?_; rintro e w6 ⟨rfl, g6⟩; exact ⟨rfl, ⟨_, kep_trans (KW.ok _) g6⟩, rfl⟩)
    | (go_at_call 183; refine (AL.out _ _ (KW.cell cW'.out _)).mono ?_; rintro e w6 ⟨rfl, g6⟩; exact ⟨rfl, ⟨_, kep_trans (KW.ok _) g6⟩, rfl⟩)))
  refine wpQuiet_nil ?_
  rintro _ ⟨i, rfl⟩
  have e0 := k0 i
  have e1 := k1 i
  have e9 := k9 i
  have er := kr i
  have eg1 := kg1 i
  have eg2 := kg2 i
  have ez := kz i
  have EF : Hid (i.val.heap[w.heap.size + 1]? = some (.cells #[.int .i64 0, .int .u32 0] 56 (0, 0))) := i.ok.block FW'.out
  have EH : Hid (At i.val p s) := HW'.out.kep i.ok
  have EG : Hid (Kep w i.val) := kep_trans GW.out i.ok
  clear k0 k1 k2 k3 kr k9 kg kg1 kg2 kz
  generalize i.val = u at *
  clear hne i
  cases kp <;> cases tp
  all_goals
    go_wp2_with (refine wpList_store_row (by rfl) 56 _ _ (by rfl) (w.heap.size + 1) _ (by rfl) (by rfl) 56 #[.int .i64 0, .int .u32 0] blkA (by exact size_flt) (by rfl) (by simp [Value.oneCell']) ?_)
  all_goals try
    go_region
    go_wp2_with (refine wpList_store_row (by rfl) 56 _ _ (by rfl) (w.heap.size + 1) _ (by rfl) (by rfl) 56 #[.int .i64 0, .int .u32 0] blkA (by exact size_flt) (by rfl) (by simp [Value.oneCell']) ?_)
  all_goals
    try simp only [Exit.inBlock, Exit.then]
    refine bodyPost_ret (results_cell_row rfl _ _ (w.heap.size + 1) 56 _ (0, 0) _ (by rfl) (setRow_heap _ _ _ _ _ _ blkA) Tryz.underlying56 rfl (by exact size_flt)) rfl ⟨by rfl, putA, ?_⟩
    rw [hS.out]
    simp only [Sta.regIf, Sta.markIf]
    exact atA
abbrev heldV (a : Int) : Value := .iface 259 (.int .u8 a)
abbrev besV (far c : Int) : Value := .iface 261 (.agg #[.int .i32 far, .int .i64 c])
theorem jmp_ops {op : Int} (h : 64 ≤ op ∧ op ≤ 74) : op = 73 ∨ op = 74 ∨ op = 72 ∨ (64 ≤ op ∧ op ≤ 71) := by omega
set_option maxHeartbeats 800000 in
theorem place_held (op a b imm : Int) (w : World) (h : op = 73 ∨ op = 74) :
    Calls Tryz.prog 162 #[.agg (insA op a b imm)] w fun e w' => e = .returned (heldV a) ∧ Kep w w' := by
  rcases h with rfl | rfl
  all_goals
    go_enter Tryz.func162, Tryz.ntmps162
    go_wp2
    go_ret
    exact ⟨rfl, kepA⟩
set_option maxHeartbeats 800000 in
theorem place_call (a b imm : Int) (w : World) :
    Calls Tryz.prog 162 #[.agg (insA 72 a b imm)] w fun e w' => e = .returned (besV imm 0) ∧ Kep w w' := by
  go_enter Tryz.func162, Tryz.ntmps162
  go_wp2
  go_ret
  exact ⟨rfl, kepA⟩
set_option maxHeartbeats 800000 in
theorem place_jmp (op a b imm : Int) (w : World) (h : 64 ≤ op ∧ op ≤ 71) :
    Calls Tryz.prog 162 #[.agg (insA op a b imm)] w fun e w' => e = .returned (besV imm (op - 64)) ∧ Kep w w' := by
  have x1 := ne_lit (op := op) (k := 72) (by omega)
  have x2 := ne_lit (op := op) (k := 73) (by omega)
  have x3 := ne_lit (op := op) (k := 74) (by omega)
  go_enter Tryz.func162, Tryz.ntmps162
  go_wp2
  go_ret
  exact ⟨rfl, kepA⟩
theorem is_held (a : Int) (w : World) : (Instr.typeAssert (heldV a) 249 261 true).run Tryz.prog w = .ok (.tuple #[.agg #[.int .i32 0, .int .i64 0], .bool false]) w := by kernel_rfl
theorem is_bes (far c : Int) (w : World) : (Instr.typeAssert (besV far c) 249 261 true).run Tryz.prog w = .ok (.tuple #[.agg #[.int .i32 far, .int .i64 c], .bool true]) w := by kernel_rfl
set_option maxHeartbeats 800000 in
theorem goes_held (a ps : Int) (w : World) :
    Calls Tryz.prog 163 #[heldV a, .int .u32 ps] w fun e w' => e = .returned (.bool true) ∧ Kep w w' := by
  have ta := is_held a
  go_enter Tryz.func163, Tryz.ntmps163
  go_wp2
  go_ret
  exact ⟨rfl, kepA⟩
set_option maxHeartbeats 800000 in
theorem goes_bes (far c ps : Int) (w : World) (h0 : 0 ≤ ps) (h1 : ps < 4294967296) :
    Calls Tryz.prog 163 #[besV far c, .int .u32 ps] w fun e w' => e = .returned (.bool (holdsB c ps)) ∧ Kep w w' := by
  have ta := is_bes far c
  go_enter Tryz.func163, Tryz.ntmps163
  go_wp2_with (go_at_call 182; refine (holds_any _ _ _ h0 h1).mono ?_; rintro e w' ⟨rfl, rfl⟩)
  go_ret
  exact ⟨rfl, kepA⟩
set_option maxHeartbeats 800000 in
theorem from_held (s : Sta) (a p : Nat) (w : World) (h : At w p s) (ha : (a : Int) < 8) :
    Calls Tryz.prog 214 #[.int .u8 a, .pointer (some ⟨p, 0, none⟩)] w fun e w' => e = .returned (.int .u32 (s.r a)) ∧ Kep w w' := by
  have ca := h.reg a (by omega)
  clear h
  go_enter Tryz.func214, Tryz.ntmps214
  go_wp2
  go_ret
  exact ⟨rfl, kepA⟩
set_option maxHeartbeats 800000 in
theorem from_bes (s : Sta) (far c : Int) (p : Nat) (w : World) (h : At w p s) (ok : s.Ok) (h2 : -2147483648 ≤ far) (h3 : far ≤ 2147483647) :
    Calls Tryz.prog 215 #[.agg #[.int .i32 far, .int .i64 c], .pointer (some ⟨p, 0, none⟩)] w fun e w' => e = .returned (.int .u32 ((s.pc + far % 4294967296) % 4294967296)) ∧ Kep w w' := by
  have c8 := h.pc
  have lt := h.lt
  have hp := ok.pc
  clear h ok
  go_enter Tryz.func215, Tryz.ntmps215
  go_wp2
  go_quiet (fail)
  go_wp2
  go_ret
  exact ⟨ret_int (by simp [IntKind.wrap_u32]), kepA⟩
theorem meth_held (a : Int) (w : World) : (method 288 259 (.int .u8 a) "mummer/core.from").run Tryz.prog w = .ok (214, .int .u8 a) w := by kernel_rfl
theorem meth_bes (far c : Int) (w : World) : (method 288 261 (.agg #[.int .i32 far, .int .i64 c]) "mummer/core.from").run Tryz.prog w = .ok (215, .agg #[.int .i32 far, .int .i64 c]) w := by kernel_rfl
end Go.Proofs.YtojoobonienhnaaGreatDoor
