/- What the document's own table of forms answers. -/
import Derived.Test.YtpalbpjmjbcelaaDoorSize
namespace Go.Proofs.YtpalbpjmjbcelaaDoor
open Go.RowKit

def rB (r : Nat) : Bool := [false, false, false, true, false, false, true, false, false, false].getD r false
def rS (r : Nat) : Bool := [false, false, false, false, false, true, true, true, false, true].getD r false
def rformA (r : Nat) : Array Value := #[.int .i64 (sz r), .bool (hasA r), .bool (rB r), .int .i64 (f3 r), .bool (rS r)]
theorem size24 : (Tryd.prog.info? 111).map (·.size) = some 5 := by kernel_rfl
theorem rform_one (r : Nat) : (rformA r).all (·.oneCell') = true := by simp [rformA, Value.oneCell']
abbrev zero24 : Array Value := #[.int .i64 0, .bool false, .bool false, .int .i64 0, .bool false]
theorem ret24 (w : World) (r : Nat) : Kep w ((w.alloc (.cells zero24 111)).setRow w.heap.size (rformA r)) := ((Kep.refl _).alloc _).setRow _ _ (Nat.le_refl _)

set_option maxHeartbeats 2000000 in
set_option maxRecDepth 100000 in
theorem ref1 (op : Int) (host : Bool) (w : World) (h : op = 0 ∨ op = 1 ∨ op = 2 ∨ op = 3) :
    Calls Tryd.prog 40 #[.int .u8 op, .bool host] w fun e w' => e = .returned (.agg (rformA 1)) ∧ Kep w w' := by
  rcases h with rfl | rfl | rfl | rfl
  all_goals
    go_enter Tryd.func40, Tryd.ntmps40
    go_wp2_with (refine wpList_store_row rfl 111 _ _ rfl w.heap.size (rformA 1) rfl rfl 111 zero24 (heap_alloc_new _ _) size24 rfl (rform_one _) ?_)
  all_goals
    try simp only [Exit.inBlock, Exit.then]
    refine bodyPost_ret (results_cell_row rfl _ _ w.heap.size 111 (rformA 1) (0, 0) _ rfl (setRow_heap _ _ _ _ _ _ (heap_alloc_new _ _)) Tryd.underlying111 rfl size24) rfl ⟨rfl, ret24 w 1⟩

set_option maxHeartbeats 2000000 in
set_option maxRecDepth 100000 in
theorem ref3a (op : Int) (host : Bool) (w : World) (h : 16 ≤ op) (h' : op ≤ 31) :
    Calls Tryd.prog 40 #[.int .u8 op, .bool host] w fun e w' => e = .returned (.agg (rformA 3)) ∧ Kep w w' := by
  have q0 : (op == 0) = false := by rw [beq_eq_false_iff_ne]; omega
  have q1 : (op == 1) = false := by rw [beq_eq_false_iff_ne]; omega
  have q2 : (op == 2) = false := by rw [beq_eq_false_iff_ne]; omega
  have q3 : (op == 3) = false := by rw [beq_eq_false_iff_ne]; omega
  all_goals
    go_enter Tryd.func40, Tryd.ntmps40
    go_wp2_with (refine wpList_store_row rfl 111 _ _ rfl w.heap.size (rformA 3) rfl rfl 111 zero24 (heap_alloc_new _ _) size24 rfl (rform_one _) ?_)
  all_goals
    try simp only [Exit.inBlock, Exit.then]
    refine bodyPost_ret (results_cell_row rfl _ _ w.heap.size 111 (rformA 3) (0, 0) _ rfl (setRow_heap _ _ _ _ _ _ (heap_alloc_new _ _)) Tryd.underlying111 rfl size24) rfl ⟨rfl, ret24 w 3⟩

set_option maxHeartbeats 2000000 in
set_option maxRecDepth 100000 in
theorem ref3b (op : Int) (host : Bool) (w : World) (h : op = 58 ∨ op = 98 ∨ op = 99 ∨ op = 100 ∨ op = 101) :
    Calls Tryd.prog 40 #[.int .u8 op, .bool host] w fun e w' => e = .returned (.agg (rformA 3)) ∧ Kep w w' := by
  rcases h with rfl | rfl | rfl | rfl | rfl
  all_goals
    go_enter Tryd.func40, Tryd.ntmps40
    go_wp2_with (refine wpList_store_row rfl 111 _ _ rfl w.heap.size (rformA 3) rfl rfl 111 zero24 (heap_alloc_new _ _) size24 rfl (rform_one _) ?_)
  all_goals
    try simp only [Exit.inBlock, Exit.then]
    refine bodyPost_ret (results_cell_row rfl _ _ w.heap.size 111 (rformA 3) (0, 0) _ rfl (setRow_heap _ _ _ _ _ _ (heap_alloc_new _ _)) Tryd.underlying111 rfl size24) rfl ⟨rfl, ret24 w 3⟩

set_option maxHeartbeats 2000000 in
set_option maxRecDepth 100000 in
theorem ref2 (op : Int) (host : Bool) (w : World) (h : op = 73 ∨ op = 74 ∨ op = 56 ∨ op = 57 ∨ op = 96 ∨ op = 97) :
    Calls Tryd.prog 40 #[.int .u8 op, .bool host] w fun e w' => e = .returned (.agg (rformA 2)) ∧ Kep w w' := by
  rcases h with rfl | rfl | rfl | rfl | rfl | rfl
  all_goals
    go_enter Tryd.func40, Tryd.ntmps40
    go_wp2_with (refine wpList_store_row rfl 111 _ _ rfl w.heap.size (rformA 2) rfl rfl 111 zero24 (heap_alloc_new _ _) size24 rfl (rform_one _) ?_)
  all_goals
    try simp only [Exit.inBlock, Exit.then]
    refine bodyPost_ret (results_cell_row rfl _ _ w.heap.size 111 (rformA 2) (0, 0) _ rfl (setRow_heap _ _ _ _ _ _ (heap_alloc_new _ _)) Tryd.underlying111 rfl size24) rfl ⟨rfl, ret24 w 2⟩

set_option maxHeartbeats 2000000 in
set_option maxRecDepth 100000 in
theorem ref4 (op : Int) (host : Bool) (w : World) (h : op = 80 ∨ (op = 112 ∧ host = true)) :
    Calls Tryd.prog 40 #[.int .u8 op, .bool host] w fun e w' => e = .returned (.agg (rformA 4)) ∧ Kep w w' := by
  rcases h with rfl | ⟨rfl, rfl⟩
  all_goals
    go_enter Tryd.func40, Tryd.ntmps40
    go_wp2_with (refine wpList_store_row rfl 111 _ _ rfl w.heap.size (rformA 4) rfl rfl 111 zero24 (heap_alloc_new _ _) size24 rfl (rform_one _) ?_)
  all_goals
    try simp only [Exit.inBlock, Exit.then]
    refine bodyPost_ret (results_cell_row rfl _ _ w.heap.size 111 (rformA 4) (0, 0) _ rfl (setRow_heap _ _ _ _ _ _ (heap_alloc_new _ _)) Tryd.underlying111 rfl size24) rfl ⟨rfl, ret24 w 4⟩

set_option maxHeartbeats 2000000 in
set_option maxRecDepth 100000 in
theorem ref5 (op : Int) (host : Bool) (w : World) (h : op = 33) :
    Calls Tryd.prog 40 #[.int .u8 op, .bool host] w fun e w' => e = .returned (.agg (rformA 5)) ∧ Kep w w' := by
  subst h
  all_goals
    go_enter Tryd.func40, Tryd.ntmps40
    go_wp2_with (refine wpList_store_row rfl 111 _ _ rfl w.heap.size (rformA 5) rfl rfl 111 zero24 (heap_alloc_new _ _) size24 rfl (rform_one _) ?_)
  all_goals
    try simp only [Exit.inBlock, Exit.then]
    refine bodyPost_ret (results_cell_row rfl _ _ w.heap.size 111 (rformA 5) (0, 0) _ rfl (setRow_heap _ _ _ _ _ _ (heap_alloc_new _ _)) Tryd.underlying111 rfl size24) rfl ⟨rfl, ret24 w 5⟩

set_option maxHeartbeats 2000000 in
set_option maxRecDepth 100000 in
theorem ref9 (op : Int) (host : Bool) (w : World) (h : op = 32) :
    Calls Tryd.prog 40 #[.int .u8 op, .bool host] w fun e w' => e = .returned (.agg (rformA 9)) ∧ Kep w w' := by
  subst h
  all_goals
    go_enter Tryd.func40, Tryd.ntmps40
    go_wp2_with (refine wpList_store_row rfl 111 _ _ rfl w.heap.size (rformA 9) rfl rfl 111 zero24 (heap_alloc_new _ _) size24 rfl (rform_one _) ?_)
  all_goals
    try simp only [Exit.inBlock, Exit.then]
    refine bodyPost_ret (results_cell_row rfl _ _ w.heap.size 111 (rformA 9) (0, 0) _ rfl (setRow_heap _ _ _ _ _ _ (heap_alloc_new _ _)) Tryd.underlying111 rfl size24) rfl ⟨rfl, ret24 w 9⟩

set_option maxHeartbeats 2000000 in
set_option maxRecDepth 100000 in
theorem ref8 (op : Int) (host : Bool) (w : World) (h : op = 113 ∧ host = true) :
    Calls Tryd.prog 40 #[.int .u8 op, .bool host] w fun e w' => e = .returned (.agg (rformA 8)) ∧ Kep w w' := by
  obtain ⟨rfl, rfl⟩ := h
  all_goals
    go_enter Tryd.func40, Tryd.ntmps40
    go_wp2_with (refine wpList_store_row rfl 111 _ _ rfl w.heap.size (rformA 8) rfl rfl 111 zero24 (heap_alloc_new _ _) size24 rfl (rform_one _) ?_)
  all_goals
    try simp only [Exit.inBlock, Exit.then]
    refine bodyPost_ret (results_cell_row rfl _ _ w.heap.size 111 (rformA 8) (0, 0) _ rfl (setRow_heap _ _ _ _ _ _ (heap_alloc_new _ _)) Tryd.underlying111 rfl size24) rfl ⟨rfl, ret24 w 8⟩

set_option maxHeartbeats 2000000 in
set_option maxRecDepth 100000 in
theorem ref6 (op : Int) (host : Bool) (w : World) (h : 48 ≤ op) (h' : op ≤ 55) :
    Calls Tryd.prog 40 #[.int .u8 op, .bool host] w fun e w' => e = .returned (.agg (rformA 6)) ∧ Kep w w' := by
  have q0 : (op == 0) = false := by rw [beq_eq_false_iff_ne]; omega
  have q1 : (op == 1) = false := by rw [beq_eq_false_iff_ne]; omega
  have q2 : (op == 2) = false := by rw [beq_eq_false_iff_ne]; omega
  have q3 : (op == 3) = false := by rw [beq_eq_false_iff_ne]; omega
  have q58 : (op == 58) = false := by rw [beq_eq_false_iff_ne]; omega
  have q98 : (op == 98) = false := by rw [beq_eq_false_iff_ne]; omega
  have q99 : (op == 99) = false := by rw [beq_eq_false_iff_ne]; omega
  have q100 : (op == 100) = false := by rw [beq_eq_false_iff_ne]; omega
  have q101 : (op == 101) = false := by rw [beq_eq_false_iff_ne]; omega
  have q73 : (op == 73) = false := by rw [beq_eq_false_iff_ne]; omega
  have q74 : (op == 74) = false := by rw [beq_eq_false_iff_ne]; omega
  have q56 : (op == 56) = false := by rw [beq_eq_false_iff_ne]; omega
  have q57 : (op == 57) = false := by rw [beq_eq_false_iff_ne]; omega
  have q96 : (op == 96) = false := by rw [beq_eq_false_iff_ne]; omega
  have q97 : (op == 97) = false := by rw [beq_eq_false_iff_ne]; omega
  have q80 : (op == 80) = false := by rw [beq_eq_false_iff_ne]; omega
  have q112 : (op == 112) = false := by rw [beq_eq_false_iff_ne]; omega
  have q33 : (op == 33) = false := by rw [beq_eq_false_iff_ne]; omega
  have r31 : decide (op ≤ 31) = false := by rw [decide_eq_false_iff_not]; omega
  all_goals
    go_enter Tryd.func40, Tryd.ntmps40
    go_wp2_with (refine wpList_store_row rfl 111 _ _ rfl w.heap.size (rformA 6) rfl rfl 111 zero24 (heap_alloc_new _ _) size24 rfl (rform_one _) ?_)
  all_goals
    try simp only [Exit.inBlock, Exit.then]
    refine bodyPost_ret (results_cell_row rfl _ _ w.heap.size 111 (rformA 6) (0, 0) _ rfl (setRow_heap _ _ _ _ _ _ (heap_alloc_new _ _)) Tryd.underlying111 rfl size24) rfl ⟨rfl, ret24 w 6⟩

set_option maxHeartbeats 2000000 in
set_option maxRecDepth 100000 in
theorem ref7 (op : Int) (host : Bool) (w : World) (h : 64 ≤ op) (h' : op ≤ 72) :
    Calls Tryd.prog 40 #[.int .u8 op, .bool host] w fun e w' => e = .returned (.agg (rformA 7)) ∧ Kep w w' := by
  have q0 : (op == 0) = false := by rw [beq_eq_false_iff_ne]; omega
  have q1 : (op == 1) = false := by rw [beq_eq_false_iff_ne]; omega
  have q2 : (op == 2) = false := by rw [beq_eq_false_iff_ne]; omega
  have q3 : (op == 3) = false := by rw [beq_eq_false_iff_ne]; omega
  have q58 : (op == 58) = false := by rw [beq_eq_false_iff_ne]; omega
  have q98 : (op == 98) = false := by rw [beq_eq_false_iff_ne]; omega
  have q99 : (op == 99) = false := by rw [beq_eq_false_iff_ne]; omega
  have q100 : (op == 100) = false := by rw [beq_eq_false_iff_ne]; omega
  have q101 : (op == 101) = false := by rw [beq_eq_false_iff_ne]; omega
  have q73 : (op == 73) = false := by rw [beq_eq_false_iff_ne]; omega
  have q74 : (op == 74) = false := by rw [beq_eq_false_iff_ne]; omega
  have q56 : (op == 56) = false := by rw [beq_eq_false_iff_ne]; omega
  have q57 : (op == 57) = false := by rw [beq_eq_false_iff_ne]; omega
  have q96 : (op == 96) = false := by rw [beq_eq_false_iff_ne]; omega
  have q97 : (op == 97) = false := by rw [beq_eq_false_iff_ne]; omega
  have q80 : (op == 80) = false := by rw [beq_eq_false_iff_ne]; omega
  have q112 : (op == 112) = false := by rw [beq_eq_false_iff_ne]; omega
  have q33 : (op == 33) = false := by rw [beq_eq_false_iff_ne]; omega
  have r31 : decide (op ≤ 31) = false := by rw [decide_eq_false_iff_not]; omega
  have r55 : decide (op ≤ 55) = false := by rw [decide_eq_false_iff_not]; omega
  all_goals
    go_enter Tryd.func40, Tryd.ntmps40
    go_wp2_with (refine wpList_store_row rfl 111 _ _ rfl w.heap.size (rformA 7) rfl rfl 111 zero24 (heap_alloc_new _ _) size24 rfl (rform_one _) ?_)
  all_goals
    try simp only [Exit.inBlock, Exit.then]
    refine bodyPost_ret (results_cell_row rfl _ _ w.heap.size 111 (rformA 7) (0, 0) _ rfl (setRow_heap _ _ _ _ _ _ (heap_alloc_new _ _)) Tryd.underlying111 rfl size24) rfl ⟨rfl, ret24 w 7⟩

set_option maxHeartbeats 2000000 in
set_option maxRecDepth 100000 in
theorem ref0h (op : Int) (host : Bool) (w : World)  (h : op = 112 ∨ op = 113) (hh : host = false) :
    Calls Tryd.prog 40 #[.int .u8 op, .bool host] w fun e w' => e = .returned (.agg (rformA 0)) ∧ Kep w w' := by
  subst hh
  rcases h with rfl | rfl
  all_goals
    go_enter Tryd.func40, Tryd.ntmps40
    go_wp2_with (refine wpList_store_row rfl 111 _ _ rfl w.heap.size (rformA 0) rfl rfl 111 zero24 (heap_alloc_new _ _) size24 rfl (rform_one _) ?_)
  all_goals
    try simp only [Exit.inBlock, Exit.then]
    refine bodyPost_ret (results_cell_row rfl _ _ w.heap.size 111 (rformA 0) (0, 0) _ rfl (setRow_heap _ _ _ _ _ _ (heap_alloc_new _ _)) Tryd.underlying111 rfl size24) rfl ⟨rfl, ret24 w 0⟩

set_option maxHeartbeats 2000000 in
set_option maxRecDepth 100000 in
theorem ref0 (op : Int) (host : Bool) (w : World) (h0 : op ≠ 0 ∧ op ≠ 1 ∧ op ≠ 2 ∧ op ≠ 3) (h1 : ¬ (16 ≤ op ∧ op ≤ 31)) (h2 : op ≠ 58 ∧ op ≠ 98 ∧ op ≠ 99 ∧ op ≠ 100 ∧ op ≠ 101) (h3 : op ≠ 73 ∧ op ≠ 74 ∧ op ≠ 56 ∧ op ≠ 57 ∧ op ≠ 96 ∧ op ≠ 97) (h4 : op ≠ 80 ∧ op ≠ 112 ∧ op ≠ 33) (h5 : ¬ (48 ≤ op ∧ op ≤ 55)) (h6 : ¬ (64 ≤ op ∧ op ≤ 72)) (h7 : op ≠ 113 ∧ op ≠ 32) :
    Calls Tryd.prog 40 #[.int .u8 op, .bool host] w fun e w' => e = .returned (.agg (rformA 0)) ∧ Kep w w' := by
  have q0 : (op == 0) = false := by rw [beq_eq_false_iff_ne]; omega
  have q1 : (op == 1) = false := by rw [beq_eq_false_iff_ne]; omega
  have q2 : (op == 2) = false := by rw [beq_eq_false_iff_ne]; omega
  have q3 : (op == 3) = false := by rw [beq_eq_false_iff_ne]; omega
  have q58 : (op == 58) = false := by rw [beq_eq_false_iff_ne]; omega
  have q98 : (op == 98) = false := by rw [beq_eq_false_iff_ne]; omega
  have q99 : (op == 99) = false := by rw [beq_eq_false_iff_ne]; omega
  have q100 : (op == 100) = false := by rw [beq_eq_false_iff_ne]; omega
  have q101 : (op == 101) = false := by rw [beq_eq_false_iff_ne]; omega
  have q73 : (op == 73) = false := by rw [beq_eq_false_iff_ne]; omega
  have q74 : (op == 74) = false := by rw [beq_eq_false_iff_ne]; omega
  have q56 : (op == 56) = false := by rw [beq_eq_false_iff_ne]; omega
  have q57 : (op == 57) = false := by rw [beq_eq_false_iff_ne]; omega
  have q96 : (op == 96) = false := by rw [beq_eq_false_iff_ne]; omega
  have q97 : (op == 97) = false := by rw [beq_eq_false_iff_ne]; omega
  have q80 : (op == 80) = false := by rw [beq_eq_false_iff_ne]; omega
  have q112 : (op == 112) = false := by rw [beq_eq_false_iff_ne]; omega
  have q33 : (op == 33) = false := by rw [beq_eq_false_iff_ne]; omega
  have q113 : (op == 113) = false := by rw [beq_eq_false_iff_ne]; omega
  have q32 : (op == 32) = false := by rw [beq_eq_false_iff_ne]; omega
  have c : (decide (op ≥ 16) = false ∧ decide (op ≥ 48) = false ∧ decide (op ≥ 64) = false) ∨ ((decide (op ≥ 16) = true ∧ decide (op ≤ 31) = false) ∧ decide (op ≥ 48) = false ∧ decide (op ≥ 64) = false) ∨
      ((decide (op ≥ 16) = true ∧ decide (op ≤ 31) = false) ∧ (decide (op ≥ 48) = true ∧ decide (op ≤ 55) = false) ∧ decide (op ≥ 64) = false) ∨
      ((decide (op ≥ 16) = true ∧ decide (op ≤ 31) = false) ∧ (decide (op ≥ 48) = true ∧ decide (op ≤ 55) = false) ∧ (decide (op ≥ 64) = true ∧ decide (op ≤ 72) = false)) := by
    simp only [decide_eq_false_iff_not, decide_eq_true_iff]; omega
  clear h0 h1 h2 h3 h4 h5 h6 h7
  rcases c with ⟨c1, c2, c3⟩ | ⟨⟨c1, c2⟩, c3, c4⟩ | ⟨⟨c1, c2⟩, ⟨c3, c4⟩, c5⟩ | ⟨⟨c1, c2⟩, ⟨c3, c4⟩, ⟨c5, c6⟩⟩
  all_goals
    go_enter Tryd.func40, Tryd.ntmps40
    go_wp2_with (refine wpList_store_row rfl 111 _ _ rfl w.heap.size (rformA 0) rfl rfl 111 zero24 (heap_alloc_new _ _) size24 rfl (rform_one _) ?_)
  all_goals
    try simp only [Exit.inBlock, Exit.then]
    refine bodyPost_ret (results_cell_row rfl _ _ w.heap.size 111 (rformA 0) (0, 0) _ rfl (setRow_heap _ _ _ _ _ _ (heap_alloc_new _ _)) Tryd.underlying111 rfl size24) rfl ⟨rfl, ret24 w 0⟩

theorem refOf_any (op : Int) (host : Bool) (w : World) :
    Calls Tryd.prog 40 #[.int .u8 op, .bool host] w fun e w' => e = .returned (.agg (rformA (rowOf op host))) ∧ Kep w w' := by
  unfold rowOf
  split
  · exact ref1 op host w (by assumption)
  split
  · rename_i h
    rcases h with h | h
    · exact ref3a op host w h.1 h.2
    · exact ref3b op host w h
  split
  · exact ref2 op host w (by assumption)
  split
  · exact ref4 op host w (by assumption)
  split
  · exact ref5 op host w (by assumption)
  split
  · rename_i h; exact ref6 op host w h.1 h.2
  split
  · rename_i h; exact ref7 op host w h.1 h.2
  split
  · exact ref8 op host w (by assumption)
  split
  · exact ref9 op host w (by assumption)
  · by_cases c : op = 112 ∨ op = 113
    · refine ref0h op host w c ?_
      cases host
      · rfl
      · exfalso; simp_all
    · apply ref0 <;> omega
end Go.Proofs.YtpalbpjmjbcelaaDoor
