/- What the document's own table of kinds answers, for some of the operations. -/
import Derived.Test.YtpalbpjmjbcelaaDoorKrefa
namespace Go.Proofs.YtpalbpjmjbcelaaDoor
open Go.RowKit
set_option linter.unusedVariables false

abbrev rfZ : Array Value := #[.int .i64 0, .bool false, .bool false, .bool false, .bool false, .bool false, .bool false, .bool false, .bool false, .bool false, .bool false]
theorem sizeRf : (Tryd.prog.info? 53).map (·.size) = some 11 := by kernel_rfl
theorem rf_one (x : Rf) (e : Bool) : (rfA x e).all (·.oneCell') = true := by simp [rfA, Value.oneCell']

set_option maxHeartbeats 8000000 in
theorem row_lo (op : Int) (w : World) (h : op ≠ 0 ∧ op ≠ 16 ∧ op ≠ 26 ∧ op ≠ 31 ∧ op ≠ 32 ∧ op ≠ 33 ∧ op ≠ 48 ∧ op ≠ 50 ∧ op ≠ 52 ∧ op ≠ 54 ∧ op ≠ 55 ∧ op ≠ 56 ∧ op ≠ 57 ∧ op ≠ 58 ∧ op ≠ 49 ∧ op ≠ 51 ∧ op ≠ 53 ∧ op ≠ 72 ∧ op ≠ 73 ∧ op ≠ 74 ∧ op ≠ 80) (hh : op < 17) :
    Calls Tryd.prog 41 #[.int .u8 op] w fun e w' => e = .returned (.agg (rfA (rfRow op) false)) ∧ Kep w w' := by
  have hr : rfRow op = rfSense op := by
    unfold rfRow; repeat (first | rw [if_neg (by omega)])
  rw [hr]
  have q0 : (op == 0) = false := by rw [beq_eq_false_iff_ne]; omega
  have q16 : (op == 16) = false := by rw [beq_eq_false_iff_ne]; omega
  have q26 : (op == 26) = false := by rw [beq_eq_false_iff_ne]; omega
  have q31 : (op == 31) = false := by rw [beq_eq_false_iff_ne]; omega
  have q32 : (op == 32) = false := by rw [beq_eq_false_iff_ne]; omega
  have q33 : (op == 33) = false := by rw [beq_eq_false_iff_ne]; omega
  have q48 : (op == 48) = false := by rw [beq_eq_false_iff_ne]; omega
  have q50 : (op == 50) = false := by rw [beq_eq_false_iff_ne]; omega
  have q52 : (op == 52) = false := by rw [beq_eq_false_iff_ne]; omega
  have q54 : (op == 54) = false := by rw [beq_eq_false_iff_ne]; omega
  have q55 : (op == 55) = false := by rw [beq_eq_false_iff_ne]; omega
  have q56 : (op == 56) = false := by rw [beq_eq_false_iff_ne]; omega
  have q57 : (op == 57) = false := by rw [beq_eq_false_iff_ne]; omega
  have q58 : (op == 58) = false := by rw [beq_eq_false_iff_ne]; omega
  have q49 : (op == 49) = false := by rw [beq_eq_false_iff_ne]; omega
  have q51 : (op == 51) = false := by rw [beq_eq_false_iff_ne]; omega
  have q53 : (op == 53) = false := by rw [beq_eq_false_iff_ne]; omega
  have q72 : (op == 72) = false := by rw [beq_eq_false_iff_ne]; omega
  have q73 : (op == 73) = false := by rw [beq_eq_false_iff_ne]; omega
  have q74 : (op == 74) = false := by rw [beq_eq_false_iff_ne]; omega
  have q80 : (op == 80) = false := by rw [beq_eq_false_iff_ne]; omega
  have r1 : decide (op ≥ 17) = false := by rw [decide_eq_false_iff_not]; omega
  have r3 : decide (op ≥ 64) = false := by rw [decide_eq_false_iff_not]; omega
  clear h hh hr
  generalize hS : rfSense op = S
  have hc : Hid (∀ w, Calls Tryd.prog 53 #[.int .u8 op] w fun e w' => e = .returned (.agg (rfA S false)) ∧ Kep w w') := fun w => hS ▸ sense_any op w
  clear hS
  unfold rfA at hc ⊢
  go_enter Tryd.func41, Tryd.ntmps41
  go_wp2_with fail
  refine (hc.out _).mono ?_
  rintro e w1 ⟨rfl, g1⟩
  have b0 : Hid (w1.heap[w.heap.size]? = some (.cells rfZ 53 (0, 0))) := g1.block (heap_alloc_new _ _)
  have K1 : Hid (Kep w w1) := kep_trans ((Kep.refl _).alloc _) g1
  clear g1
  go_wp2_with (refine wpList_store_row rfl 53 _ _ rfl w.heap.size (rfA S false) rfl rfl 53 rfZ b0.out sizeRf rfl (rf_one _ _) ?_)
  try simp only [Exit.inBlock, Exit.then]
  refine bodyPost_ret (results_cell_row rfl _ _ w.heap.size 53 (rfA S false) (0, 0) _ rfl (setRow_heap _ _ _ _ _ _ b0.out) Tryd.underlying53 rfl sizeRf) rfl ⟨rfl, ?_⟩
  exact K1.out.setRow _ _ (Nat.le_refl _)

set_option maxHeartbeats 8000000 in
theorem row_mi (op : Int) (w : World) (h : op ≠ 0 ∧ op ≠ 16 ∧ op ≠ 26 ∧ op ≠ 31 ∧ op ≠ 32 ∧ op ≠ 33 ∧ op ≠ 48 ∧ op ≠ 50 ∧ op ≠ 52 ∧ op ≠ 54 ∧ op ≠ 55 ∧ op ≠ 56 ∧ op ≠ 57 ∧ op ≠ 58 ∧ op ≠ 49 ∧ op ≠ 51 ∧ op ≠ 53 ∧ op ≠ 72 ∧ op ≠ 73 ∧ op ≠ 74 ∧ op ≠ 80) (hh : 30 < op ∧ op < 64) :
    Calls Tryd.prog 41 #[.int .u8 op] w fun e w' => e = .returned (.agg (rfA (rfRow op) false)) ∧ Kep w w' := by
  have hr : rfRow op = rfSense op := by
    unfold rfRow; repeat (first | rw [if_neg (by omega)])
  rw [hr]
  have q0 : (op == 0) = false := by rw [beq_eq_false_iff_ne]; omega
  have q16 : (op == 16) = false := by rw [beq_eq_false_iff_ne]; omega
  have q26 : (op == 26) = false := by rw [beq_eq_false_iff_ne]; omega
  have q31 : (op == 31) = false := by rw [beq_eq_false_iff_ne]; omega
  have q32 : (op == 32) = false := by rw [beq_eq_false_iff_ne]; omega
  have q33 : (op == 33) = false := by rw [beq_eq_false_iff_ne]; omega
  have q48 : (op == 48) = false := by rw [beq_eq_false_iff_ne]; omega
  have q50 : (op == 50) = false := by rw [beq_eq_false_iff_ne]; omega
  have q52 : (op == 52) = false := by rw [beq_eq_false_iff_ne]; omega
  have q54 : (op == 54) = false := by rw [beq_eq_false_iff_ne]; omega
  have q55 : (op == 55) = false := by rw [beq_eq_false_iff_ne]; omega
  have q56 : (op == 56) = false := by rw [beq_eq_false_iff_ne]; omega
  have q57 : (op == 57) = false := by rw [beq_eq_false_iff_ne]; omega
  have q58 : (op == 58) = false := by rw [beq_eq_false_iff_ne]; omega
  have q49 : (op == 49) = false := by rw [beq_eq_false_iff_ne]; omega
  have q51 : (op == 51) = false := by rw [beq_eq_false_iff_ne]; omega
  have q53 : (op == 53) = false := by rw [beq_eq_false_iff_ne]; omega
  have q72 : (op == 72) = false := by rw [beq_eq_false_iff_ne]; omega
  have q73 : (op == 73) = false := by rw [beq_eq_false_iff_ne]; omega
  have q74 : (op == 74) = false := by rw [beq_eq_false_iff_ne]; omega
  have q80 : (op == 80) = false := by rw [beq_eq_false_iff_ne]; omega
  have r1 : decide (op ≥ 17) = true := by rw [decide_eq_true_eq]; omega
  have r2 : decide (op ≤ 30) = false := by rw [decide_eq_false_iff_not]; omega
  have r3 : decide (op ≥ 64) = false := by rw [decide_eq_false_iff_not]; omega
  clear h hh hr
  generalize hS : rfSense op = S
  have hc : Hid (∀ w, Calls Tryd.prog 53 #[.int .u8 op] w fun e w' => e = .returned (.agg (rfA S false)) ∧ Kep w w') := fun w => hS ▸ sense_any op w
  clear hS
  unfold rfA at hc ⊢
  go_enter Tryd.func41, Tryd.ntmps41
  go_wp2_with fail
  refine (hc.out _).mono ?_
  rintro e w1 ⟨rfl, g1⟩
  have b0 : Hid (w1.heap[w.heap.size]? = some (.cells rfZ 53 (0, 0))) := g1.block (heap_alloc_new _ _)
  have K1 : Hid (Kep w w1) := kep_trans ((Kep.refl _).alloc _) g1
  clear g1
  go_wp2_with (refine wpList_store_row rfl 53 _ _ rfl w.heap.size (rfA S false) rfl rfl 53 rfZ b0.out sizeRf rfl (rf_one _ _) ?_)
  try simp only [Exit.inBlock, Exit.then]
  refine bodyPost_ret (results_cell_row rfl _ _ w.heap.size 53 (rfA S false) (0, 0) _ rfl (setRow_heap _ _ _ _ _ _ b0.out) Tryd.underlying53 rfl sizeRf) rfl ⟨rfl, ?_⟩
  exact K1.out.setRow _ _ (Nat.le_refl _)

set_option maxHeartbeats 8000000 in
theorem row_hi (op : Int) (w : World) (h : op ≠ 0 ∧ op ≠ 16 ∧ op ≠ 26 ∧ op ≠ 31 ∧ op ≠ 32 ∧ op ≠ 33 ∧ op ≠ 48 ∧ op ≠ 50 ∧ op ≠ 52 ∧ op ≠ 54 ∧ op ≠ 55 ∧ op ≠ 56 ∧ op ≠ 57 ∧ op ≠ 58 ∧ op ≠ 49 ∧ op ≠ 51 ∧ op ≠ 53 ∧ op ≠ 72 ∧ op ≠ 73 ∧ op ≠ 74 ∧ op ≠ 80) (hh : 71 < op) :
    Calls Tryd.prog 41 #[.int .u8 op] w fun e w' => e = .returned (.agg (rfA (rfRow op) false)) ∧ Kep w w' := by
  have hr : rfRow op = rfSense op := by
    unfold rfRow; repeat (first | rw [if_neg (by omega)])
  rw [hr]
  have q0 : (op == 0) = false := by rw [beq_eq_false_iff_ne]; omega
  have q16 : (op == 16) = false := by rw [beq_eq_false_iff_ne]; omega
  have q26 : (op == 26) = false := by rw [beq_eq_false_iff_ne]; omega
  have q31 : (op == 31) = false := by rw [beq_eq_false_iff_ne]; omega
  have q32 : (op == 32) = false := by rw [beq_eq_false_iff_ne]; omega
  have q33 : (op == 33) = false := by rw [beq_eq_false_iff_ne]; omega
  have q48 : (op == 48) = false := by rw [beq_eq_false_iff_ne]; omega
  have q50 : (op == 50) = false := by rw [beq_eq_false_iff_ne]; omega
  have q52 : (op == 52) = false := by rw [beq_eq_false_iff_ne]; omega
  have q54 : (op == 54) = false := by rw [beq_eq_false_iff_ne]; omega
  have q55 : (op == 55) = false := by rw [beq_eq_false_iff_ne]; omega
  have q56 : (op == 56) = false := by rw [beq_eq_false_iff_ne]; omega
  have q57 : (op == 57) = false := by rw [beq_eq_false_iff_ne]; omega
  have q58 : (op == 58) = false := by rw [beq_eq_false_iff_ne]; omega
  have q49 : (op == 49) = false := by rw [beq_eq_false_iff_ne]; omega
  have q51 : (op == 51) = false := by rw [beq_eq_false_iff_ne]; omega
  have q53 : (op == 53) = false := by rw [beq_eq_false_iff_ne]; omega
  have q72 : (op == 72) = false := by rw [beq_eq_false_iff_ne]; omega
  have q73 : (op == 73) = false := by rw [beq_eq_false_iff_ne]; omega
  have q74 : (op == 74) = false := by rw [beq_eq_false_iff_ne]; omega
  have q80 : (op == 80) = false := by rw [beq_eq_false_iff_ne]; omega
  have r1 : decide (op ≥ 17) = true := by rw [decide_eq_true_eq]; omega
  have r2 : decide (op ≤ 30) = false := by rw [decide_eq_false_iff_not]; omega
  have r3 : decide (op ≥ 64) = true := by rw [decide_eq_true_eq]; omega
  have r4 : decide (op ≤ 71) = false := by rw [decide_eq_false_iff_not]; omega
  clear h hh hr
  generalize hS : rfSense op = S
  have hc : Hid (∀ w, Calls Tryd.prog 53 #[.int .u8 op] w fun e w' => e = .returned (.agg (rfA S false)) ∧ Kep w w') := fun w => hS ▸ sense_any op w
  clear hS
  unfold rfA at hc ⊢
  go_enter Tryd.func41, Tryd.ntmps41
  go_wp2_with fail
  refine (hc.out _).mono ?_
  rintro e w1 ⟨rfl, g1⟩
  have b0 : Hid (w1.heap[w.heap.size]? = some (.cells rfZ 53 (0, 0))) := g1.block (heap_alloc_new _ _)
  have K1 : Hid (Kep w w1) := kep_trans ((Kep.refl _).alloc _) g1
  clear g1
  go_wp2_with (refine wpList_store_row rfl 53 _ _ rfl w.heap.size (rfA S false) rfl rfl 53 rfZ b0.out sizeRf rfl (rf_one _ _) ?_)
  try simp only [Exit.inBlock, Exit.then]
  refine bodyPost_ret (results_cell_row rfl _ _ w.heap.size 53 (rfA S false) (0, 0) _ rfl (setRow_heap _ _ _ _ _ _ b0.out) Tryd.underlying53 rfl sizeRf) rfl ⟨rfl, ?_⟩
  exact K1.out.setRow _ _ (Nat.le_refl _)

end Go.Proofs.YtpalbpjmjbcelaaDoor
