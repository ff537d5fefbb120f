/- Part of a proof. -/
import Derived.Deep.CutRange
import Derived.Test.YtpalbpjmjbcelaaDoorJ03
namespace Go.Proofs.YtpalbpjmjbcelaaDoor
open Go.RowKit
set_option linter.unusedVariables false
set_option linter.unusedSimpArgs false
structure Rf where
  c : Int
  ra : Bool
  rb : Bool
  wa : Bool
  lk : Bool
  sd : Bool
  st : Bool
  t : Bool
  f : Bool
  s : Bool
def rf0 : Rf := ⟨0, false, false, false, false, false, false, false, false, false⟩
def rfSense (op : Int) : Rf :=
  if op = 1 then { rf0 with c := 4, f := true } else if op = 2 then { rf0 with c := 4, t := true, s := true } else if op = 3 then { rf0 with c := 4, s := true }
  else if op = 96 ∨ op = 98 then { rf0 with c := 4, wa := true, s := true } else if op = 97 then { rf0 with c := 4, ra := true, t := true, s := true }
  else if op = 99 ∨ op = 101 then { rf0 with c := 4, ra := true, f := true } else if op = 100 then { rf0 with c := 4, wa := true, f := true }
  else if op = 112 ∨ op = 113 then { rf0 with c := 5 } else rf0
def rfRow (op : Int) : Rf :=
  if op = 0 then { rf0 with c := 1 } else if op = 16 then { rf0 with c := 1, rb := true, wa := true }
  else if 17 ≤ op ∧ op ≤ 30 ∧ op ≠ 26 then { rf0 with c := 1, ra := true, rb := true, wa := true, t := true, f := op == 25 || op == 30 }
  else if op = 26 ∨ op = 31 then { rf0 with c := 1, ra := true, rb := true, t := true }
  else if op = 32 then { rf0 with c := 1, wa := true } else if op = 33 then { rf0 with c := 1, ra := true, wa := true, t := true }
  else if op = 48 ∨ op = 50 ∨ op = 52 ∨ op = 54 ∨ op = 55 then { rf0 with c := 2, rb := true, wa := true, f := true }
  else if op = 56 then { rf0 with c := 2, ra := true, sd := true, st := true, f := true } else if op = 57 then { rf0 with c := 2, wa := true, sd := true, st := true, f := true }
  else if op = 58 then { rf0 with c := 2, ra := true, rb := true, wa := true, f := true }
  else if op = 49 ∨ op = 51 ∨ op = 53 then { rf0 with c := 2, ra := true, rb := true, f := true }
  else if 64 ≤ op ∧ op ≤ 71 then { rf0 with c := 3 }
  else if op = 72 ∨ op = 73 ∨ op = 74 then { rf0 with c := 3, ra := op != 72, lk := op != 73 }
  else if op = 80 then { rf0 with c := 3, f := true } else rfSense op
def rfA (x : Rf) (e : Bool) : Array Value := #[.int .i64 x.c, .bool x.ra, .bool x.rb, .bool x.wa, .bool x.lk, .bool x.sd, .bool x.st, .bool x.t, .bool x.f, .bool x.s, .bool e]
set_option maxHeartbeats 8000000 in
theorem sense_1 (op : Int) (w : World) (h : op = 1 ∨ op = 2 ∨ op = 3 ∨ op = 96 ∨ op = 98 ∨ op = 97 ∨ op = 99 ∨ op = 101 ∨ op = 100 ∨ op = 112 ∨ op = 113) :
    Calls Tryd.prog 53 #[.int .u8 op] w fun e w' => e = .returned (.agg (rfA (rfSense op) false)) ∧ Kep w w' := by
  rcases h with rfl | rfl | rfl | rfl | rfl | rfl | rfl | rfl | rfl | rfl | rfl
  all_goals
    go_enter Tryd.func53, Tryd.ntmps53
    go_wp2
    go_returns
    exact ⟨by kernel_rfl, by repeat (first | exact Kep.refl _ | apply Kep.drew | apply Kep.alloc)⟩
set_option maxHeartbeats 8000000 in
theorem sense_0 (op : Int) (w : World) (h : op ≠ 1 ∧ op ≠ 2 ∧ op ≠ 3 ∧ op ≠ 96 ∧ op ≠ 98 ∧ op ≠ 97 ∧ op ≠ 99 ∧ op ≠ 101 ∧ op ≠ 100 ∧ op ≠ 112 ∧ op ≠ 113) :
    Calls Tryd.prog 53 #[.int .u8 op] w fun e w' => e = .returned (.agg (rfA (rfSense op) false)) ∧ Kep w w' := by
  have hr : rfSense op = rf0 := by unfold rfSense; simp [h]
  rw [hr]
  have q1 : (op == 1) = false := by rw [beq_eq_false_iff_ne]; omega
  have q2 : (op == 2) = false := by rw [beq_eq_false_iff_ne]; omega
  have q3 : (op == 3) = false := by rw [beq_eq_false_iff_ne]; omega
  have q96 : (op == 96) = false := by rw [beq_eq_false_iff_ne]; omega
  have q98 : (op == 98) = false := by rw [beq_eq_false_iff_ne]; omega
  have q97 : (op == 97) = false := by rw [beq_eq_false_iff_ne]; omega
  have q99 : (op == 99) = false := by rw [beq_eq_false_iff_ne]; omega
  have q101 : (op == 101) = false := by rw [beq_eq_false_iff_ne]; omega
  have q100 : (op == 100) = false := by rw [beq_eq_false_iff_ne]; omega
  have q112 : (op == 112) = false := by rw [beq_eq_false_iff_ne]; omega
  have q113 : (op == 113) = false := by rw [beq_eq_false_iff_ne]; omega
  clear h hr
  go_enter Tryd.func53, Tryd.ntmps53
  go_wp2
  go_returns
  exact ⟨rfl, by repeat (first | exact Kep.refl _ | apply Kep.drew | apply Kep.alloc)⟩
theorem sense_any (op : Int) (w : World) : Calls Tryd.prog 53 #[.int .u8 op] w fun e w' => e = .returned (.agg (rfA (rfSense op) false)) ∧ Kep w w' := by
  by_cases h : op = 1 ∨ op = 2 ∨ op = 3 ∨ op = 96 ∨ op = 98 ∨ op = 97 ∨ op = 99 ∨ op = 101 ∨ op = 100 ∨ op = 112 ∨ op = 113
  · exact sense_1 op w h
  · exact sense_0 op w (by omega)
abbrev rfZ : Array Value := #[.int .i64 0, .bool false, .bool false, .bool false, .bool false, .bool false, .bool false, .bool false, .bool false, .bool false, .bool false]
theorem sizeRf : (Tryd.prog.info? 53).map (·.size) = some 11 := by kernel_rfl
theorem rf_one (x : Rf) (e : Bool) : (rfA x e).all (·.oneCell') = true := by simp [rfA, Value.oneCell']
set_option maxHeartbeats 8000000 in
theorem row_lo (op : Int) (w : World) (h : op ≠ 0 ∧ op ≠ 16 ∧ op ≠ 26 ∧ op ≠ 31 ∧ op ≠ 32 ∧ op ≠ 33 ∧ op ≠ 48 ∧ op ≠ 50 ∧ op ≠ 52 ∧ op ≠ 54 ∧ op ≠ 55 ∧ op ≠ 56 ∧ op ≠ 57 ∧ op ≠ 58 ∧ op ≠ 49 ∧ op ≠ 51 ∧ op ≠ 53 ∧ op ≠ 72 ∧ op ≠ 73 ∧ op ≠ 74 ∧ op ≠ 80) (hh : op < 17) :
    Calls Tryd.prog 41 #[.int .u8 op] w fun e w' => e = .returned (.agg (rfA (rfRow op) false)) ∧ Kep w w' := by
  have hr : rfRow op = rfSense op := by
    unfold rfRow; repeat (first | rw [if_neg (by omega)])
  rw [hr]
  have q0 : (op == 0) = false := by rw [beq_eq_false_iff_ne]; omega
  have q16 : (op == 16) = false := by rw [beq_eq_false_iff_ne]; omega
  have q26 : (op == 26) = false := by rw [beq_eq_false_iff_ne]; omega
  have q31 : (op == 31) = false := by rw [beq_eq_false_iff_ne]; omega
  have q32 : (op == 32) = false := by rw [beq_eq_false_iff_ne]; omega
  have q33 : (op == 33) = false := by rw [beq_eq_false_iff_ne]; omega
  have q48 : (op == 48) = false := by rw [beq_eq_false_iff_ne]; omega
  have q50 : (op == 50) = false := by rw [beq_eq_false_iff_ne]; omega
  have q52 : (op == 52) = false := by rw [beq_eq_false_iff_ne]; omega
  have q54 : (op == 54) = false := by rw [beq_eq_false_iff_ne]; omega
  have q55 : (op == 55) = false := by rw [beq_eq_false_iff_ne]; omega
  have q56 : (op == 56) = false := by rw [beq_eq_false_iff_ne]; omega
  have q57 : (op == 57) = false := by rw [beq_eq_false_iff_ne]; omega
  have q58 : (op == 58) = false := by rw [beq_eq_false_iff_ne]; omega
  have q49 : (op == 49) = false := by rw [beq_eq_false_iff_ne]; omega
  have q51 : (op == 51) = false := by rw [beq_eq_false_iff_ne]; omega
  have q53 : (op == 53) = false := by rw [beq_eq_false_iff_ne]; omega
  have q72 : (op == 72) = false := by rw [beq_eq_false_iff_ne]; omega
  have q73 : (op == 73) = false := by rw [beq_eq_false_iff_ne]; omega
  have q74 : (op == 74) = false := by rw [beq_eq_false_iff_ne]; omega
  have q80 : (op == 80) = false := by rw [beq_eq_false_iff_ne]; omega
  have r1 : decide (op ≥ 17) = false := by rw [decide_eq_false_iff_not]; omega
  have r3 : decide (op ≥ 64) = false := by rw [decide_eq_false_iff_not]; omega
  clear h hh hr
  generalize hS : rfSense op = S
  have hc : Hid (∀ w, Calls Tryd.prog 53 #[.int .u8 op] w fun e w' => e = .returned (.agg (rfA S false)) ∧ Kep w w') := fun w => hS ▸ sense_any op w
  clear hS
  unfold rfA at hc ⊢
  go_enter Tryd.func41, Tryd.ntmps41
  go_wp2_with fail
  refine (hc.out _).mono ?_
  rintro e w1 ⟨rfl, g1⟩
  have b0 : Hid (w1.heap[w.heap.size]? = some (.cells rfZ 53 (0, 0))) := g1.block (heap_alloc_new _ _)
  have K1 : Hid (Kep w w1) := kep_trans ((Kep.refl _).alloc _) g1
  clear g1
  go_wp2_with (refine wpList_store_row rfl 53 _ _ rfl w.heap.size (rfA S false) rfl rfl 53 rfZ b0.out sizeRf rfl (rf_one _ _) ?_)
  try simp only [Exit.inBlock, Exit.then]
  refine bodyPost_ret (results_cell_row rfl _ _ w.heap.size 53 (rfA S false) (0, 0) _ rfl (setRow_heap _ _ _ _ _ _ b0.out) Tryd.underlying53 rfl sizeRf) rfl ⟨rfl, ?_⟩
  exact K1.out.setRow _ _ (Nat.le_refl _)
set_option maxHeartbeats 8000000 in
theorem row_mi (op : Int) (w : World) (h : op ≠ 0 ∧ op ≠ 16 ∧ op ≠ 26 ∧ op ≠ 31 ∧ op ≠ 32 ∧ op ≠ 33 ∧ op ≠ 48 ∧ op ≠ 50 ∧ op ≠ 52 ∧ op ≠ 54 ∧ op ≠ 55 ∧ op ≠ 56 ∧ op ≠ 57 ∧ op ≠ 58 ∧ op ≠ 49 ∧ op ≠ 51 ∧ op ≠ 53 ∧ op ≠ 72 ∧ op ≠ 73 ∧ op ≠ 74 ∧ op ≠ 80) (hh : 30 < op ∧ op < 64) :
    Calls Tryd.prog 41 #[.int .u8 op] w fun e w' => e = .returned (.agg (rfA (rfRow op) false)) ∧ Kep w w' := by
  have hr : rfRow op = rfSense op := by
    unfold rfRow; repeat (first | rw [if_neg (by omega)])
  rw [hr]
  have q0 : (op == 0) = false := by rw [beq_eq_false_iff_ne]; omega
  have q16 : (op == 16) = false := by rw [beq_eq_false_iff_ne]; omega
  have q26 : (op == 26) = false := by rw [beq_eq_false_iff_ne]; omega
  have q31 : (op == 31) = false := by rw [beq_eq_false_iff_ne]; omega
  have q32 : (op == 32) = false := by rw [beq_eq_false_iff_ne]; omega
  have q33 : (op == 33) = false := by rw [beq_eq_false_iff_ne]; omega
  have q48 : (op == 48) = false := by rw [beq_eq_false_iff_ne]; omega
  have q50 : (op == 50) = false := by rw [beq_eq_false_iff_ne]; omega
  have q52 : (op == 52) = false := by rw [beq_eq_false_iff_ne]; omega
  have q54 : (op == 54) = false := by rw [beq_eq_false_iff_ne]; omega
  have q55 : (op == 55) = false := by rw [beq_eq_false_iff_ne]; omega
  have q56 : (op == 56) = false := by rw [beq_eq_false_iff_ne]; omega
  have q57 : (op == 57) = false := by rw [beq_eq_false_iff_ne]; omega
  have q58 : (op == 58) = false := by rw [beq_eq_false_iff_ne]; omega
  have q49 : (op == 49) = false := by rw [beq_eq_false_iff_ne]; omega
  have q51 : (op == 51) = false := by rw [beq_eq_false_iff_ne]; omega
  have q53 : (op == 53) = false := by rw [beq_eq_false_iff_ne]; omega
  have q72 : (op == 72) = false := by rw [beq_eq_false_iff_ne]; omega
  have q73 : (op == 73) = false := by rw [beq_eq_false_iff_ne]; omega
  have q74 : (op == 74) = false := by rw [beq_eq_false_iff_ne]; omega
  have q80 : (op == 80) = false := by rw [beq_eq_false_iff_ne]; omega
  have r1 : decide (op ≥ 17) = true := by rw [decide_eq_true_eq]; omega
  have r2 : decide (op ≤ 30) = false := by rw [decide_eq_false_iff_not]; omega
  have r3 : decide (op ≥ 64) = false := by rw [decide_eq_false_iff_not]; omega
  clear h hh hr
  generalize hS : rfSense op = S
  have hc : Hid (∀ w, Calls Tryd.prog 53 #[.int .u8 op] w fun e w' => e = .returned (.agg (rfA S false)) ∧ Kep w w') := fun w => hS ▸ sense_any op w
  clear hS
  unfold rfA at hc ⊢
  go_enter Tryd.func41, Tryd.ntmps41
  go_wp2_with fail
  refine (hc.out _).mono ?_
  rintro e w1 ⟨rfl, g1⟩
  have b0 : Hid (w1.heap[w.heap.size]? = some (.cells rfZ 53 (0, 0))) := g1.block (heap_alloc_new _ _)
  have K1 : Hid (Kep w w1) := kep_trans ((Kep.refl _).alloc _) g1
  clear g1
  go_wp2_with (refine wpList_store_row rfl 53 _ _ rfl w.heap.size (rfA S false) rfl rfl 53 rfZ b0.out sizeRf rfl (rf_one _ _) ?_)
  try simp only [Exit.inBlock, Exit.then]
  refine bodyPost_ret (results_cell_row rfl _ _ w.heap.size 53 (rfA S false) (0, 0) _ rfl (setRow_heap _ _ _ _ _ _ b0.out) Tryd.underlying53 rfl sizeRf) rfl ⟨rfl, ?_⟩
  exact K1.out.setRow _ _ (Nat.le_refl _)
set_option maxHeartbeats 8000000 in
theorem row_hi (op : Int) (w : World) (h : op ≠ 0 ∧ op ≠ 16 ∧ op ≠ 26 ∧ op ≠ 31 ∧ op ≠ 32 ∧ op ≠ 33 ∧ op ≠ 48 ∧ op ≠ 50 ∧ op ≠ 52 ∧ op ≠ 54 ∧ op ≠ 55 ∧ op ≠ 56 ∧ op ≠ 57 ∧ op ≠ 58 ∧ op ≠ 49 ∧ op ≠ 51 ∧ op ≠ 53 ∧ op ≠ 72 ∧ op ≠ 73 ∧ op ≠ 74 ∧ op ≠ 80) (hh : 71 < op) :
    Calls Tryd.prog 41 #[.int .u8 op] w fun e w' => e = .returned (.agg (rfA (rfRow op) false)) ∧ Kep w w' := by
  have hr : rfRow op = rfSense op := by
    unfold rfRow; repeat (first | rw [if_neg (by omega)])
  rw [hr]
  have q0 : (op == 0) = false := by rw [beq_eq_false_iff_ne]; omega
  have q16 : (op == 16) = false := by rw [beq_eq_false_iff_ne]; omega
  have q26 : (op == 26) = false := by rw [beq_eq_false_iff_ne]; omega
  have q31 : (op == 31) = false := by rw [beq_eq_false_iff_ne]; omega
  have q32 : (op == 32) = false := by rw [beq_eq_false_iff_ne]; omega
  have q33 : (op == 33) = false := by rw [beq_eq_false_iff_ne]; omega
  have q48 : (op == 48) = false := by rw [beq_eq_false_iff_ne]; omega
  have q50 : (op == 50) = false := by rw [beq_eq_false_iff_ne]; omega
  have q52 : (op == 52) = false := by rw [beq_eq_false_iff_ne]; omega
  have q54 : (op == 54) = false := by rw [beq_eq_false_iff_ne]; omega
  have q55 : (op == 55) = false := by rw [beq_eq_false_iff_ne]; omega
  have q56 : (op == 56) = false := by rw [beq_eq_false_iff_ne]; omega
  have q57 : (op == 57) = false := by rw [beq_eq_false_iff_ne]; omega
  have q58 : (op == 58) = false := by rw [beq_eq_false_iff_ne]; omega
  have q49 : (op == 49) = false := by rw [beq_eq_false_iff_ne]; omega
  have q51 : (op == 51) = false := by rw [beq_eq_false_iff_ne]; omega
  have q53 : (op == 53) = false := by rw [beq_eq_false_iff_ne]; omega
  have q72 : (op == 72) = false := by rw [beq_eq_false_iff_ne]; omega
  have q73 : (op == 73) = false := by rw [beq_eq_false_iff_ne]; omega
  have q74 : (op == 74) = false := by rw [beq_eq_false_iff_ne]; omega
  have q80 : (op == 80) = false := by rw [beq_eq_false_iff_ne]; omega
  have r1 : decide (op ≥ 17) = true := by rw [decide_eq_true_eq]; omega
  have r2 : decide (op ≤ 30) = false := by rw [decide_eq_false_iff_not]; omega
  have r3 : decide (op ≥ 64) = true := by rw [decide_eq_true_eq]; omega
  have r4 : decide (op ≤ 71) = false := by rw [decide_eq_false_iff_not]; omega
  clear h hh hr
  generalize hS : rfSense op = S
  have hc : Hid (∀ w, Calls Tryd.prog 53 #[.int .u8 op] w fun e w' => e = .returned (.agg (rfA S false)) ∧ Kep w w') := fun w => hS ▸ sense_any op w
  clear hS
  unfold rfA at hc ⊢
  go_enter Tryd.func41, Tryd.ntmps41
  go_wp2_with fail
  refine (hc.out _).mono ?_
  rintro e w1 ⟨rfl, g1⟩
  have b0 : Hid (w1.heap[w.heap.size]? = some (.cells rfZ 53 (0, 0))) := g1.block (heap_alloc_new _ _)
  have K1 : Hid (Kep w w1) := kep_trans ((Kep.refl _).alloc _) g1
  clear g1
  go_wp2_with (refine wpList_store_row rfl 53 _ _ rfl w.heap.size (rfA S false) rfl rfl 53 rfZ b0.out sizeRf rfl (rf_one _ _) ?_)
  try simp only [Exit.inBlock, Exit.then]
  refine bodyPost_ret (results_cell_row rfl _ _ w.heap.size 53 (rfA S false) (0, 0) _ rfl (setRow_heap _ _ _ _ _ _ b0.out) Tryd.underlying53 rfl sizeRf) rfl ⟨rfl, ?_⟩
  exact K1.out.setRow _ _ (Nat.le_refl _)
set_option maxHeartbeats 8000000 in
theorem row_b (op : Int) (w : World) (h : op = 0 ∨ op = 16 ∨ op = 25 ∨ op = 30 ∨ op = 26 ∨ op = 31 ∨ op = 32 ∨ op = 33) :
    Calls Tryd.prog 41 #[.int .u8 op] w fun e w' => e = .returned (.agg (rfA (rfRow op) false)) ∧ Kep w w' := by
  rcases h with rfl | rfl | rfl | rfl | rfl | rfl | rfl | rfl
  all_goals
    go_enter Tryd.func41, Tryd.ntmps41
    go_wp2
    go_returns
    exact ⟨by kernel_rfl, by repeat (first | exact Kep.refl _ | apply Kep.drew | apply Kep.alloc)⟩
set_option maxHeartbeats 8000000 in
theorem row_17 (op : Int) (w : World) (h : 17 ≤ op ∧ op ≤ 29 ∧ op ≠ 26 ∧ op ≠ 25) :
    Calls Tryd.prog 41 #[.int .u8 op] w fun e w' => e = .returned (.agg (rfA (rfRow op) false)) ∧ Kep w w' := by
  have q0 : (op == 0) = false := by rw [beq_eq_false_iff_ne]; omega
  have q16 : (op == 16) = false := by rw [beq_eq_false_iff_ne]; omega
  have q25 : (op == 25) = false := by rw [beq_eq_false_iff_ne]; omega
  have q30 : (op == 30) = false := by rw [beq_eq_false_iff_ne]; omega
  have hr : rfRow op = { rf0 with c := 1, ra := true, rb := true, wa := true, t := true } := by
    unfold rfRow; rw [if_neg (by omega), if_neg (by omega), if_pos (by omega), q25, q30]; rfl
  rw [hr]
  have r1 : decide (op ≥ 17) = true := by rw [decide_eq_true_eq]; omega
  have r2 : decide (op ≤ 30) = true := by rw [decide_eq_true_eq]; omega
  have r3 : (op != 26) = true := by simp; omega
  clear h hr
  go_enter Tryd.func41, Tryd.ntmps41
  go_wp2
  go_returns
  exact ⟨rfl, by repeat (first | exact Kep.refl _ | apply Kep.drew | apply Kep.alloc)⟩
set_option maxHeartbeats 8000000 in
theorem row_c (op : Int) (w : World) (h : op = 48 ∨ op = 50 ∨ op = 52 ∨ op = 54 ∨ op = 55 ∨ op = 56 ∨ op = 57 ∨ op = 58 ∨ op = 49) :
    Calls Tryd.prog 41 #[.int .u8 op] w fun e w' => e = .returned (.agg (rfA (rfRow op) false)) ∧ Kep w w' := by
  rcases h with rfl | rfl | rfl | rfl | rfl | rfl | rfl | rfl | rfl
  all_goals
    go_enter Tryd.func41, Tryd.ntmps41
    go_wp2
    go_returns
    exact ⟨by kernel_rfl, by repeat (first | exact Kep.refl _ | apply Kep.drew | apply Kep.alloc)⟩
set_option maxHeartbeats 8000000 in
theorem row_d (op : Int) (w : World) (h : op = 51 ∨ op = 53 ∨ op = 72 ∨ op = 73 ∨ op = 74 ∨ op = 80) :
    Calls Tryd.prog 41 #[.int .u8 op] w fun e w' => e = .returned (.agg (rfA (rfRow op) false)) ∧ Kep w w' := by
  rcases h with rfl | rfl | rfl | rfl | rfl | rfl
  all_goals
    go_enter Tryd.func41, Tryd.ntmps41
    go_wp2
    go_returns
    exact ⟨by kernel_rfl, by repeat (first | exact Kep.refl _ | apply Kep.drew | apply Kep.alloc)⟩
set_option maxHeartbeats 8000000 in
theorem row_64 (op : Int) (w : World) (h : 64 ≤ op ∧ op ≤ 71) :
    Calls Tryd.prog 41 #[.int .u8 op] w fun e w' => e = .returned (.agg (rfA (rfRow op) false)) ∧ Kep w w' := by
  have q0 : (op == 0) = false := by rw [beq_eq_false_iff_ne]; omega
  have q16 : (op == 16) = false := by rw [beq_eq_false_iff_ne]; omega
  have q26 : (op == 26) = false := by rw [beq_eq_false_iff_ne]; omega
  have q31 : (op == 31) = false := by rw [beq_eq_false_iff_ne]; omega
  have q32 : (op == 32) = false := by rw [beq_eq_false_iff_ne]; omega
  have q33 : (op == 33) = false := by rw [beq_eq_false_iff_ne]; omega
  have q48 : (op == 48) = false := by rw [beq_eq_false_iff_ne]; omega
  have q50 : (op == 50) = false := by rw [beq_eq_false_iff_ne]; omega
  have q52 : (op == 52) = false := by rw [beq_eq_false_iff_ne]; omega
  have q54 : (op == 54) = false := by rw [beq_eq_false_iff_ne]; omega
  have q55 : (op == 55) = false := by rw [beq_eq_false_iff_ne]; omega
  have q56 : (op == 56) = false := by rw [beq_eq_false_iff_ne]; omega
  have q57 : (op == 57) = false := by rw [beq_eq_false_iff_ne]; omega
  have q58 : (op == 58) = false := by rw [beq_eq_false_iff_ne]; omega
  have q49 : (op == 49) = false := by rw [beq_eq_false_iff_ne]; omega
  have q51 : (op == 51) = false := by rw [beq_eq_false_iff_ne]; omega
  have q53 : (op == 53) = false := by rw [beq_eq_false_iff_ne]; omega
  have hr : rfRow op = { rf0 with c := 3 } := by
    unfold rfRow; repeat (first | rw [if_pos (by omega)] | rw [if_neg (by omega)])
  rw [hr]
  have r1 : decide (op ≥ 17) = true := by rw [decide_eq_true_eq]; omega
  have r2 : decide (op ≤ 30) = false := by rw [decide_eq_false_iff_not]; omega
  have r3 : decide (op ≥ 64) = true := by rw [decide_eq_true_eq]; omega
  have r4 : decide (op ≤ 71) = true := by rw [decide_eq_true_eq]; omega
  clear h hr
  go_enter Tryd.func41, Tryd.ntmps41
  go_wp2
  go_returns
  exact ⟨rfl, by repeat (first | exact Kep.refl _ | apply Kep.drew | apply Kep.alloc)⟩
theorem row_any (op : Int) (w : World) : Calls Tryd.prog 41 #[.int .u8 op] w fun e w' => e = .returned (.agg (rfA (rfRow op) false)) ∧ Kep w w' := by
  by_cases h1 : op = 0 ∨ op = 16 ∨ op = 25 ∨ op = 30 ∨ op = 26 ∨ op = 31 ∨ op = 32 ∨ op = 33
  · exact row_b op w h1
  by_cases h2 : op = 48 ∨ op = 50 ∨ op = 52 ∨ op = 54 ∨ op = 55 ∨ op = 56 ∨ op = 57 ∨ op = 58 ∨ op = 49
  · exact row_c op w h2
  by_cases h3 : op = 51 ∨ op = 53 ∨ op = 72 ∨ op = 73 ∨ op = 74 ∨ op = 80
  · exact row_d op w h3
  by_cases h4 : 17 ≤ op ∧ op ≤ 29
  · exact row_17 op w (by omega)
  by_cases h5 : 64 ≤ op ∧ op ≤ 71
  · exact row_64 op w h5
  by_cases h6 : op < 17
  · exact row_lo op w (by omega) h6
  by_cases h7 : op < 64
  · exact row_mi op w (by omega) (by omega)
  · exact row_hi op w (by omega) (by omega)
def rfE (x : Rf) : Bool := x.c == 3 || (x.c == 4 || x.c == 5)
theorem byteR {p : Int → Bool} (h : (List.range 256).all (fun n => p n) = true) (op : Int) (h0 : 0 ≤ op) (h1 : op < 256) : p op = true := by
  obtain ⟨n, rfl⟩ := Int.eq_ofNat_of_zero_le h0
  exact List.all_eq_true.1 h n (by simp; omega)
theorem rf_six (op : Int) (h0 : 0 ≤ op) (h1 : op < 256) : (rfRow op).c = 3 ∨ (rfRow op).c = 4 ∨ (rfRow op).c = 5 ∨ (rfRow op).c = 0 ∨ (rfRow op).c = 1 ∨ (rfRow op).c = 2 := by
  have := byteR (p := fun op => decide ((rfRow op).c = 3 ∨ (rfRow op).c = 4 ∨ (rfRow op).c = 5 ∨ (rfRow op).c = 0 ∨ (rfRow op).c = 1 ∨ (rfRow op).c = 2)) (by decide +kernel) op h0 h1
  simpa using this
set_option maxHeartbeats 4000000 in
theorem of_of (op : Int) (w : World) (X : Rf) (hX : rfRow op = X) (E : Bool) (hE : X.c = 3 ∧ E = true ∨ X.c = 4 ∧ E = true ∨ X.c = 5 ∧ E = true ∨ X.c = 0 ∧ E = false ∨ X.c = 1 ∧ E = false ∨ X.c = 2 ∧ E = false) :
    Calls Tryd.prog 20 #[.int .u8 op] w fun e w' => e = .returned (.agg (rfA X E)) ∧ Kep w w' := by
  have hc : Hid (∀ w, Calls Tryd.prog 41 #[.int .u8 op] w fun e w' => e = .returned (.agg (rfA X false)) ∧ Kep w w') := fun w => hX ▸ row_any op w
  clear hX
  obtain ⟨c, ra, rb, wa, lk, sd, st, t, f, s⟩ := X
  simp only at hE
  unfold rfA at hc ⊢
  simp only at hc ⊢
  rcases hE with ⟨rfl, rfl⟩ | ⟨rfl, rfl⟩ | ⟨rfl, rfl⟩ | ⟨rfl, rfl⟩ | ⟨rfl, rfl⟩ | ⟨rfl, rfl⟩
  · go_enter Tryd.func20, Tryd.ntmps20
    go_wp2_with fail
    refine (hc.out _).mono ?_
    rintro e w1 ⟨rfl, g1⟩
    have b0 : Hid (w1.heap[w.heap.size]? = some (.cells rfZ 53 (0, 0))) := g1.block (heap_alloc_new _ _)
    have K1 : Hid (Kep w w1) := kep_trans ((Kep.refl _).alloc _) g1
    have z1 : w.heap.size < w1.heap.size := g1.lt (by simp)
    clear g1
    have b1 : Hid (∀ o, (w1.alloc o).heap[w.heap.size]? = some (.cells rfZ 53 (0, 0))) := fun o => (hp_skip _ _ _ z1).trans b0.out
    go_upto_region 3 with fail
    refine wp_region_lit ?_
    refine wpList_load_row (by rfl) 53 _ (by rfl) w1.heap.size (by rfl) 53 #[.int .i64 3, .bool ra, .bool rb, .bool wa, .bool lk, .bool sd, .bool st, .bool t, .bool f, .bool s, .bool true] (0, 0) _ (heap_alloc_new _ _) Tryd.underlying53 rfl sizeRf ?_
    refine wpList_store_row (by rfl) 53 _ _ (by rfl) w.heap.size #[.int .i64 3, .bool ra, .bool rb, .bool wa, .bool lk, .bool sd, .bool st, .bool t, .bool f, .bool s, .bool true] (by rfl) (by rfl) 53 rfZ (b1.out _) sizeRf rfl (by simp [Value.oneCell']) ?_
    go_wp2_with fail
    try simp only [Exit.inBlock, Exit.then]
    refine bodyPost_ret (results_cell_row rfl _ _ w.heap.size 53 #[.int .i64 3, .bool ra, .bool rb, .bool wa, .bool lk, .bool sd, .bool st, .bool t, .bool f, .bool s, .bool true] (0, 0) _ rfl (setRow_heap _ _ _ _ _ _ (b1.out _)) Tryd.underlying53 rfl sizeRf) rfl ⟨rfl, ?_⟩
    exact (K1.out.alloc _).setRow _ _ (Nat.le_refl _)
  · go_enter Tryd.func20, Tryd.ntmps20
    go_wp2_with fail
    refine (hc.out _).mono ?_
    rintro e w1 ⟨rfl, g1⟩
    have b0 : Hid (w1.heap[w.heap.size]? = some (.cells rfZ 53 (0, 0))) := g1.block (heap_alloc_new _ _)
    have K1 : Hid (Kep w w1) := kep_trans ((Kep.refl _).alloc _) g1
    have z1 : w.heap.size < w1.heap.size := g1.lt (by simp)
    clear g1
    have b1 : Hid (∀ o, (w1.alloc o).heap[w.heap.size]? = some (.cells rfZ 53 (0, 0))) := fun o => (hp_skip _ _ _ z1).trans b0.out
    go_upto_region 3 with fail
    refine wp_region_lit ?_
    refine wpList_load_row (by rfl) 53 _ (by rfl) w1.heap.size (by rfl) 53 #[.int .i64 4, .bool ra, .bool rb, .bool wa, .bool lk, .bool sd, .bool st, .bool t, .bool f, .bool s, .bool true] (0, 0) _ (heap_alloc_new _ _) Tryd.underlying53 rfl sizeRf ?_
    refine wpList_store_row (by rfl) 53 _ _ (by rfl) w.heap.size #[.int .i64 4, .bool ra, .bool rb, .bool wa, .bool lk, .bool sd, .bool st, .bool t, .bool f, .bool s, .bool true] (by rfl) (by rfl) 53 rfZ (b1.out _) sizeRf rfl (by simp [Value.oneCell']) ?_
    go_wp2_with fail
    try simp only [Exit.inBlock, Exit.then]
    refine bodyPost_ret (results_cell_row rfl _ _ w.heap.size 53 #[.int .i64 4, .bool ra, .bool rb, .bool wa, .bool lk, .bool sd, .bool st, .bool t, .bool f, .bool s, .bool true] (0, 0) _ rfl (setRow_heap _ _ _ _ _ _ (b1.out _)) Tryd.underlying53 rfl sizeRf) rfl ⟨rfl, ?_⟩
    exact (K1.out.alloc _).setRow _ _ (Nat.le_refl _)
  · go_enter Tryd.func20, Tryd.ntmps20
    go_wp2_with fail
    refine (hc.out _).mono ?_
    rintro e w1 ⟨rfl, g1⟩
    have b0 : Hid (w1.heap[w.heap.size]? = some (.cells rfZ 53 (0, 0))) := g1.block (heap_alloc_new _ _)
    have K1 : Hid (Kep w w1) := kep_trans ((Kep.refl _).alloc _) g1
    have z1 : w.heap.size < w1.heap.size := g1.lt (by simp)
    clear g1
    have b1 : Hid (∀ o, (w1.alloc o).heap[w.heap.size]? = some (.cells rfZ 53 (0, 0))) := fun o => (hp_skip _ _ _ z1).trans b0.out
    go_upto_region 3 with fail
    refine wp_region_lit ?_
    refine wpList_load_row (by rfl) 53 _ (by rfl) w1.heap.size (by rfl) 53 #[.int .i64 5, .bool ra, .bool rb, .bool wa, .bool lk, .bool sd, .bool st, .bool t, .bool f, .bool s, .bool true] (0, 0) _ (heap_alloc_new _ _) Tryd.underlying53 rfl sizeRf ?_
    refine wpList_store_row (by rfl) 53 _ _ (by rfl) w.heap.size #[.int .i64 5, .bool ra, .bool rb, .bool wa, .bool lk, .bool sd, .bool st, .bool t, .bool f, .bool s, .bool true] (by rfl) (by rfl) 53 rfZ (b1.out _) sizeRf rfl (by simp [Value.oneCell']) ?_
    go_wp2_with fail
    try simp only [Exit.inBlock, Exit.then]
    refine bodyPost_ret (results_cell_row rfl _ _ w.heap.size 53 #[.int .i64 5, .bool ra, .bool rb, .bool wa, .bool lk, .bool sd, .bool st, .bool t, .bool f, .bool s, .bool true] (0, 0) _ rfl (setRow_heap _ _ _ _ _ _ (b1.out _)) Tryd.underlying53 rfl sizeRf) rfl ⟨rfl, ?_⟩
    exact (K1.out.alloc _).setRow _ _ (Nat.le_refl _)
  · go_enter Tryd.func20, Tryd.ntmps20
    go_wp2_with fail
    refine (hc.out _).mono ?_
    rintro e w1 ⟨rfl, g1⟩
    have b0 : Hid (w1.heap[w.heap.size]? = some (.cells rfZ 53 (0, 0))) := g1.block (heap_alloc_new _ _)
    have K1 : Hid (Kep w w1) := kep_trans ((Kep.refl _).alloc _) g1
    have z1 : w.heap.size < w1.heap.size := g1.lt (by simp)
    clear g1
    have b1 : Hid (∀ o, (w1.alloc o).heap[w.heap.size]? = some (.cells rfZ 53 (0, 0))) := fun o => (hp_skip _ _ _ z1).trans b0.out
    go_upto_region 3 with fail
    refine wp_region_lit ?_
    refine wpList_load_row (by rfl) 53 _ (by rfl) w1.heap.size (by rfl) 53 #[.int .i64 0, .bool ra, .bool rb, .bool wa, .bool lk, .bool sd, .bool st, .bool t, .bool f, .bool s, .bool false] (0, 0) _ (heap_alloc_new _ _) Tryd.underlying53 rfl sizeRf ?_
    refine wpList_store_row (by rfl) 53 _ _ (by rfl) w.heap.size #[.int .i64 0, .bool ra, .bool rb, .bool wa, .bool lk, .bool sd, .bool st, .bool t, .bool f, .bool s, .bool false] (by rfl) (by rfl) 53 rfZ (b1.out _) sizeRf rfl (by simp [Value.oneCell']) ?_
    go_wp2_with fail
    try simp only [Exit.inBlock, Exit.then]
    refine bodyPost_ret (results_cell_row rfl _ _ w.heap.size 53 #[.int .i64 0, .bool ra, .bool rb, .bool wa, .bool lk, .bool sd, .bool st, .bool t, .bool f, .bool s, .bool false] (0, 0) _ rfl (setRow_heap _ _ _ _ _ _ (b1.out _)) Tryd.underlying53 rfl sizeRf) rfl ⟨rfl, ?_⟩
    exact (K1.out.alloc _).setRow _ _ (Nat.le_refl _)
  · go_enter Tryd.func20, Tryd.ntmps20
    go_wp2_with fail
    refine (hc.out _).mono ?_
    rintro e w1 ⟨rfl, g1⟩
    have b0 : Hid (w1.heap[w.heap.size]? = some (.cells rfZ 53 (0, 0))) := g1.block (heap_alloc_new _ _)
    have K1 : Hid (Kep w w1) := kep_trans ((Kep.refl _).alloc _) g1
    have z1 : w.heap.size < w1.heap.size := g1.lt (by simp)
    clear g1
    have b1 : Hid (∀ o, (w1.alloc o).heap[w.heap.size]? = some (.cells rfZ 53 (0, 0))) := fun o => (hp_skip _ _ _ z1).trans b0.out
    go_upto_region 3 with fail
    refine wp_region_lit ?_
    refine wpList_load_row (by rfl) 53 _ (by rfl) w1.heap.size (by rfl) 53 #[.int .i64 1, .bool ra, .bool rb, .bool wa, .bool lk, .bool sd, .bool st, .bool t, .bool f, .bool s, .bool false] (0, 0) _ (heap_alloc_new _ _) Tryd.underlying53 rfl sizeRf ?_
    refine wpList_store_row (by rfl) 53 _ _ (by rfl) w.heap.size #[.int .i64 1, .bool ra, .bool rb, .bool wa, .bool lk, .bool sd, .bool st, .bool t, .bool f, .bool s, .bool false] (by rfl) (by rfl) 53 rfZ (b1.out _) sizeRf rfl (by simp [Value.oneCell']) ?_
    go_wp2_with fail
    try simp only [Exit.inBlock, Exit.then]
    refine bodyPost_ret (results_cell_row rfl _ _ w.heap.size 53 #[.int .i64 1, .bool ra, .bool rb, .bool wa, .bool lk, .bool sd, .bool st, .bool t, .bool f, .bool s, .bool false] (0, 0) _ rfl (setRow_heap _ _ _ _ _ _ (b1.out _)) Tryd.underlying53 rfl sizeRf) rfl ⟨rfl, ?_⟩
    exact (K1.out.alloc _).setRow _ _ (Nat.le_refl _)
  · go_enter Tryd.func20, Tryd.ntmps20
    go_wp2_with fail
    refine (hc.out _).mono ?_
    rintro e w1 ⟨rfl, g1⟩
    have b0 : Hid (w1.heap[w.heap.size]? = some (.cells rfZ 53 (0, 0))) := g1.block (heap_alloc_new _ _)
    have K1 : Hid (Kep w w1) := kep_trans ((Kep.refl _).alloc _) g1
    have z1 : w.heap.size < w1.heap.size := g1.lt (by simp)
    clear g1
    have b1 : Hid (∀ o, (w1.alloc o).heap[w.heap.size]? = some (.cells rfZ 53 (0, 0))) := fun o => (hp_skip _ _ _ z1).trans b0.out
    go_upto_region 3 with fail
    refine wp_region_lit ?_
    refine wpList_load_row (by rfl) 53 _ (by rfl) w1.heap.size (by rfl) 53 #[.int .i64 2, .bool ra, .bool rb, .bool wa, .bool lk, .bool sd, .bool st, .bool t, .bool f, .bool s, .bool false] (0, 0) _ (heap_alloc_new _ _) Tryd.underlying53 rfl sizeRf ?_
    refine wpList_store_row (by rfl) 53 _ _ (by rfl) w.heap.size #[.int .i64 2, .bool ra, .bool rb, .bool wa, .bool lk, .bool sd, .bool st, .bool t, .bool f, .bool s, .bool false] (by rfl) (by rfl) 53 rfZ (b1.out _) sizeRf rfl (by simp [Value.oneCell']) ?_
    go_wp2_with fail
    try simp only [Exit.inBlock, Exit.then]
    refine bodyPost_ret (results_cell_row rfl _ _ w.heap.size 53 #[.int .i64 2, .bool ra, .bool rb, .bool wa, .bool lk, .bool sd, .bool st, .bool t, .bool f, .bool s, .bool false] (0, 0) _ rfl (setRow_heap _ _ _ _ _ _ (b1.out _)) Tryd.underlying53 rfl sizeRf) rfl ⟨rfl, ?_⟩
    exact (K1.out.alloc _).setRow _ _ (Nat.le_refl _)
theorem refOf3_any (op : Int) (h0 : 0 ≤ op) (h1 : op < 256) (w : World) :
    Calls Tryd.prog 20 #[.int .u8 op] w fun e w' => e = .returned (.agg (rfA (rfRow op) (rfE (rfRow op)))) ∧ Kep w w' := by
  refine of_of op w _ rfl _ ?_
  rcases rf_six op h0 h1 with q | q | q | q | q | q <;> rw [q] <;> simp [rfE, q]
end Go.Proofs.YtpalbpjmjbcelaaDoor
