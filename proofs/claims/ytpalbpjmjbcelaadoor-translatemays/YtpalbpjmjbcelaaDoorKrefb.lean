/- What the document's own table of kinds answers, for some of the operations. -/
import Derived.Test.YtpalbpjmjbcelaaDoorKrefh
namespace Go.Proofs.YtpalbpjmjbcelaaDoor
open Go.RowKit
set_option linter.unusedVariables false

set_option maxHeartbeats 8000000 in
theorem row_b (op : Int) (w : World) (h : op = 0 ∨ op = 16 ∨ op = 25 ∨ op = 30 ∨ op = 26 ∨ op = 31 ∨ op = 32 ∨ op = 33) :
    Calls Tryd.prog 41 #[.int .u8 op] w fun e w' => e = .returned (.agg (rfA (rfRow op) false)) ∧ Kep w w' := by
  rcases h with rfl | rfl | rfl | rfl | rfl | rfl | rfl | rfl
  all_goals
    go_enter Tryd.func41, Tryd.ntmps41
    go_wp2
    go_returns
    exact ⟨by kernel_rfl, by repeat (first | exact Kep.refl _ | apply Kep.drew | apply Kep.alloc)⟩

set_option maxHeartbeats 8000000 in
theorem row_17 (op : Int) (w : World) (h : 17 ≤ op ∧ op ≤ 29 ∧ op ≠ 26 ∧ op ≠ 25) :
    Calls Tryd.prog 41 #[.int .u8 op] w fun e w' => e = .returned (.agg (rfA (rfRow op) false)) ∧ Kep w w' := by
  have q0 : (op == 0) = false := by rw [beq_eq_false_iff_ne]; omega
  have q16 : (op == 16) = false := by rw [beq_eq_false_iff_ne]; omega
  have q25 : (op == 25) = false := by rw [beq_eq_false_iff_ne]; omega
  have q30 : (op == 30) = false := by rw [beq_eq_false_iff_ne]; omega
  have hr : rfRow op = { rf0 with c := 1, ra := true, rb := true, wa := true, t := true } := by
    unfold rfRow; rw [if_neg (by omega), if_neg (by omega), if_pos (by omega), q25, q30]; rfl
  rw [hr]
  have r1 : decide (op ≥ 17) = true := by rw [decide_eq_true_eq]; omega
  have r2 : decide (op ≤ 30) = true := by rw [decide_eq_true_eq]; omega
  have r3 : (op != 26) = true := by simp; omega
  clear h hr
  go_enter Tryd.func41, Tryd.ntmps41
  go_wp2
  go_returns
  exact ⟨rfl, by repeat (first | exact Kep.refl _ | apply Kep.drew | apply Kep.alloc)⟩

end Go.Proofs.YtpalbpjmjbcelaaDoor
