/- What the document's own table of kinds answers, for some of the operations. -/
import Derived.Test.YtpalbpjmjbcelaaDoorKrefh
namespace Go.Proofs.YtpalbpjmjbcelaaDoor
open Go.RowKit
set_option linter.unusedVariables false

set_option maxHeartbeats 8000000 in
theorem row_d (op : Int) (w : World) (h : op = 51 ∨ op = 53 ∨ op = 72 ∨ op = 73 ∨ op = 74 ∨ op = 80) :
    Calls Tryd.prog 41 #[.int .u8 op] w fun e w' => e = .returned (.agg (rfA (rfRow op) false)) ∧ Kep w w' := by
  rcases h with rfl | rfl | rfl | rfl | rfl | rfl
  all_goals
    go_enter Tryd.func41, Tryd.ntmps41
    go_wp2
    go_returns
    exact ⟨by kernel_rfl, by repeat (first | exact Kep.refl _ | apply Kep.drew | apply Kep.alloc)⟩

set_option maxHeartbeats 8000000 in
theorem row_64 (op : Int) (w : World) (h : 64 ≤ op ∧ op ≤ 71) :
    Calls Tryd.prog 41 #[.int .u8 op] w fun e w' => e = .returned (.agg (rfA (rfRow op) false)) ∧ Kep w w' := by
  have q0 : (op == 0) = false := by rw [beq_eq_false_iff_ne]; omega
  have q16 : (op == 16) = false := by rw [beq_eq_false_iff_ne]; omega
  have q26 : (op == 26) = false := by rw [beq_eq_false_iff_ne]; omega
  have q31 : (op == 31) = false := by rw [beq_eq_false_iff_ne]; omega
  have q32 : (op == 32) = false := by rw [beq_eq_false_iff_ne]; omega
  have q33 : (op == 33) = false := by rw [beq_eq_false_iff_ne]; omega
  have q48 : (op == 48) = false := by rw [beq_eq_false_iff_ne]; omega
  have q50 : (op == 50) = false := by rw [beq_eq_false_iff_ne]; omega
  have q52 : (op == 52) = false := by rw [beq_eq_false_iff_ne]; omega
  have q54 : (op == 54) = false := by rw [beq_eq_false_iff_ne]; omega
  have q55 : (op == 55) = false := by rw [beq_eq_false_iff_ne]; omega
  have q56 : (op == 56) = false := by rw [beq_eq_false_iff_ne]; omega
  have q57 : (op == 57) = false := by rw [beq_eq_false_iff_ne]; omega
  have q58 : (op == 58) = false := by rw [beq_eq_false_iff_ne]; omega
  have q49 : (op == 49) = false := by rw [beq_eq_false_iff_ne]; omega
  have q51 : (op == 51) = false := by rw [beq_eq_false_iff_ne]; omega
  have q53 : (op == 53) = false := by rw [beq_eq_false_iff_ne]; omega
  have hr : rfRow op = { rf0 with c := 3 } := by
    unfold rfRow; repeat (first | rw [if_pos (by omega)] | rw [if_neg (by omega)])
  rw [hr]
  have r1 : decide (op ≥ 17) = true := by rw [decide_eq_true_eq]; omega
  have r2 : decide (op ≤ 30) = false := by rw [decide_eq_false_iff_not]; omega
  have r3 : decide (op ≥ 64) = true := by rw [decide_eq_true_eq]; omega
  have r4 : decide (op ≤ 71) = true := by rw [decide_eq_true_eq]; omega
  clear h hr
  go_enter Tryd.func41, Tryd.ntmps41
  go_wp2
  go_returns
  exact ⟨rfl, by repeat (first | exact Kep.refl _ | apply Kep.drew | apply Kep.alloc)⟩

end Go.Proofs.YtpalbpjmjbcelaaDoor
