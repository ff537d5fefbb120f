/- What the document's own table of kinds answers, for the classes Sense and Hosts. -/
import Derived.Test.YtpalbpjmjbcelaaDoorKrefh
namespace Go.Proofs.YtpalbpjmjbcelaaDoor
open Go.RowKit
set_option linter.unusedVariables false

set_option maxHeartbeats 8000000 in
theorem sense_1 (op : Int) (w : World) (h : op = 1 ∨ op = 2 ∨ op = 3 ∨ op = 96 ∨ op = 98 ∨ op = 97 ∨ op = 99 ∨ op = 101 ∨ op = 100 ∨ op = 112 ∨ op = 113) :
    Calls Tryd.prog 53 #[.int .u8 op] w fun e w' => e = .returned (.agg (rfA (rfSense op) false)) ∧ Kep w w' := by
  rcases h with rfl | rfl | rfl | rfl | rfl | rfl | rfl | rfl | rfl | rfl | rfl
  all_goals
    go_enter Tryd.func53, Tryd.ntmps53
    go_wp2
    go_returns
    exact ⟨by kernel_rfl, by repeat (first | exact Kep.refl _ | apply Kep.drew | apply Kep.alloc)⟩

set_option maxHeartbeats 8000000 in
theorem sense_0 (op : Int) (w : World) (h : op ≠ 1 ∧ op ≠ 2 ∧ op ≠ 3 ∧ op ≠ 96 ∧ op ≠ 98 ∧ op ≠ 97 ∧ op ≠ 99 ∧ op ≠ 101 ∧ op ≠ 100 ∧ op ≠ 112 ∧ op ≠ 113) :
    Calls Tryd.prog 53 #[.int .u8 op] w fun e w' => e = .returned (.agg (rfA (rfSense op) false)) ∧ Kep w w' := by
  have hr : rfSense op = rf0 := by unfold rfSense; simp [h]
  rw [hr]
  have q1 : (op == 1) = false := by rw [beq_eq_false_iff_ne]; omega
  have q2 : (op == 2) = false := by rw [beq_eq_false_iff_ne]; omega
  have q3 : (op == 3) = false := by rw [beq_eq_false_iff_ne]; omega
  have q96 : (op == 96) = false := by rw [beq_eq_false_iff_ne]; omega
  have q98 : (op == 98) = false := by rw [beq_eq_false_iff_ne]; omega
  have q97 : (op == 97) = false := by rw [beq_eq_false_iff_ne]; omega
  have q99 : (op == 99) = false := by rw [beq_eq_false_iff_ne]; omega
  have q101 : (op == 101) = false := by rw [beq_eq_false_iff_ne]; omega
  have q100 : (op == 100) = false := by rw [beq_eq_false_iff_ne]; omega
  have q112 : (op == 112) = false := by rw [beq_eq_false_iff_ne]; omega
  have q113 : (op == 113) = false := by rw [beq_eq_false_iff_ne]; omega
  clear h hr
  go_enter Tryd.func53, Tryd.ntmps53
  go_wp2
  go_returns
  exact ⟨rfl, by repeat (first | exact Kep.refl _ | apply Kep.drew | apply Kep.alloc)⟩

theorem sense_any (op : Int) (w : World) : Calls Tryd.prog 53 #[.int .u8 op] w fun e w' => e = .returned (.agg (rfA (rfSense op) false)) ∧ Kep w w' := by
  by_cases h : op = 1 ∨ op = 2 ∨ op = 3 ∨ op = 96 ∨ op = 98 ∨ op = 97 ∨ op = 99 ∨ op = 101 ∨ op = 100 ∨ op = 112 ∨ op = 113
  · exact sense_1 op w h
  · exact sense_0 op w (by omega)
end Go.Proofs.YtpalbpjmjbcelaaDoor
