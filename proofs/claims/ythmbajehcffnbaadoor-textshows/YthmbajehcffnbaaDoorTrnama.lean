/- The document's names of operations, one by one. -/
import Derived.Test.YthmbajehcffnbaaDoorTname
namespace Go.Proofs.YthmbajehcffnbaaDoor
open Go.RowKit
set_option linter.unusedVariables false

set_option maxHeartbeats 1000000 in
theorem rname0 (w : World) : Calls Tryd.prog 19 #[.int .u8 0] w fun e w' => e = .returned (.string ⟨nameA 0⟩) ∧ Kep w w' := by
  go_enter Tryd.func19, Tryd.ntmps19
  go_wp2_with fail
  go_ret
  exact ⟨rfl, by repeat (first | exact Kep.refl _ | apply Kep.alloc)⟩
set_option maxHeartbeats 1000000 in
theorem rname1 (w : World) : Calls Tryd.prog 19 #[.int .u8 1] w fun e w' => e = .returned (.string ⟨nameA 1⟩) ∧ Kep w w' := by
  go_enter Tryd.func19, Tryd.ntmps19
  go_wp2_with fail
  go_ret
  exact ⟨rfl, by repeat (first | exact Kep.refl _ | apply Kep.alloc)⟩
set_option maxHeartbeats 1000000 in
theorem rname2 (w : World) : Calls Tryd.prog 19 #[.int .u8 2] w fun e w' => e = .returned (.string ⟨nameA 2⟩) ∧ Kep w w' := by
  go_enter Tryd.func19, Tryd.ntmps19
  go_wp2_with fail
  go_ret
  exact ⟨rfl, by repeat (first | exact Kep.refl _ | apply Kep.alloc)⟩
set_option maxHeartbeats 1000000 in
theorem rname3 (w : World) : Calls Tryd.prog 19 #[.int .u8 3] w fun e w' => e = .returned (.string ⟨nameA 3⟩) ∧ Kep w w' := by
  go_enter Tryd.func19, Tryd.ntmps19
  go_wp2_with fail
  go_ret
  exact ⟨rfl, by repeat (first | exact Kep.refl _ | apply Kep.alloc)⟩
set_option maxHeartbeats 1000000 in
theorem rname16 (w : World) : Calls Tryd.prog 19 #[.int .u8 16] w fun e w' => e = .returned (.string ⟨nameA 16⟩) ∧ Kep w w' := by
  go_enter Tryd.func19, Tryd.ntmps19
  go_wp2_with fail
  go_ret
  exact ⟨rfl, by repeat (first | exact Kep.refl _ | apply Kep.alloc)⟩
set_option maxHeartbeats 1000000 in
theorem rname17 (w : World) : Calls Tryd.prog 19 #[.int .u8 17] w fun e w' => e = .returned (.string ⟨nameA 17⟩) ∧ Kep w w' := by
  go_enter Tryd.func19, Tryd.ntmps19
  go_wp2_with fail
  go_ret
  exact ⟨rfl, by repeat (first | exact Kep.refl _ | apply Kep.alloc)⟩
set_option maxHeartbeats 1000000 in
theorem rname18 (w : World) : Calls Tryd.prog 19 #[.int .u8 18] w fun e w' => e = .returned (.string ⟨nameA 18⟩) ∧ Kep w w' := by
  go_enter Tryd.func19, Tryd.ntmps19
  go_wp2_with fail
  go_ret
  exact ⟨rfl, by repeat (first | exact Kep.refl _ | apply Kep.alloc)⟩
set_option maxHeartbeats 1000000 in
theorem rname19 (w : World) : Calls Tryd.prog 19 #[.int .u8 19] w fun e w' => e = .returned (.string ⟨nameA 19⟩) ∧ Kep w w' := by
  go_enter Tryd.func19, Tryd.ntmps19
  go_wp2_with fail
  go_ret
  exact ⟨rfl, by repeat (first | exact Kep.refl _ | apply Kep.alloc)⟩
set_option maxHeartbeats 1000000 in
theorem rname20 (w : World) : Calls Tryd.prog 19 #[.int .u8 20] w fun e w' => e = .returned (.string ⟨nameA 20⟩) ∧ Kep w w' := by
  go_enter Tryd.func19, Tryd.ntmps19
  go_wp2_with fail
  go_ret
  exact ⟨rfl, by repeat (first | exact Kep.refl _ | apply Kep.alloc)⟩
set_option maxHeartbeats 1000000 in
theorem rname21 (w : World) : Calls Tryd.prog 19 #[.int .u8 21] w fun e w' => e = .returned (.string ⟨nameA 21⟩) ∧ Kep w w' := by
  go_enter Tryd.func19, Tryd.ntmps19
  go_wp2_with fail
  go_ret
  exact ⟨rfl, by repeat (first | exact Kep.refl _ | apply Kep.alloc)⟩
set_option maxHeartbeats 1000000 in
theorem rname22 (w : World) : Calls Tryd.prog 19 #[.int .u8 22] w fun e w' => e = .returned (.string ⟨nameA 22⟩) ∧ Kep w w' := by
  go_enter Tryd.func19, Tryd.ntmps19
  go_wp2_with fail
  go_ret
  exact ⟨rfl, by repeat (first | exact Kep.refl _ | apply Kep.alloc)⟩
set_option maxHeartbeats 1000000 in
theorem rname23 (w : World) : Calls Tryd.prog 19 #[.int .u8 23] w fun e w' => e = .returned (.string ⟨nameA 23⟩) ∧ Kep w w' := by
  go_enter Tryd.func19, Tryd.ntmps19
  go_wp2_with fail
  go_ret
  exact ⟨rfl, by repeat (first | exact Kep.refl _ | apply Kep.alloc)⟩
set_option maxHeartbeats 1000000 in
theorem rname24 (w : World) : Calls Tryd.prog 19 #[.int .u8 24] w fun e w' => e = .returned (.string ⟨nameA 24⟩) ∧ Kep w w' := by
  go_enter Tryd.func19, Tryd.ntmps19
  go_wp2_with fail
  go_ret
  exact ⟨rfl, by repeat (first | exact Kep.refl _ | apply Kep.alloc)⟩
set_option maxHeartbeats 1000000 in
theorem rname25 (w : World) : Calls Tryd.prog 19 #[.int .u8 25] w fun e w' => e = .returned (.string ⟨nameA 25⟩) ∧ Kep w w' := by
  go_enter Tryd.func19, Tryd.ntmps19
  go_wp2_with fail
  go_ret
  exact ⟨rfl, by repeat (first | exact Kep.refl _ | apply Kep.alloc)⟩
set_option maxHeartbeats 1000000 in
theorem rname26 (w : World) : Calls Tryd.prog 19 #[.int .u8 26] w fun e w' => e = .returned (.string ⟨nameA 26⟩) ∧ Kep w w' := by
  go_enter Tryd.func19, Tryd.ntmps19
  go_wp2_with fail
  go_ret
  exact ⟨rfl, by repeat (first | exact Kep.refl _ | apply Kep.alloc)⟩
set_option maxHeartbeats 1000000 in
theorem rname27 (w : World) : Calls Tryd.prog 19 #[.int .u8 27] w fun e w' => e = .returned (.string ⟨nameA 27⟩) ∧ Kep w w' := by
  go_enter Tryd.func19, Tryd.ntmps19
  go_wp2_with fail
  go_ret
  exact ⟨rfl, by repeat (first | exact Kep.refl _ | apply Kep.alloc)⟩
set_option maxHeartbeats 1000000 in
theorem rname28 (w : World) : Calls Tryd.prog 19 #[.int .u8 28] w fun e w' => e = .returned (.string ⟨nameA 28⟩) ∧ Kep w w' := by
  go_enter Tryd.func19, Tryd.ntmps19
  go_wp2_with fail
  go_ret
  exact ⟨rfl, by repeat (first | exact Kep.refl _ | apply Kep.alloc)⟩
set_option maxHeartbeats 1000000 in
theorem rname29 (w : World) : Calls Tryd.prog 19 #[.int .u8 29] w fun e w' => e = .returned (.string ⟨nameA 29⟩) ∧ Kep w w' := by
  go_enter Tryd.func19, Tryd.ntmps19
  go_wp2_with fail
  go_ret
  exact ⟨rfl, by repeat (first | exact Kep.refl _ | apply Kep.alloc)⟩
set_option maxHeartbeats 1000000 in
theorem rname30 (w : World) : Calls Tryd.prog 19 #[.int .u8 30] w fun e w' => e = .returned (.string ⟨nameA 30⟩) ∧ Kep w w' := by
  go_enter Tryd.func19, Tryd.ntmps19
  go_wp2_with fail
  go_ret
  exact ⟨rfl, by repeat (first | exact Kep.refl _ | apply Kep.alloc)⟩
set_option maxHeartbeats 1000000 in
theorem rname31 (w : World) : Calls Tryd.prog 19 #[.int .u8 31] w fun e w' => e = .returned (.string ⟨nameA 31⟩) ∧ Kep w w' := by
  go_enter Tryd.func19, Tryd.ntmps19
  go_wp2_with fail
  go_ret
  exact ⟨rfl, by repeat (first | exact Kep.refl _ | apply Kep.alloc)⟩
end Go.Proofs.YthmbajehcffnbaaDoor
