/- The document's names of operations, one by one. -/
import Derived.Test.YthmbajehcffnbaaDoorTname
namespace Go.Proofs.YthmbajehcffnbaaDoor
open Go.RowKit
set_option linter.unusedVariables false

set_option maxHeartbeats 1000000 in
theorem rname72 (w : World) : Calls Tryd.prog 19 #[.int .u8 72] w fun e w' => e = .returned (.string ⟨nameA 72⟩) ∧ Kep w w' := by
  go_enter Tryd.func19, Tryd.ntmps19
  go_wp2_with fail
  go_ret
  exact ⟨rfl, by repeat (first | exact Kep.refl _ | apply Kep.alloc)⟩
set_option maxHeartbeats 1000000 in
theorem rname73 (w : World) : Calls Tryd.prog 19 #[.int .u8 73] w fun e w' => e = .returned (.string ⟨nameA 73⟩) ∧ Kep w w' := by
  go_enter Tryd.func19, Tryd.ntmps19
  go_wp2_with fail
  go_ret
  exact ⟨rfl, by repeat (first | exact Kep.refl _ | apply Kep.alloc)⟩
set_option maxHeartbeats 1000000 in
theorem rname74 (w : World) : Calls Tryd.prog 19 #[.int .u8 74] w fun e w' => e = .returned (.string ⟨nameA 74⟩) ∧ Kep w w' := by
  go_enter Tryd.func19, Tryd.ntmps19
  go_wp2_with fail
  go_ret
  exact ⟨rfl, by repeat (first | exact Kep.refl _ | apply Kep.alloc)⟩
set_option maxHeartbeats 1000000 in
theorem rname80 (w : World) : Calls Tryd.prog 19 #[.int .u8 80] w fun e w' => e = .returned (.string ⟨nameA 80⟩) ∧ Kep w w' := by
  go_enter Tryd.func19, Tryd.ntmps19
  go_wp2_with fail
  go_ret
  exact ⟨rfl, by repeat (first | exact Kep.refl _ | apply Kep.alloc)⟩
set_option maxHeartbeats 1000000 in
theorem rname96 (w : World) : Calls Tryd.prog 19 #[.int .u8 96] w fun e w' => e = .returned (.string ⟨nameA 96⟩) ∧ Kep w w' := by
  go_enter Tryd.func19, Tryd.ntmps19
  go_wp2_with fail
  go_ret
  exact ⟨rfl, by repeat (first | exact Kep.refl _ | apply Kep.alloc)⟩
set_option maxHeartbeats 1000000 in
theorem rname97 (w : World) : Calls Tryd.prog 19 #[.int .u8 97] w fun e w' => e = .returned (.string ⟨nameA 97⟩) ∧ Kep w w' := by
  go_enter Tryd.func19, Tryd.ntmps19
  go_wp2_with fail
  go_ret
  exact ⟨rfl, by repeat (first | exact Kep.refl _ | apply Kep.alloc)⟩
set_option maxHeartbeats 1000000 in
theorem rname98 (w : World) : Calls Tryd.prog 19 #[.int .u8 98] w fun e w' => e = .returned (.string ⟨nameA 98⟩) ∧ Kep w w' := by
  go_enter Tryd.func19, Tryd.ntmps19
  go_wp2_with fail
  go_ret
  exact ⟨rfl, by repeat (first | exact Kep.refl _ | apply Kep.alloc)⟩
set_option maxHeartbeats 1000000 in
theorem rname99 (w : World) : Calls Tryd.prog 19 #[.int .u8 99] w fun e w' => e = .returned (.string ⟨nameA 99⟩) ∧ Kep w w' := by
  go_enter Tryd.func19, Tryd.ntmps19
  go_wp2_with fail
  go_ret
  exact ⟨rfl, by repeat (first | exact Kep.refl _ | apply Kep.alloc)⟩
set_option maxHeartbeats 1000000 in
theorem rname100 (w : World) : Calls Tryd.prog 19 #[.int .u8 100] w fun e w' => e = .returned (.string ⟨nameA 100⟩) ∧ Kep w w' := by
  go_enter Tryd.func19, Tryd.ntmps19
  go_wp2_with fail
  go_ret
  exact ⟨rfl, by repeat (first | exact Kep.refl _ | apply Kep.alloc)⟩
set_option maxHeartbeats 1000000 in
theorem rname101 (w : World) : Calls Tryd.prog 19 #[.int .u8 101] w fun e w' => e = .returned (.string ⟨nameA 101⟩) ∧ Kep w w' := by
  go_enter Tryd.func19, Tryd.ntmps19
  go_wp2_with fail
  go_ret
  exact ⟨rfl, by repeat (first | exact Kep.refl _ | apply Kep.alloc)⟩
set_option maxHeartbeats 1000000 in
theorem rname112 (w : World) : Calls Tryd.prog 19 #[.int .u8 112] w fun e w' => e = .returned (.string ⟨nameA 112⟩) ∧ Kep w w' := by
  go_enter Tryd.func19, Tryd.ntmps19
  go_wp2_with fail
  go_ret
  exact ⟨rfl, by repeat (first | exact Kep.refl _ | apply Kep.alloc)⟩
set_option maxHeartbeats 1000000 in
theorem rname113 (w : World) : Calls Tryd.prog 19 #[.int .u8 113] w fun e w' => e = .returned (.string ⟨nameA 113⟩) ∧ Kep w w' := by
  go_enter Tryd.func19, Tryd.ntmps19
  go_wp2_with fail
  go_ret
  exact ⟨rfl, by repeat (first | exact Kep.refl _ | apply Kep.alloc)⟩
end Go.Proofs.YthmbajehcffnbaaDoor
