/- The document's names of operations, one by one. -/
import Derived.Test.YthmbajehcffnbaaDoorTname
namespace Go.Proofs.YthmbajehcffnbaaDoor
open Go.RowKit
set_option linter.unusedVariables false

set_option maxHeartbeats 1000000 in
theorem rname32 (w : World) : Calls Tryd.prog 19 #[.int .u8 32] w fun e w' => e = .returned (.string ⟨nameA 32⟩) ∧ Kep w w' := by
  go_enter Tryd.func19, Tryd.ntmps19
  go_wp2_with fail
  go_ret
  exact ⟨rfl, by repeat (first | exact Kep.refl _ | apply Kep.alloc)⟩
set_option maxHeartbeats 1000000 in
theorem rname33 (w : World) : Calls Tryd.prog 19 #[.int .u8 33] w fun e w' => e = .returned (.string ⟨nameA 33⟩) ∧ Kep w w' := by
  go_enter Tryd.func19, Tryd.ntmps19
  go_wp2_with fail
  go_ret
  exact ⟨rfl, by repeat (first | exact Kep.refl _ | apply Kep.alloc)⟩
set_option maxHeartbeats 1000000 in
theorem rname48 (w : World) : Calls Tryd.prog 19 #[.int .u8 48] w fun e w' => e = .returned (.string ⟨nameA 48⟩) ∧ Kep w w' := by
  go_enter Tryd.func19, Tryd.ntmps19
  go_wp2_with fail
  go_ret
  exact ⟨rfl, by repeat (first | exact Kep.refl _ | apply Kep.alloc)⟩
set_option maxHeartbeats 1000000 in
theorem rname49 (w : World) : Calls Tryd.prog 19 #[.int .u8 49] w fun e w' => e = .returned (.string ⟨nameA 49⟩) ∧ Kep w w' := by
  go_enter Tryd.func19, Tryd.ntmps19
  go_wp2_with fail
  go_ret
  exact ⟨rfl, by repeat (first | exact Kep.refl _ | apply Kep.alloc)⟩
set_option maxHeartbeats 1000000 in
theorem rname50 (w : World) : Calls Tryd.prog 19 #[.int .u8 50] w fun e w' => e = .returned (.string ⟨nameA 50⟩) ∧ Kep w w' := by
  go_enter Tryd.func19, Tryd.ntmps19
  go_wp2_with fail
  go_ret
  exact ⟨rfl, by repeat (first | exact Kep.refl _ | apply Kep.alloc)⟩
set_option maxHeartbeats 1000000 in
theorem rname51 (w : World) : Calls Tryd.prog 19 #[.int .u8 51] w fun e w' => e = .returned (.string ⟨nameA 51⟩) ∧ Kep w w' := by
  go_enter Tryd.func19, Tryd.ntmps19
  go_wp2_with fail
  go_ret
  exact ⟨rfl, by repeat (first | exact Kep.refl _ | apply Kep.alloc)⟩
set_option maxHeartbeats 1000000 in
theorem rname52 (w : World) : Calls Tryd.prog 19 #[.int .u8 52] w fun e w' => e = .returned (.string ⟨nameA 52⟩) ∧ Kep w w' := by
  go_enter Tryd.func19, Tryd.ntmps19
  go_wp2_with fail
  go_ret
  exact ⟨rfl, by repeat (first | exact Kep.refl _ | apply Kep.alloc)⟩
set_option maxHeartbeats 1000000 in
theorem rname53 (w : World) : Calls Tryd.prog 19 #[.int .u8 53] w fun e w' => e = .returned (.string ⟨nameA 53⟩) ∧ Kep w w' := by
  go_enter Tryd.func19, Tryd.ntmps19
  go_wp2_with fail
  go_ret
  exact ⟨rfl, by repeat (first | exact Kep.refl _ | apply Kep.alloc)⟩
set_option maxHeartbeats 1000000 in
theorem rname54 (w : World) : Calls Tryd.prog 19 #[.int .u8 54] w fun e w' => e = .returned (.string ⟨nameA 54⟩) ∧ Kep w w' := by
  go_enter Tryd.func19, Tryd.ntmps19
  go_wp2_with fail
  go_ret
  exact ⟨rfl, by repeat (first | exact Kep.refl _ | apply Kep.alloc)⟩
set_option maxHeartbeats 1000000 in
theorem rname55 (w : World) : Calls Tryd.prog 19 #[.int .u8 55] w fun e w' => e = .returned (.string ⟨nameA 55⟩) ∧ Kep w w' := by
  go_enter Tryd.func19, Tryd.ntmps19
  go_wp2_with fail
  go_ret
  exact ⟨rfl, by repeat (first | exact Kep.refl _ | apply Kep.alloc)⟩
set_option maxHeartbeats 1000000 in
theorem rname56 (w : World) : Calls Tryd.prog 19 #[.int .u8 56] w fun e w' => e = .returned (.string ⟨nameA 56⟩) ∧ Kep w w' := by
  go_enter Tryd.func19, Tryd.ntmps19
  go_wp2_with fail
  go_ret
  exact ⟨rfl, by repeat (first | exact Kep.refl _ | apply Kep.alloc)⟩
set_option maxHeartbeats 1000000 in
theorem rname57 (w : World) : Calls Tryd.prog 19 #[.int .u8 57] w fun e w' => e = .returned (.string ⟨nameA 57⟩) ∧ Kep w w' := by
  go_enter Tryd.func19, Tryd.ntmps19
  go_wp2_with fail
  go_ret
  exact ⟨rfl, by repeat (first | exact Kep.refl _ | apply Kep.alloc)⟩
set_option maxHeartbeats 1000000 in
theorem rname58 (w : World) : Calls Tryd.prog 19 #[.int .u8 58] w fun e w' => e = .returned (.string ⟨nameA 58⟩) ∧ Kep w w' := by
  go_enter Tryd.func19, Tryd.ntmps19
  go_wp2_with fail
  go_ret
  exact ⟨rfl, by repeat (first | exact Kep.refl _ | apply Kep.alloc)⟩
set_option maxHeartbeats 1000000 in
theorem rname64 (w : World) : Calls Tryd.prog 19 #[.int .u8 64] w fun e w' => e = .returned (.string ⟨nameA 64⟩) ∧ Kep w w' := by
  go_enter Tryd.func19, Tryd.ntmps19
  go_wp2_with fail
  go_ret
  exact ⟨rfl, by repeat (first | exact Kep.refl _ | apply Kep.alloc)⟩
set_option maxHeartbeats 1000000 in
theorem rname65 (w : World) : Calls Tryd.prog 19 #[.int .u8 65] w fun e w' => e = .returned (.string ⟨nameA 65⟩) ∧ Kep w w' := by
  go_enter Tryd.func19, Tryd.ntmps19
  go_wp2_with fail
  go_ret
  exact ⟨rfl, by repeat (first | exact Kep.refl _ | apply Kep.alloc)⟩
set_option maxHeartbeats 1000000 in
theorem rname66 (w : World) : Calls Tryd.prog 19 #[.int .u8 66] w fun e w' => e = .returned (.string ⟨nameA 66⟩) ∧ Kep w w' := by
  go_enter Tryd.func19, Tryd.ntmps19
  go_wp2_with fail
  go_ret
  exact ⟨rfl, by repeat (first | exact Kep.refl _ | apply Kep.alloc)⟩
set_option maxHeartbeats 1000000 in
theorem rname67 (w : World) : Calls Tryd.prog 19 #[.int .u8 67] w fun e w' => e = .returned (.string ⟨nameA 67⟩) ∧ Kep w w' := by
  go_enter Tryd.func19, Tryd.ntmps19
  go_wp2_with fail
  go_ret
  exact ⟨rfl, by repeat (first | exact Kep.refl _ | apply Kep.alloc)⟩
set_option maxHeartbeats 1000000 in
theorem rname68 (w : World) : Calls Tryd.prog 19 #[.int .u8 68] w fun e w' => e = .returned (.string ⟨nameA 68⟩) ∧ Kep w w' := by
  go_enter Tryd.func19, Tryd.ntmps19
  go_wp2_with fail
  go_ret
  exact ⟨rfl, by repeat (first | exact Kep.refl _ | apply Kep.alloc)⟩
set_option maxHeartbeats 1000000 in
theorem rname69 (w : World) : Calls Tryd.prog 19 #[.int .u8 69] w fun e w' => e = .returned (.string ⟨nameA 69⟩) ∧ Kep w w' := by
  go_enter Tryd.func19, Tryd.ntmps19
  go_wp2_with fail
  go_ret
  exact ⟨rfl, by repeat (first | exact Kep.refl _ | apply Kep.alloc)⟩
set_option maxHeartbeats 1000000 in
theorem rname70 (w : World) : Calls Tryd.prog 19 #[.int .u8 70] w fun e w' => e = .returned (.string ⟨nameA 70⟩) ∧ Kep w w' := by
  go_enter Tryd.func19, Tryd.ntmps19
  go_wp2_with fail
  go_ret
  exact ⟨rfl, by repeat (first | exact Kep.refl _ | apply Kep.alloc)⟩
set_option maxHeartbeats 1000000 in
theorem rname71 (w : World) : Calls Tryd.prog 19 #[.int .u8 71] w fun e w' => e = .returned (.string ⟨nameA 71⟩) ∧ Kep w w' := by
  go_enter Tryd.func19, Tryd.ntmps19
  go_wp2_with fail
  go_ret
  exact ⟨rfl, by repeat (first | exact Kep.refl _ | apply Kep.alloc)⟩
end Go.Proofs.YthmbajehcffnbaaDoor
