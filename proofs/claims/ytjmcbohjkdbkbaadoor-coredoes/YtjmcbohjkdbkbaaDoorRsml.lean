/- The document's small functions of layer 8. -/
import Derived.Test.YtjmcbohjkdbkbaaDoorCwant
import Derived.Test.YtjmcbohjkdbkbaaDoorRefmay
import Derived.Test.YtjmcbohjkdbkbaaDoorProd
import Derived.Test.YtjmcbohjkdbkbaaDoorRefdn
namespace Go.Proofs.YtjmcbohjkdbkbaaDoor
open Go.RowKit
set_option linter.unusedVariables false
set_option linter.unusedSimpArgs false

set_option maxHeartbeats 1600000 in
theorem refBytes_any (op : Int) (w : World) (m : 48 ≤ op ∧ op ≤ 58) :
    Calls Tryd.prog 25 #[.int .u8 op] w fun e w' => e = .returned (.int .i64 (rN op)) ∧ w' = w := by
  rcases mem_ops m with rfl | rfl | rfl | rfl | rfl | rfl | rfl | rfl | rfl | rfl | rfl
  all_goals
    clear m
    go_enter Tryd.func25, Tryd.ntmps25
    go_wp2
    go_ret
    exact ⟨rfl, rfl⟩

set_option maxHeartbeats 1600000 in
theorem refReads_any (op : Int) (w : World) (m : 48 ≤ op ∧ op ≤ 58) :
    Calls Tryd.prog 26 #[.int .u8 op] w fun e w' => e = .returned (.bool (rK op == 2)) ∧ w' = w := by
  rcases mem_ops m with rfl | rfl | rfl | rfl | rfl | rfl | rfl | rfl | rfl | rfl | rfl
  all_goals
    clear m
    go_enter Tryd.func26, Tryd.ntmps26
    go_wp2
    go_ret
    exact ⟨rfl, rfl⟩

set_option maxHeartbeats 800000 in
theorem refLow_any (x n : Int) (w : World) (h0 : 0 ≤ x) (h1 : x < 4294967296) (hn : n = 1 ∨ n = 2 ∨ n = 4) :
    Calls Tryd.prog 27 #[.int .u32 x, .int .i64 n] w fun e w' => e = .returned (.int .u32 (lowI x n)) ∧ w' = w := by
  rcases hn with rfl | rfl | rfl
  all_goals
    go_enter Tryd.func27, Tryd.ntmps27
    go_wp2
    go_ret
    exact ⟨ret_int (by simp [lowI] <;> omega), rfl⟩

set_option maxHeartbeats 800000 in
theorem refSig_any (x n : Int) (w : World) (h0 : 0 ≤ x) (h1 : x < 4294967296) (hn : n = 1 ∨ n = 2) :
    Calls Tryd.prog 61 #[.int .u32 x, .int .i64 n] w fun e w' => e = .returned (.int .u32 (if n = 1 then sext (x % 256) 128 else sext (x % 65536) 32768)) ∧ w' = w := by
  have HL : Hid (∀ w, Calls Tryd.prog 27 #[.int .u32 x, .int .i64 n] w fun e w' => e = .returned (.int .u32 (lowI x n)) ∧ w' = w) := fun w => refLow_any x n w h0 h1 (by omega)
  rcases hn with rfl | rfl
  all_goals
    simp only [lowI] at HL
    go_enter Tryd.func61, Tryd.ntmps61
    go_wp2_with (go_at_call 27; refine (HL.out _).mono ?_; rintro e w' ⟨rfl, rfl⟩)
    all_goals go_ret
    all_goals exact ⟨ret_int (by simp [sext] at * <;> (first | omega | (split <;> omega))), rfl⟩

set_option maxHeartbeats 800000 in
theorem flagged_any (ps : Int) (k : Nat) (w : World) (h0 : 0 ≤ ps) (h1 : ps < 4294967296) (hk : k < 16) :
    Calls Tryd.prog 32 #[.int .u32 ps, .int .u32 ((16 * k : Nat) : Int)] w fun e w' => e = .returned (.int .u32 (flgI ps ((16 * k : Nat) : Int))) ∧ w' = w := by
  have hf : (0 : Int) ≤ ((16 * k : Nat) : Int) ∧ ((16 * k : Nat) : Int) ≤ 240 := by omega
  generalize ((16 * k : Nat) : Int) = f at *
  go_enter Tryd.func32, Tryd.ntmps32
  go_wp2
  go_ret
  refine ⟨ret_int ?_, rfl⟩
  unfold flgI
  simp [IntKind.wrap_u32] at *
  try omega
end Go.Proofs.YtjmcbohjkdbkbaaDoor
