/- What the document's shifts come to, bit by bit. -/
import Derived.Test.YtjmcbohjkdbkbaaDoorBits
import Derived.Test.YtjmcbohjkdbkbaaDoorSteps
namespace Go.Proofs.YtjmcbohjkdbkbaaDoor
open Go.RowKit

theorem bit31 (a : Int) (w : World) (h0 : 0 ≤ a) (h1 : a < 4294967296) :
    Calls Tryd.prog 72 #[.int .u32 a, .int .i64 31] w fun e w' => e = .returned (.bool (bt a 31)) ∧ w' = w :=
  bit_any a 31 w h0 h1 (by omega)

theorem bit0 (a : Int) (w : World) (h0 : 0 ≤ a) (h1 : a < 4294967296) :
    Calls Tryd.prog 72 #[.int .u32 a, .int .i64 0] w fun e w' => e = .returned (.bool (bt a 0)) ∧ w' = w :=
  bit_any a 0 w h0 h1 (by omega)

set_option maxHeartbeats 400000 in
theorem refShl_any (a k : Nat) (n : Int) (w : World) (ha : a < 4294967296) (h0 : 0 ≤ n) (h1 : n < 4294967296) (hk : n % 32 = (k : Int)) :
    Calls Tryd.prog 56 #[.bool true, .int .u32 a, .int .u32 n] w fun e w' => e = .returned (.tuple #[.int .u32 (shlI a k), .int .u32 (fl (shlI a k) (outUp a k) false)]) ∧ w' = w := by
  have hb : k < 32 := by omega
  have hz : Hid (shlI a 0 = (a : Int)) := shlI_zero a ha
  go_enter Tryd.func56, Tryd.ntmps56
  go_wp2
  go_loop [1, 8, 9] (fun x c i => ∃ j : Nat, j ≤ k ∧ x = .int .u32 (shlI a j) ∧ c = .bool (outUp a j) ∧ i = .int .u32 j) (fun _ _ i => k - (intOf i).toNat)
  case atStart => exact ⟨0, Nat.zero_le _, by rw [hz.out], rfl, rfl⟩
  case round =>
    obtain ⟨j, hj, rfl, rfl, rfl⟩ := hrel
    have hr := shlI_range a j
    by_cases hlt : j < k
    · have e1 := shlI_step a j
      have e2 := bt_shl a j (by omega)
      go_wp2_with (go_at_call 72; refine (bit31 _ _ (by omega) (by omega)).mono ?_; rintro e w' ⟨rfl, rfl⟩)
      go_round
      case rel => exact ⟨j + 1, by omega, by rw [e1], rfl, by go_num⟩
      case measure => simp [intOf]; omega
    · have hk' : j = k := by omega
      subst hk'
      go_wp2_with (go_at_call 59; refine (of_any _ _ _ _ (by omega) (by omega)).mono ?_; rintro e w' ⟨rfl, rfl⟩)
      go_ret2
      exact ⟨rfl, rfl⟩

set_option maxHeartbeats 400000 in
theorem refShr_any (a k : Nat) (n : Int) (w : World) (ha : a < 4294967296) (h0 : 0 ≤ n) (h1 : n < 4294967296) (hk : n % 32 = (k : Int)) :
    Calls Tryd.prog 56 #[.bool false, .int .u32 a, .int .u32 n] w fun e w' => e = .returned (.tuple #[.int .u32 (shrI a k), .int .u32 (fl (shrI a k) (outDown a k) false)]) ∧ w' = w := by
  have hb : k < 32 := by omega
  have hz : Hid (shrI a 0 = (a : Int)) := shrI_zero a
  go_enter Tryd.func56, Tryd.ntmps56
  go_wp2
  go_loop [1, 8, 9] (fun x c i => ∃ j : Nat, j ≤ k ∧ x = .int .u32 (shrI a j) ∧ c = .bool (outDown a j) ∧ i = .int .u32 j) (fun _ _ i => k - (intOf i).toNat)
  case atStart => exact ⟨0, Nat.zero_le _, by rw [hz.out], rfl, rfl⟩
  case round =>
    obtain ⟨j, hj, rfl, rfl, rfl⟩ := hrel
    have hr := shrI_range a j ha
    by_cases hlt : j < k
    · have e1 := shrI_step a j
      have e2 := bt_shr a j
      go_wp2_with (go_at_call 72; refine (bit0 _ _ (by omega) (by omega)).mono ?_; rintro e w' ⟨rfl, rfl⟩)
      go_round
      case rel => exact ⟨j + 1, by omega, by rw [e1], rfl, by go_num⟩
      case measure => simp [intOf]; omega
    · have hk' : j = k := by omega
      subst hk'
      go_wp2_with (go_at_call 59; refine (of_any _ _ _ _ (by omega) (by omega)).mono ?_; rintro e w' ⟨rfl, rfl⟩)
      go_ret2
      exact ⟨rfl, rfl⟩

end Go.Proofs.YtjmcbohjkdbkbaaDoor
