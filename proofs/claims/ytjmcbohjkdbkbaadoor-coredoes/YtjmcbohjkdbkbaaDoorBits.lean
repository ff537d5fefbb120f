/- What the document's powers, bits and bitwise joins come to. -/
import Derived.Test.YtjmcbohjkdbkbaaDoorSums
import Derived.Test.YtjmcbohjkdbkbaaDoorBitm
import Derived.Test.YtjmcbohjkdbkbaaDoorProdm
import Derived.Deep.QuietTactic
import Derived.BigQuiet
namespace Go.Proofs.YtjmcbohjkdbkbaaDoor
open Go.RowKit

set_option maxHeartbeats 400000 in
theorem power_any (n : Nat) (w : World) (hn : n < 32) :
    Calls Tryd.prog 73 #[.int .i64 n] w fun e w' => e = .returned (.int .u32 (pw n)) ∧ w' = w := by
  go_enter Tryd.func73, Tryd.ntmps73
  go_wp2
  go_loop [3, 4] (fun p i => ∃ k : Nat, k ≤ n ∧ i = .int .i64 k ∧ p = .int .u32 (pw k)) (fun _ i => n - (intOf i).toNat)
  case atStart => exact ⟨0, Nat.zero_le _, rfl, rfl⟩
  case round =>
    obtain ⟨k, hk, rfl, rfl⟩ := hrel
    by_cases hlt : k < n
    · have hp := pw_range k (by omega)
      have hq := pw_range (k + 1) (by omega)
      have HS : Hid (pw (k + 1) = pw k * 2) := pw_succ k
      have hm : pw k * 2 ≤ 2147483648 := by have := pw_succ k; omega
      clear hq
      go_wp2
      go_round
      case rel => exact ⟨k + 1, by omega, by go_num, by rw [HS.out]⟩
      case measure => simp [intOf]; omega
    · have hk' : k = n := by omega
      subst hk'
      go_wp2
      go_ret
      exact ⟨rfl, rfl⟩

set_option maxHeartbeats 400000 in
theorem bit_any (a : Int) (i : Nat) (w : World) (h0 : 0 ≤ a) (h1 : a < 4294967296) (hi : i < 32) :
    Calls Tryd.prog 72 #[.int .u32 a, .int .i64 i] w fun e w' => e = .returned (.bool (bt a i)) ∧ w' = w := by
  have hp := pw_range i hi
  have ht := tdiv_is a (pw i) h0 h1 (by omega)
  have hd := div_range a (pw i) h0 h1 (by omega)
  have hb := bt_is a i h0
  go_enter Tryd.func72, Tryd.ntmps72
  go_wp2_with (go_at_call 73; refine (power_any _ _ hi).mono ?_; rintro e w' ⟨rfl, rfl⟩)
  go_ret
  exact ⟨rfl, rfl⟩

set_option maxHeartbeats 800000 in
theorem logic_any (which : Int) (a b : Int) (X : Nat) (w : World) (h0 : 0 ≤ a) (h1 : a < 4294967296) (h2 : 0 ≤ b) (h3 : b < 4294967296)
    (hwh : which = 0 ∨ which = 1 ∨ which = 2) (hX : ∀ k, X.testBit k = joined which (bt a k) (bt b k)) :
    Calls Tryd.prog 52 #[.int .i64 which, .int .u32 a, .int .u32 b] w fun e w' => e = .returned (.tuple #[.int .u32 (low X 32), .int .u32 (fl (low X 32) false false)]) ∧ w' = w := by
  have HX : Hid (∀ k, X.testBit k = joined which (bt a k) (bt b k)) := hX
  have htop := low_top X
  have hl0 : Hid (low X 0 = 0) := low_zero X
  clear hX
  rcases hwh with rfl | rfl | rfl
  all_goals
    go_enter Tryd.func52, Tryd.ntmps52
    go_wp2
    go_loop [8, 9] (fun r i => ∃ k : Nat, k ≤ 32 ∧ i = .int .i64 k ∧ r = .int .u32 (low X k)) (fun _ i => 32 - (intOf i).toNat)
    case atStart => exact ⟨0, Nat.zero_le _, rfl, by rw [hl0.out]⟩
    case round =>
      obtain ⟨k, hk, rfl, rfl⟩ := hrel
      by_cases hlt : k < 32
      · have hp := pw_range k (by omega)
        have hl := low_range X k (by omega)
        have HS : Hid (low X (k + 1) = low X k + wt (joined _ (bt a k) (bt b k)) (pw k)) := low_step X k _ (HX.out k)
        cases hx : bt a k <;> cases hy : bt b k
        all_goals
          go_wp2_with (first | (go_at_call 72; refine (bit_any _ _ _ (by omega) (by omega) (by omega)).mono ?_; rintro e w' ⟨rfl, rfl⟩) | (go_at_call 73; refine (power_any _ _ (by omega)).mono ?_; rintro e w' ⟨rfl, rfl⟩))
          go_round
          case rel => exact ⟨k + 1, by omega, by go_num, by rw [HS.out, hx, hy]; simp [joined, wt]⟩
          case measure => simp [intOf]; omega
      · have hk' : k = 32 := by omega
        subst hk'
        go_wp2_with (go_at_call 59; refine (of_any _ _ _ _ (by omega) (by omega)).mono ?_; rintro e w' ⟨rfl, rfl⟩)
        go_ret2
        exact ⟨rfl, rfl⟩

end Go.Proofs.YtjmcbohjkdbkbaaDoor
