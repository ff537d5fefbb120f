/- What the document's turns and shifts with the sign come to, bit by bit. -/
import Derived.Test.YtjmcbohjkdbkbaaDoorRefsh
import Derived.Test.YtjmcbohjkdbkbaaDoorTurnm
namespace Go.Proofs.YtjmcbohjkdbkbaaDoor
open Go.RowKit

set_option maxHeartbeats 800000 in
theorem refRor_any (a k : Nat) (n : Int) (w : World) (ha : a < 4294967296) (h0 : 0 ≤ n) (h1 : n < 4294967296) (hk : n % 32 = (k : Int)) :
    Calls Tryd.prog 53 #[.bool true, .int .u32 a, .int .u32 n] w fun e w' => e = .returned (.tuple #[.int .u32 (rorI a k), .int .u32 (fl (rorI a k) (outDown a k) false)]) ∧ w' = w := by
  have hb : k < 32 := by omega
  have hz : Hid (rorI a 0 = (a : Int)) := rorI_zero a
  go_enter Tryd.func53, Tryd.ntmps53
  go_wp2
  go_loop [1, 8, 9] (fun x c i => ∃ j : Nat, j ≤ k ∧ x = .int .u32 (rorI a j) ∧ c = .bool (outDown a j) ∧ i = .int .u32 j) (fun _ _ i => k - (intOf i).toNat)
  case atStart => exact ⟨0, Nat.zero_le _, by rw [hz.out], rfl, rfl⟩
  case round =>
    obtain ⟨j, hj, rfl, rfl, rfl⟩ := hrel
    have hr := rorI_range a j ha (by omega)
    by_cases hlt : j < k
    · have HS : Hid (rorI a (j + 1) = rorI a j / 2 + wt (bt (rorI a j) 0) 2147483648) := ror_step a j (by omega)
      have HO : Hid (bt (rorI a j) 0 = outDown a (j + 1)) := ror_outs a j (by omega)
      cases hc : bt (rorI a j) 0
      all_goals
        go_wp2_with fail
        refine (bit0 _ _ (by omega) (by omega)).mono ?_
        rintro e w' ⟨rfl, rfl⟩
        go_wp2_with fail
        refine (bit31 _ _ (by omega) (by omega)).mono ?_
        rintro e w' ⟨rfl, rfl⟩
        go_wp2_with fail
        go_round
        case rel => exact ⟨j + 1, by omega, by rw [HS.out, hc]; simp [wt], by rw [← HO.out, hc], by go_num⟩
        case measure => simp [intOf]; omega
    · have hk' : j = k := by omega
      subst hk'
      go_wp2_with (go_at_call 59; refine (of_any _ _ _ _ (by omega) (by omega)).mono ?_; rintro e w' ⟨rfl, rfl⟩)
      go_ret2
      exact ⟨rfl, rfl⟩

set_option maxHeartbeats 800000 in
theorem refSar_any (a k : Nat) (n : Int) (w : World) (ha : a < 4294967296) (h0 : 0 ≤ n) (h1 : n < 4294967296) (hk : n % 32 = (k : Int)) :
    Calls Tryd.prog 53 #[.bool false, .int .u32 a, .int .u32 n] w fun e w' => e = .returned (.tuple #[.int .u32 (sarI a k), .int .u32 (fl (sarI a k) (outDown a k) false)]) ∧ w' = w := by
  have hb : k < 32 := by omega
  have hz : Hid (sarI a 0 = (a : Int)) := sarI_zero a ha
  go_enter Tryd.func53, Tryd.ntmps53
  go_wp2
  go_loop [1, 8, 9] (fun x c i => ∃ j : Nat, j ≤ k ∧ x = .int .u32 (sarI a j) ∧ c = .bool (outDown a j) ∧ i = .int .u32 j) (fun _ _ i => k - (intOf i).toNat)
  case atStart => exact ⟨0, Nat.zero_le _, by rw [hz.out], rfl, rfl⟩
  case round =>
    obtain ⟨j, hj, rfl, rfl, rfl⟩ := hrel
    have hr := sarI_range a j ha
    by_cases hlt : j < k
    · have HS : Hid (sarI a (j + 1) = sarI a j / 2 + wt (bt (sarI a j) 31) 2147483648) := sar_step a j ha
      have HO : Hid (bt (sarI a j) 0 = outDown a (j + 1)) := sar_out a j ha (by omega)
      cases hc : bt (sarI a j) 31
      all_goals
        go_wp2_with fail
        refine (bit0 _ _ (by omega) (by omega)).mono ?_
        rintro e w' ⟨rfl, rfl⟩
        go_wp2_with fail
        refine (bit31 _ _ (by omega) (by omega)).mono ?_
        rintro e w' ⟨rfl, rfl⟩
        go_wp2_with fail
        go_round
        case rel => exact ⟨j + 1, by omega, by rw [HS.out, hc]; simp [wt], by rw [← HO.out], by go_num⟩
        case measure => simp [intOf]; omega
    · have hk' : j = k := by omega
      subst hk'
      go_wp2_with (go_at_call 59; refine (of_any _ _ _ _ (by omega) (by omega)).mono ?_; rintro e w' ⟨rfl, rfl⟩)
      go_ret2
      exact ⟨rfl, rfl⟩

end Go.Proofs.YtjmcbohjkdbkbaaDoor
