/- What the code's shifts come to. -/
import Derived.Test.YtfpknklibiigfaaDoorSums
import Derived.Test.YtfpknklibiigfaaDoorShiftm
namespace Go.Proofs.YtfpknklibiigfaaDoor
open Go.RowKit

set_option maxHeartbeats 400000 in
theorem round_any (p n : Nat) (w : World) (hp : p < 4294967296) (h1 : 1 ≤ n) (h2 : n ≤ 31) :
    Calls Tryd.prog 71 #[.int .u32 p, .int .u32 n] w fun e w' => e = .returned (.tuple #[.int .u32 (rorI p n), .int .u32 (ob p (n - 1))]) ∧ w' = w := by
  have e1 := round_val p n hp (by omega)
  have e2 := round_out p n hp h1 h2
  go_enter Tryd.func71, Tryd.ntmps71
  go_wp2
  go_ret2
  exact ⟨rfl, rfl⟩

set_option maxHeartbeats 400000 in
theorem down_any (p n : Nat) (w : World) (hp : p < 4294967296) (h1 : 1 ≤ n) (h2 : n ≤ 31) :
    Calls Tryd.prog 69 #[.int .u32 p, .int .u32 n] w fun e w' => e = .returned (.tuple #[.int .u32 (shrI p n), .int .u32 (ob p (n - 1))]) ∧ w' = w := by
  have e1 := down_val p n hp (by omega)
  go_enter Tryd.func69, Tryd.ntmps69
  go_wp2_with fail
  refine (round_any _ _ _ hp h1 h2).mono ?_
  rintro e w' ⟨rfl, rfl⟩
  go_wp2_with fail
  go_ret2
  exact ⟨rfl, rfl⟩

set_option maxHeartbeats 400000 in
theorem up_any (p n : Nat) (w : World) (hp : p < 4294967296) (h1 : 1 ≤ n) (h2 : n ≤ 31) :
    Calls Tryd.prog 68 #[.int .u32 p, .int .u32 n] w fun e w' => e = .returned (.tuple #[.int .u32 (shlI p n), .int .u32 (ob p (32 - n))]) ∧ w' = w := by
  have e1 := up_val p n hp (by omega)
  have e2 := up_out p n hp h1 (by omega)
  go_enter Tryd.func68, Tryd.ntmps68
  go_wp2_with fail
  rw [show (32 - (n : Int)) = ((32 - n : Nat) : Int) by omega]
  refine (round_any _ _ _ hp (by omega) (by omega)).mono ?_
  rintro e w' ⟨rfl, rfl⟩
  go_wp2_with fail
  go_ret2
  exact ⟨rfl, rfl⟩

set_option maxHeartbeats 400000 in
theorem shl_any (a k : Nat) (n : Int) (w : World) (ha : a < 4294967296) (h0 : 0 ≤ n) (h1 : n < 4294967296) (hk : n % 32 = (k : Int)) :
    Calls Tryd.prog 52 #[.int .u32 a, .int .u32 n] w fun e w' => e = .returned (.tuple #[.int .u32 (shlI a k), .int .u32 (fl (shlI a k) (outUp a k) false)]) ∧ Kep w w' := by
  have hb : k < 32 := by omega
  by_cases hz : k = 0
  · subst hz
    have hk0 : n % 32 = 0 := hk
    clear hk
    go_enter Tryd.func52, Tryd.ntmps52
    go_wp2_with (first | (go_at_call 67; go_in) | (go_at_call 65; refine (flagged0 _ _).mono ?_; rintro e w' ⟨rfl, g1⟩))
    go_ret2
    exact ⟨by rw [shlI_zero a ha]; rfl, ‹_›⟩
  · have hk0 : ((k : Int) == 0) = false := by rw [beq_eq_false_iff_ne]; omega
    have hc : (ob a (32 - k) == 1) = outUp a k := by rw [ob_one]; unfold outUp; simp [hz]
    go_enter Tryd.func52, Tryd.ntmps52
    go_wp2_with (first | (go_at_call 67; go_in) | (go_at_call 68; refine (up_any _ _ _ ha (by omega) (by omega)).mono ?_; rintro e w' ⟨rfl, rfl⟩))
    refine (flagged1 _ _ (outUp a k) _ (by simp) (by simp) (by simp)).mono ?_
    rintro e w1 ⟨rfl, g1⟩
    go_wp2_with fail
    go_ret2
    exact ⟨rfl, kep_trans ((Kep.refl _).alloc _) g1⟩

set_option maxHeartbeats 400000 in
theorem shr_any (a k : Nat) (n : Int) (w : World) (ha : a < 4294967296) (h0 : 0 ≤ n) (h1 : n < 4294967296) (hk : n % 32 = (k : Int)) :
    Calls Tryd.prog 53 #[.int .u32 a, .int .u32 n] w fun e w' => e = .returned (.tuple #[.int .u32 (shrI a k), .int .u32 (fl (shrI a k) (outDown a k) false)]) ∧ Kep w w' := by
  have hb : k < 32 := by omega
  by_cases hz : k = 0
  · subst hz
    have hk0 : n % 32 = 0 := hk
    clear hk
    go_enter Tryd.func53, Tryd.ntmps53
    go_wp2_with (first | (go_at_call 67; go_in) | (go_at_call 65; refine (flagged0 _ _).mono ?_; rintro e w' ⟨rfl, g1⟩))
    go_ret2
    exact ⟨by rw [shrI_zero a]; rfl, ‹_›⟩
  · have hk0 : ((k : Int) == 0) = false := by rw [beq_eq_false_iff_ne]; omega
    have hc : (ob a (k - 1) == 1) = outDown a k := by rw [ob_one]; unfold outDown; simp [hz]
    go_enter Tryd.func53, Tryd.ntmps53
    go_wp2_with (first | (go_at_call 67; go_in) | (go_at_call 69; refine (down_any _ _ _ ha (by omega) (by omega)).mono ?_; rintro e w' ⟨rfl, rfl⟩))
    refine (flagged1 _ _ (outDown a k) _ (by simp) (by simp) (by simp)).mono ?_
    rintro e w1 ⟨rfl, g1⟩
    go_wp2_with fail
    go_ret2
    exact ⟨rfl, kep_trans ((Kep.refl _).alloc _) g1⟩

set_option maxHeartbeats 400000 in
theorem ror_any (a k : Nat) (n : Int) (w : World) (ha : a < 4294967296) (h0 : 0 ≤ n) (h1 : n < 4294967296) (hk : n % 32 = (k : Int)) :
    Calls Tryd.prog 55 #[.int .u32 a, .int .u32 n] w fun e w' => e = .returned (.tuple #[.int .u32 (rorI a k), .int .u32 (fl (rorI a k) (outDown a k) false)]) ∧ Kep w w' := by
  have hb : k < 32 := by omega
  by_cases hz : k = 0
  · subst hz
    have hk0 : n % 32 = 0 := hk
    clear hk
    go_enter Tryd.func55, Tryd.ntmps55
    go_wp2_with (first | (go_at_call 67; go_in) | (go_at_call 65; refine (flagged0 _ _).mono ?_; rintro e w' ⟨rfl, g1⟩))
    go_ret2
    exact ⟨by rw [rorI_zero a]; rfl, ‹_›⟩
  · have hk0 : ((k : Int) == 0) = false := by rw [beq_eq_false_iff_ne]; omega
    have hc : (ob a (k - 1) == 1) = outDown a k := by rw [ob_one]; unfold outDown; simp [hz]
    go_enter Tryd.func55, Tryd.ntmps55
    go_wp2_with (first | (go_at_call 67; go_in) | (go_at_call 71; refine (round_any _ _ _ ha (by omega) (by omega)).mono ?_; rintro e w' ⟨rfl, rfl⟩))
    refine (flagged1 _ _ (outDown a k) _ (by simp) (by simp) (by simp)).mono ?_
    rintro e w1 ⟨rfl, g1⟩
    go_wp2_with fail
    go_ret2
    exact ⟨rfl, kep_trans ((Kep.refl _).alloc _) g1⟩

end Go.Proofs.YtfpknklibiigfaaDoor
