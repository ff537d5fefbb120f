/- What the code's shift with the sign comes to. -/
import Derived.Test.YtfpknklibiigfaaDoorShift
import Derived.Test.YtfpknklibiigfaaDoorTurnm
namespace Go.Proofs.YtfpknklibiigfaaDoor
open Go.RowKit

set_option maxHeartbeats 400000 in
theorem downSigned_any (p n : Nat) (w : World) (hp : p < 4294967296) (h1 : 1 ≤ n) (h2 : n ≤ 31) :
    Calls Tryd.prog 72 #[.int .u32 p, .int .u32 n] w fun e w' => e = .returned (.tuple #[.int .u32 (sarI p n), .int .u32 (ob p (n - 1))]) ∧ w' = w := by
  by_cases hn : (p : Int) < 2147483648
  · have e1 : Hid (sarI p n = shrI p n) := sarI_below p n (by omega)
    go_enter Tryd.func72, Tryd.ntmps72
    go_wp2_with (go_at_call 69; refine (down_any _ _ _ hp h1 h2).mono ?_; rintro e w' ⟨rfl, rfl⟩)
    go_ret2
    exact ⟨ret_two e1.out.symm rfl, rfl⟩
  · have hr := shrI_range (4294967295 - p) n (by omega)
    have e1 : bits .xor .u32 IntKind.u32.max (shrI (4294967295 - p) n) = sarI p n := by rw [over_val _ hr.1 hr.2, sarI_above p n (by omega)]
    have e2 : bits .xor .u32 IntKind.u32.max (p : Int) = ((4294967295 - p : Nat) : Int) := by rw [over_val _ (by omega) (by omega)]; omega
    have e3 := ob_over p (n - 1) hp (by omega)
    have e4 := ob_range (4294967295 - p) (n - 1)
    have hq : 4294967295 - p < 4294967296 := by omega
    clear hr
    generalize 4294967295 - p = q at *
    go_enter Tryd.func72, Tryd.ntmps72
    go_wp2_with fail
    refine (down_any q n _ hq h1 h2).mono ?_
    rintro e w' ⟨rfl, rfl⟩
    go_wp2_with fail
    go_ret2
    exact ⟨rfl, rfl⟩

set_option maxHeartbeats 400000 in
theorem sar_any (a k : Nat) (n : Int) (w : World) (ha : a < 4294967296) (h0 : 0 ≤ n) (h1 : n < 4294967296) (hk : n % 32 = (k : Int)) :
    Calls Tryd.prog 56 #[.int .u32 a, .int .u32 n] w fun e w' => e = .returned (.tuple #[.int .u32 (sarI a k), .int .u32 (fl (sarI a k) (outDown a k) false)]) ∧ Kep w w' := by
  have hb : k < 32 := by omega
  by_cases hz : k = 0
  · subst hz
    have hk0 : n % 32 = 0 := hk
    clear hk
    go_enter Tryd.func56, Tryd.ntmps56
    go_wp2_with (first | (go_at_call 67; go_in) | (go_at_call 65; refine (flagged0 _ _).mono ?_; rintro e w' ⟨rfl, g1⟩))
    go_ret2
    exact ⟨by rw [sarI_zero a ha]; rfl, ‹_›⟩
  · have hk0 : ((k : Int) == 0) = false := by rw [beq_eq_false_iff_ne]; omega
    have hc : (ob a (k - 1) == 1) = outDown a k := by rw [ob_one]; unfold outDown; simp [hz]
    go_enter Tryd.func56, Tryd.ntmps56
    go_wp2_with (first | (go_at_call 67; go_in) | (go_at_call 72; refine (downSigned_any _ _ _ ha (by omega) (by omega)).mono ?_; rintro e w' ⟨rfl, rfl⟩))
    refine (flagged1 _ _ (outDown a k) _ (by simp) (by simp) (by simp)).mono ?_
    rintro e w1 ⟨rfl, g1⟩
    go_wp2_with fail
    go_ret2
    exact ⟨rfl, kep_trans ((Kep.refl _).alloc _) g1⟩

end Go.Proofs.YtfpknklibiigfaaDoor
