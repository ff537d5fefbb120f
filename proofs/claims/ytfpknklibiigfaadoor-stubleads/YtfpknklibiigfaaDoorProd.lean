/- What products, quotients and rests come to, in the code and in the document's own words. -/
import Derived.Test.YtfpknklibiigfaaDoorSums
import Derived.Test.YtfpknklibiigfaaDoorProdm
import Derived.Deep.QuietTactic
import Derived.BigQuiet
namespace Go.Proofs.YtfpknklibiigfaaDoor
open Go.RowKit

theorem ret_three {k l : IntKind} {a b c d : Int} {x y : Bool} (h : a = c) (i : b = d) (j : x = y) : Ending.returned (.tuple #[.int k a, .int l b, .bool x]) = .returned (.tuple #[.int k c, .int l d, .bool y]) := by rw [h, i, j]

theorem grown_drewN (w : World) (n : Nat) : Kep w (w.drewN n) := (Kep.refl _).drewN _

set_option maxHeartbeats 400000 in
theorem product_any (a b : Int) (w : World) (h0 : 0 ≤ a) (h1 : a < 4294967296) (h2 : 0 ≤ b) (h3 : b < 4294967296) :
    Calls Tryd.prog 70 #[.int .u32 a, .int .u32 b] w fun e w' => e = .returned (.tuple #[.int .u32 (a * b % 4294967296), .int .u32 (a * b / 4294967296)]) ∧ w' = w := by
  have hp := mul_range a b h0 h1 h2 h3
  go_enter Tryd.func70, Tryd.ntmps70
  go_wp2
  go_ret2
  exact ⟨rfl, rfl⟩

set_option maxHeartbeats 400000 in
theorem mul_any (a b : Int) (w : World) (h0 : 0 ≤ a) (h1 : a < 4294967296) (h2 : 0 ≤ b) (h3 : b < 4294967296) :
    Calls Tryd.prog 54 #[.int .u32 a, .int .u32 b] w fun e w' => e = .returned (.tuple #[.int .u32 (a * b % 4294967296), .int .u32 (fl (a * b % 4294967296) (decide (4294967296 ≤ a * b)) false)]) ∧ Kep w w' := by
  have hp := mul_range a b h0 h1 h2 h3
  have ec : (a * b / 4294967296 != 0) = decide (4294967296 ≤ a * b) := by rw [Bool.eq_iff_iff]; simp; omega
  go_enter Tryd.func54, Tryd.ntmps54
  go_wp2_with (go_at_call 70; refine (product_any _ _ _ (by omega) (by omega) (by omega) (by omega)).mono ?_; rintro e w' ⟨rfl, rfl⟩)
  refine (flagged1 _ _ (decide (4294967296 ≤ a * b)) _ (by simp) (by simp) (by simp)).mono ?_
  rintro e w1 ⟨rfl, g1⟩
  go_wp2_with fail
  go_ret2
  exact ⟨rfl, kep_trans ((Kep.refl _).alloc _) g1⟩

set_option maxHeartbeats 400000 in
theorem mulh_any (a b : Int) (w : World) (h0 : 0 ≤ a) (h1 : a < 4294967296) (h2 : 0 ≤ b) (h3 : b < 4294967296) :
    Calls Tryd.prog 57 #[.int .u32 a, .int .u32 b] w fun e w' => e = .returned (.tuple #[.int .u32 (a * b / 4294967296), .int .u32 (fl (a * b / 4294967296) false false)]) ∧ Kep w w' := by
  go_enter Tryd.func57, Tryd.ntmps57
  go_wp2_with (first | (go_at_call 70; refine (product_any _ _ _ (by omega) (by omega) (by omega) (by omega)).mono ?_; rintro e w' ⟨rfl, rfl⟩) | (go_at_call 65; refine (flagged0 _ _).mono ?_; rintro e w' ⟨rfl, g1⟩))
  go_ret2
  exact ⟨rfl, ‹_›⟩

set_option maxHeartbeats 400000 in
theorem div_no (a : Int) (w : World) :
    Calls Tryd.prog 58 #[.int .u32 a, .int .u32 0] w fun e w' => e = .returned (.tuple #[.int .u32 0, .int .u32 0, .bool false]) ∧ w' = w := by
  go_enter Tryd.func58, Tryd.ntmps58
  go_wp2
  go_ret3
  exact ⟨rfl, rfl⟩

set_option maxHeartbeats 400000 in
theorem div_any (a b : Int) (w : World) (h0 : 0 ≤ a) (h1 : a < 4294967296) (h2 : 0 < b) :
    Calls Tryd.prog 58 #[.int .u32 a, .int .u32 b] w fun e w' => e = .returned (.tuple #[.int .u32 (a / b), .int .u32 (fl (a / b) false false), .bool true]) ∧ Kep w w' := by
  have hb : (b == 0) = false := by rw [beq_eq_false_iff_ne]; omega
  have ht := tdiv_is a b h0 h1 h2
  have hu := tmod_is a b h0
  go_enter Tryd.func58, Tryd.ntmps58
  go_wp2_with (go_at_call 65; refine (flagged0 _ _).mono ?_; rintro e w' ⟨rfl, g1⟩)
  go_ret3
  exact ⟨rfl, ‹_›⟩

set_option maxHeartbeats 400000 in
theorem rem_no (a : Int) (w : World) :
    Calls Tryd.prog 59 #[.int .u32 a, .int .u32 0] w fun e w' => e = .returned (.tuple #[.int .u32 0, .int .u32 0, .bool false]) ∧ w' = w := by
  go_enter Tryd.func59, Tryd.ntmps59
  go_wp2
  go_ret3
  exact ⟨rfl, rfl⟩

set_option maxHeartbeats 400000 in
theorem rem_any (a b : Int) (w : World) (h0 : 0 ≤ a) (h1 : a < 4294967296) (h2 : 0 < b) :
    Calls Tryd.prog 59 #[.int .u32 a, .int .u32 b] w fun e w' => e = .returned (.tuple #[.int .u32 (a % b), .int .u32 (fl (a % b) false false), .bool true]) ∧ Kep w w' := by
  have hb : (b == 0) = false := by rw [beq_eq_false_iff_ne]; omega
  have ht := tdiv_is a b h0 h1 h2
  have hu := tmod_is a b h0
  go_enter Tryd.func59, Tryd.ntmps59
  go_wp2_with (go_at_call 65; refine (flagged0 _ _).mono ?_; rintro e w' ⟨rfl, g1⟩)
  go_ret3
  exact ⟨rfl, ‹_›⟩

end Go.Proofs.YtfpknklibiigfaaDoor
