/- What the sums, the differences and the bits come to, in the code and in the document's own words. -/
import Derived.Test.YtfpknklibiigfaaDoorJoin
namespace Go.Proofs.YtfpknklibiigfaaDoor
open Go.RowKit

theorem ret_two {k l : IntKind} {a b c d : Int} (h : a = c) (i : b = d) : Ending.returned (.tuple #[.int k a, .int l b]) = .returned (.tuple #[.int k c, .int l d]) := by rw [h, i]

set_option maxHeartbeats 400000 in
theorem signed_any (a : Int) (w : World) (h0 : 0 ≤ a) (h1 : a < 4294967296) :
    Calls Tryd.prog 66 #[.int .u32 a] w fun e w' => e = .returned (.int .i64 (sg a)) ∧ w' = w := by
  go_enter Tryd.func66, Tryd.ntmps66
  go_wp2
  go_ret
  exact ⟨ret_int (sg_wrap a h0 h1), rfl⟩

set_option maxHeartbeats 400000 in
theorem and_any (a b : Int) (w : World) :
    Calls Tryd.prog 49 #[.int .u32 a, .int .u32 b] w fun e w' => e = .returned (.tuple #[.int .u32 (bits .and .u32 a b), .int .u32 (fl (bits .and .u32 a b) false false)]) ∧ Kep w w' := by
  go_enter Tryd.func49, Tryd.ntmps49
  go_wp2_with (go_at_call 65; refine (flagged0 _ _).mono ?_; rintro e w' ⟨rfl, g1⟩)
  go_ret2
  exact ⟨rfl, ‹_›⟩

set_option maxHeartbeats 400000 in
theorem or_any (a b : Int) (w : World) :
    Calls Tryd.prog 50 #[.int .u32 a, .int .u32 b] w fun e w' => e = .returned (.tuple #[.int .u32 (bits .or .u32 a b), .int .u32 (fl (bits .or .u32 a b) false false)]) ∧ Kep w w' := by
  go_enter Tryd.func50, Tryd.ntmps50
  go_wp2_with (go_at_call 65; refine (flagged0 _ _).mono ?_; rintro e w' ⟨rfl, g1⟩)
  go_ret2
  exact ⟨rfl, ‹_›⟩

set_option maxHeartbeats 400000 in
theorem xor_any (a b : Int) (w : World) :
    Calls Tryd.prog 51 #[.int .u32 a, .int .u32 b] w fun e w' => e = .returned (.tuple #[.int .u32 (bits .xor .u32 a b), .int .u32 (fl (bits .xor .u32 a b) false false)]) ∧ Kep w w' := by
  go_enter Tryd.func51, Tryd.ntmps51
  go_wp2_with (go_at_call 65; refine (flagged0 _ _).mono ?_; rintro e w' ⟨rfl, g1⟩)
  go_ret2
  exact ⟨rfl, ‹_›⟩

set_option maxHeartbeats 400000 in
theorem add_any (a b : Int) (w : World) (h0 : 0 ≤ a) (h1 : a < 4294967296) (h2 : 0 ≤ b) (h3 : b < 4294967296) :
    Calls Tryd.prog 47 #[.int .u32 a, .int .u32 b] w fun e w' => e = .returned (.tuple #[.int .u32 ((a + b) % 4294967296), .int .u32 (fl ((a + b) % 4294967296) (decide (4294967296 ≤ a + b)) (addV a b))]) ∧ Kep w w' := by
  have sa := sg_range a h0 h1
  have sb := sg_range b h2 h3
  have ec : decide ((a + b) % 4294967296 < a) = decide (4294967296 ≤ a + b) := by simp; omega
  have ev : (sg a + sg b != sg ((a + b) % 4294967296)) = addV a b := rfl
  go_enter Tryd.func47, Tryd.ntmps47
  go_wp2_with (go_at_call 66; refine (signed_any _ _ (by omega) (by omega)).mono ?_; rintro e w' ⟨rfl, rfl⟩)
  refine (flagged2 _ _ (decide (4294967296 ≤ a + b)) (addV a b) _ (by simp) (by simp) (by simp) (by simp) (by simp)).mono ?_
  rintro e w1 ⟨rfl, g1⟩
  go_wp2_with fail
  go_ret2
  exact ⟨rfl, kep_trans ((Kep.refl _).alloc _) g1⟩

set_option maxHeartbeats 400000 in
theorem sub_any (a b : Int) (w : World) (h0 : 0 ≤ a) (h1 : a < 4294967296) (h2 : 0 ≤ b) (h3 : b < 4294967296) :
    Calls Tryd.prog 48 #[.int .u32 a, .int .u32 b] w fun e w' => e = .returned (.tuple #[.int .u32 ((a - b) % 4294967296), .int .u32 (fl ((a - b) % 4294967296) (decide (a < b)) (subV a b))]) ∧ Kep w w' := by
  have sa := sg_range a h0 h1
  have sb := sg_range b h2 h3
  have ev : (sg a - sg b != sg ((a - b) % 4294967296)) = subV a b := rfl
  go_enter Tryd.func48, Tryd.ntmps48
  go_wp2_with (go_at_call 66; refine (signed_any _ _ (by omega) (by omega)).mono ?_; rintro e w' ⟨rfl, rfl⟩)
  refine (flagged2 _ _ (decide (a < b)) (subV a b) _ (by simp) (by simp) (by simp) (by simp) (by simp)).mono ?_
  rintro e w1 ⟨rfl, g1⟩
  go_wp2_with fail
  go_ret2
  exact ⟨rfl, kep_trans ((Kep.refl _).alloc _) g1⟩

end Go.Proofs.YtfpknklibiigfaaDoor
