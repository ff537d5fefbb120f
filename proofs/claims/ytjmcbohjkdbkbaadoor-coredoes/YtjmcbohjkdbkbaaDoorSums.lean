/- What the sums, the differences and the bits come to, in the code and in the document's own words. -/
import Derived.Test.YtjmcbohjkdbkbaaDoorJoin
namespace Go.Proofs.YtjmcbohjkdbkbaaDoor
open Go.RowKit

theorem ret_two {k l : IntKind} {a b c d : Int} (h : a = c) (i : b = d) : Ending.returned (.tuple #[.int k a, .int l b]) = .returned (.tuple #[.int k c, .int l d]) := by rw [h, i]

set_option maxHeartbeats 400000 in
theorem signed_any (a : Int) (w : World) (h0 : 0 ≤ a) (h1 : a < 4294967296) :
    Calls Tryd.prog 101 #[.int .u32 a] w fun e w' => e = .returned (.int .i64 (sg a)) ∧ w' = w := by
  go_enter Tryd.func101, Tryd.ntmps101
  go_wp2
  go_ret
  exact ⟨ret_int (sg_wrap a h0 h1), rfl⟩

set_option maxHeartbeats 400000 in
theorem refSigned_any (a : Int) (w : World) (h0 : 0 ≤ a) (h1 : a < 4294967296) :
    Calls Tryd.prog 60 #[.int .u32 a] w fun e w' => e = .returned (.int .i64 (sg a)) ∧ w' = w := by
  go_enter Tryd.func60, Tryd.ntmps60
  go_wp2
  all_goals go_ret
  all_goals exact ⟨ret_int (by unfold sg; omega), rfl⟩

set_option maxHeartbeats 400000 in
theorem of_any (r : Int) (c v : Bool) (w : World) (h0 : 0 ≤ r) (h1 : r < 4294967296) :
    Calls Tryd.prog 59 #[.int .u32 r, .bool c, .bool v] w fun e w' => e = .returned (.int .u32 (fl r c v)) ∧ w' = w := by
  have hf : ∀ x y : Bool, (r == 0) = x → decide (2147483648 ≤ r) = y → fl r c v = wt x 16 + wt y 32 + (wt c 64 + wt v 128) := fun x y hx hy => by rw [← hx, ← hy]; rfl
  have Hf : Hid (∀ x y : Bool, (r == 0) = x → decide (2147483648 ≤ r) = y → fl r c v = wt x 16 + wt y 32 + (wt c 64 + wt v 128)) := hf
  clear hf
  have hsg := sg_neg r h0 h1
  by_cases hn : 2147483648 ≤ r
  · have hn' : Hid (decide (2147483648 ≤ r) = true) := by simpa [Hid] using hn
    have hs : sg r < 0 := hsg.2 hn
    clear hsg
    have hz : (r == 0) = false := by rw [beq_eq_false_iff_ne]; omega
    cases c <;> cases v
    all_goals
      go_enter Tryd.func59, Tryd.ntmps59
      go_wp2_with (go_at_call 60; refine (refSigned_any _ _ (by omega) (by omega)).mono ?_; rintro e w' ⟨rfl, rfl⟩)
    all_goals go_ret
    all_goals exact ⟨ret_int (by rw [Hf.out _ _ hz hn'.out]; rfl), rfl⟩
  · have hn' : Hid (decide (2147483648 ≤ r) = false) := by simpa [Hid] using hn
    have hs : ¬ sg r < 0 := fun h => hn (hsg.1 h)
    clear hsg
    cases hz : (r == 0) <;> cases c <;> cases v
    all_goals
      go_enter Tryd.func59, Tryd.ntmps59
      go_wp2_with (go_at_call 60; refine (refSigned_any _ _ (by omega) (by omega)).mono ?_; rintro e w' ⟨rfl, rfl⟩)
    all_goals go_ret
    all_goals exact ⟨ret_int (by rw [Hf.out _ _ hz hn'.out]; rfl), rfl⟩

set_option maxHeartbeats 400000 in
theorem and_any (a b : Int) (w : World) :
    Calls Tryd.prog 83 #[.int .u32 a, .int .u32 b] w fun e w' => e = .returned (.tuple #[.int .u32 (bits .and .u32 a b), .int .u32 (fl (bits .and .u32 a b) false false)]) ∧ Kep w w' := by
  go_enter Tryd.func83, Tryd.ntmps83
  go_wp2_with (go_at_call 100; refine (flagged0 _ _).mono ?_; rintro e w' ⟨rfl, g1⟩)
  go_ret2
  exact ⟨rfl, ‹_›⟩

set_option maxHeartbeats 400000 in
theorem or_any (a b : Int) (w : World) :
    Calls Tryd.prog 84 #[.int .u32 a, .int .u32 b] w fun e w' => e = .returned (.tuple #[.int .u32 (bits .or .u32 a b), .int .u32 (fl (bits .or .u32 a b) false false)]) ∧ Kep w w' := by
  go_enter Tryd.func84, Tryd.ntmps84
  go_wp2_with (go_at_call 100; refine (flagged0 _ _).mono ?_; rintro e w' ⟨rfl, g1⟩)
  go_ret2
  exact ⟨rfl, ‹_›⟩

set_option maxHeartbeats 400000 in
theorem xor_any (a b : Int) (w : World) :
    Calls Tryd.prog 85 #[.int .u32 a, .int .u32 b] w fun e w' => e = .returned (.tuple #[.int .u32 (bits .xor .u32 a b), .int .u32 (fl (bits .xor .u32 a b) false false)]) ∧ Kep w w' := by
  go_enter Tryd.func85, Tryd.ntmps85
  go_wp2_with (go_at_call 100; refine (flagged0 _ _).mono ?_; rintro e w' ⟨rfl, g1⟩)
  go_ret2
  exact ⟨rfl, ‹_›⟩

set_option maxHeartbeats 400000 in
theorem add_any (a b : Int) (w : World) (h0 : 0 ≤ a) (h1 : a < 4294967296) (h2 : 0 ≤ b) (h3 : b < 4294967296) :
    Calls Tryd.prog 81 #[.int .u32 a, .int .u32 b] w fun e w' => e = .returned (.tuple #[.int .u32 ((a + b) % 4294967296), .int .u32 (fl ((a + b) % 4294967296) (decide (4294967296 ≤ a + b)) (addV a b))]) ∧ Kep w w' := by
  have sa := sg_range a h0 h1
  have sb := sg_range b h2 h3
  have ec : decide ((a + b) % 4294967296 < a) = decide (4294967296 ≤ a + b) := by simp; omega
  have ev : (sg a + sg b != sg ((a + b) % 4294967296)) = addV a b := rfl
  go_enter Tryd.func81, Tryd.ntmps81
  go_wp2_with (go_at_call 101; refine (signed_any _ _ (by omega) (by omega)).mono ?_; rintro e w' ⟨rfl, rfl⟩)
  refine (flagged2 _ _ (decide (4294967296 ≤ a + b)) (addV a b) _ (by simp) (by simp) (by simp) (by simp) (by simp)).mono ?_
  rintro e w1 ⟨rfl, g1⟩
  go_wp2_with fail
  go_ret2
  exact ⟨rfl, kep_trans ((Kep.refl _).alloc _) g1⟩

set_option maxHeartbeats 400000 in
theorem sub_any (a b : Int) (w : World) (h0 : 0 ≤ a) (h1 : a < 4294967296) (h2 : 0 ≤ b) (h3 : b < 4294967296) :
    Calls Tryd.prog 82 #[.int .u32 a, .int .u32 b] w fun e w' => e = .returned (.tuple #[.int .u32 ((a - b) % 4294967296), .int .u32 (fl ((a - b) % 4294967296) (decide (a < b)) (subV a b))]) ∧ Kep w w' := by
  have sa := sg_range a h0 h1
  have sb := sg_range b h2 h3
  have ev : (sg a - sg b != sg ((a - b) % 4294967296)) = subV a b := rfl
  go_enter Tryd.func82, Tryd.ntmps82
  go_wp2_with (go_at_call 101; refine (signed_any _ _ (by omega) (by omega)).mono ?_; rintro e w' ⟨rfl, rfl⟩)
  refine (flagged2 _ _ (decide (a < b)) (subV a b) _ (by simp) (by simp) (by simp) (by simp) (by simp)).mono ?_
  rintro e w1 ⟨rfl, g1⟩
  go_wp2_with fail
  go_ret2
  exact ⟨rfl, kep_trans ((Kep.refl _).alloc _) g1⟩

set_option maxHeartbeats 400000 in
theorem refAdd_any (a b : Int) (w : World) (h0 : 0 ≤ a) (h1 : a < 4294967296) (h2 : 0 ≤ b) (h3 : b < 4294967296) :
    Calls Tryd.prog 33 #[.int .u32 a, .int .u32 b] w fun e w' => e = .returned (.tuple #[.int .u32 ((a + b) % 4294967296), .int .u32 (fl ((a + b) % 4294967296) (decide (4294967296 ≤ a + b)) (addV a b))]) ∧ w' = w := by
  have sa := sg_range a h0 h1
  have sb := sg_range b h2 h3
  have ev : (sg a + sg b != sg ((a + b) % 4294967296)) = addV a b := rfl
  go_enter Tryd.func33, Tryd.ntmps33
  go_wp2_with (first | (go_at_call 60; refine (refSigned_any _ _ (by omega) (by omega)).mono ?_; rintro e w' ⟨rfl, rfl⟩) | (go_at_call 59; refine (of_any _ _ _ _ (by omega) (by omega)).mono ?_; rintro e w' ⟨rfl, rfl⟩))
  go_ret2
  exact ⟨rfl, rfl⟩

set_option maxHeartbeats 400000 in
theorem refSub_any (a b : Int) (w : World) (h0 : 0 ≤ a) (h1 : a < 4294967296) (h2 : 0 ≤ b) (h3 : b < 4294967296) :
    Calls Tryd.prog 51 #[.int .u32 a, .int .u32 b] w fun e w' => e = .returned (.tuple #[.int .u32 ((a - b) % 4294967296), .int .u32 (fl ((a - b) % 4294967296) (decide (a < b)) (subV a b))]) ∧ w' = w := by
  have sa := sg_range a h0 h1
  have sb := sg_range b h2 h3
  by_cases hlt : a < b
  · have e1 : a - b + 4294967296 = (a - b) % 4294967296 := by omega
    have ev : (sg a - sg b != sg ((a - b) % 4294967296)) = subV a b := rfl
    go_enter Tryd.func51, Tryd.ntmps51
    go_wp2_with (first | (go_at_call 60; refine (refSigned_any _ _ (by omega) (by omega)).mono ?_; rintro e w' ⟨rfl, rfl⟩) | (go_at_call 59; refine (of_any _ _ _ _ (by omega) (by omega)).mono ?_; rintro e w' ⟨rfl, rfl⟩))
    go_ret2
    exact ⟨ret_two rfl (by rw [decide_eq_true hlt]), rfl⟩
  · have ev : (sg a - sg b != sg (a - b)) = subV a b := by unfold subV; rw [show (a - b) % 4294967296 = a - b from by omega]
    have e1 : (a - b) % 4294967296 = a - b := by omega
    go_enter Tryd.func51, Tryd.ntmps51
    go_wp2_with (first | (go_at_call 60; refine (refSigned_any _ _ (by omega) (by omega)).mono ?_; rintro e w' ⟨rfl, rfl⟩) | (go_at_call 59; refine (of_any _ _ _ _ (by omega) (by omega)).mono ?_; rintro e w' ⟨rfl, rfl⟩))
    go_ret2
    exact ⟨ret_two e1.symm (by rw [e1, decide_eq_false (by omega : ¬ a < b)]), rfl⟩

end Go.Proofs.YtjmcbohjkdbkbaaDoor
