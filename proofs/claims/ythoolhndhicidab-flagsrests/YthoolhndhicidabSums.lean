/- What the sums, the differences and the bits come to, in the code and in the document's own words. -/
import Derived.Test.YthoolhndhicidabJoin
namespace Go.Proofs.Ythoolhndhicidab
open Go.RowKit

theorem ret_two {k l : IntKind} {a b c d : Int} (h : a = c) (i : b = d) : Ending.returned (.tuple #[.int k a, .int l b]) = .returned (.tuple #[.int k c, .int l d]) := by rw [h, i]

set_option maxHeartbeats 400000 in
theorem signed_any (a : Int) (w : World) (h0 : 0 ≤ a) (h1 : a < 4294967296) :
    Calls Try.prog 26 #[.int .u32 a] w fun e w' => e = .returned (.int .i64 (sg a)) ∧ w' = w := by
  go_enter Try.func26, Try.ntmps26
  go_wp2
  go_ret
  exact ⟨ret_int (sg_wrap a h0 h1), rfl⟩

set_option maxHeartbeats 400000 in
theorem refSigned_any (a : Int) (w : World) (h0 : 0 ≤ a) (h1 : a < 4294967296) :
    Calls Try.prog 37 #[.int .u32 a] w fun e w' => e = .returned (.int .i64 (sg a)) ∧ w' = w := by
  go_enter Try.func37, Try.ntmps37
  go_wp2
  all_goals go_ret
  all_goals exact ⟨ret_int (by unfold sg; omega), rfl⟩

set_option maxHeartbeats 400000 in
theorem of_any (r : Int) (c v : Bool) (w : World) (h0 : 0 ≤ r) (h1 : r < 4294967296) :
    Calls Try.prog 34 #[.int .u32 r, .bool c, .bool v] w fun e w' => e = .returned (.int .u32 (fl r c v)) ∧ w' = w := by
  have hf : ∀ x y : Bool, (r == 0) = x → decide (2147483648 ≤ r) = y → fl r c v = wt x 16 + wt y 32 + (wt c 64 + wt v 128) := fun x y hx hy => by rw [← hx, ← hy]; rfl
  have Hf : Hid (∀ x y : Bool, (r == 0) = x → decide (2147483648 ≤ r) = y → fl r c v = wt x 16 + wt y 32 + (wt c 64 + wt v 128)) := hf
  clear hf
  have hsg := sg_neg r h0 h1
  by_cases hn : 2147483648 ≤ r
  · have hn' : Hid (decide (2147483648 ≤ r) = true) := by simpa [Hid] using hn
    have hs : sg r < 0 := hsg.2 hn
    clear hsg
    have hz : (r == 0) = false := by rw [beq_eq_false_iff_ne]; omega
    cases c <;> cases v
    all_goals
      go_enter Try.func34, Try.ntmps34
      go_wp2_with (go_at_call 37; refine (refSigned_any _ _ (by omega) (by omega)).mono ?_; rintro e w' ⟨rfl, rfl⟩)
    all_goals go_ret
    all_goals exact ⟨ret_int (by rw [Hf.out _ _ hz hn'.out]; rfl), rfl⟩
  · have hn' : Hid (decide (2147483648 ≤ r) = false) := by simpa [Hid] using hn
    have hs : ¬ sg r < 0 := fun h => hn (hsg.1 h)
    clear hsg
    cases hz : (r == 0) <;> cases c <;> cases v
    all_goals
      go_enter Try.func34, Try.ntmps34
      go_wp2_with (go_at_call 37; refine (refSigned_any _ _ (by omega) (by omega)).mono ?_; rintro e w' ⟨rfl, rfl⟩)
    all_goals go_ret
    all_goals exact ⟨ret_int (by rw [Hf.out _ _ hz hn'.out]; rfl), rfl⟩

set_option maxHeartbeats 400000 in
theorem and_any (a b : Int) (w : World) :
    Calls Try.prog 16 #[.int .u32 a, .int .u32 b] w fun e w' => e = .returned (.tuple #[.int .u32 (bits .and .u32 a b), .int .u32 (fl (bits .and .u32 a b) false false)]) ∧ Grown w w' := by
  go_enter Try.func16, Try.ntmps16
  go_wp2_with (go_at_call 25; refine (flagged0 _ _).mono ?_; rintro e w' ⟨rfl, g1⟩)
  go_ret2
  exact ⟨rfl, ‹_›⟩

set_option maxHeartbeats 400000 in
theorem or_any (a b : Int) (w : World) :
    Calls Try.prog 17 #[.int .u32 a, .int .u32 b] w fun e w' => e = .returned (.tuple #[.int .u32 (bits .or .u32 a b), .int .u32 (fl (bits .or .u32 a b) false false)]) ∧ Grown w w' := by
  go_enter Try.func17, Try.ntmps17
  go_wp2_with (go_at_call 25; refine (flagged0 _ _).mono ?_; rintro e w' ⟨rfl, g1⟩)
  go_ret2
  exact ⟨rfl, ‹_›⟩

set_option maxHeartbeats 400000 in
theorem add_any (a b : Int) (w : World) (h0 : 0 ≤ a) (h1 : a < 4294967296) (h2 : 0 ≤ b) (h3 : b < 4294967296) :
    Calls Try.prog 9 #[.int .u32 a, .int .u32 b] w fun e w' => e = .returned (.tuple #[.int .u32 ((a + b) % 4294967296), .int .u32 (fl ((a + b) % 4294967296) (decide (4294967296 ≤ a + b)) (addV a b))]) ∧ Grown w w' := by
  have sa := sg_range a h0 h1
  have sb := sg_range b h2 h3
  have ec : decide ((a + b) % 4294967296 < a) = decide (4294967296 ≤ a + b) := by simp; omega
  have ev : (sg a + sg b != sg ((a + b) % 4294967296)) = addV a b := rfl
  go_enter Try.func9, Try.ntmps9
  go_wp2_with (go_at_call 26; refine (signed_any _ _ (by omega) (by omega)).mono ?_; rintro e w' ⟨rfl, rfl⟩)
  refine (flagged2 _ _ (decide (4294967296 ≤ a + b)) (addV a b) _ (by simp) (by simp) (by simp) (by simp) (by simp)).mono ?_
  rintro e w1 ⟨rfl, g1⟩
  go_wp2_with fail
  go_ret2
  exact ⟨rfl, grown_trans ((Grown.refl _).alloc _ _) g1⟩

set_option maxHeartbeats 400000 in
theorem sub_any (a b : Int) (w : World) (h0 : 0 ≤ a) (h1 : a < 4294967296) (h2 : 0 ≤ b) (h3 : b < 4294967296) :
    Calls Try.prog 10 #[.int .u32 a, .int .u32 b] w fun e w' => e = .returned (.tuple #[.int .u32 ((a - b) % 4294967296), .int .u32 (fl ((a - b) % 4294967296) (decide (a < b)) (subV a b))]) ∧ Grown w w' := by
  have sa := sg_range a h0 h1
  have sb := sg_range b h2 h3
  have ev : (sg a - sg b != sg ((a - b) % 4294967296)) = subV a b := rfl
  go_enter Try.func10, Try.ntmps10
  go_wp2_with (go_at_call 26; refine (signed_any _ _ (by omega) (by omega)).mono ?_; rintro e w' ⟨rfl, rfl⟩)
  refine (flagged2 _ _ (decide (a < b)) (subV a b) _ (by simp) (by simp) (by simp) (by simp) (by simp)).mono ?_
  rintro e w1 ⟨rfl, g1⟩
  go_wp2_with fail
  go_ret2
  exact ⟨rfl, grown_trans ((Grown.refl _).alloc _ _) g1⟩

end Go.Proofs.Ythoolhndhicidab
