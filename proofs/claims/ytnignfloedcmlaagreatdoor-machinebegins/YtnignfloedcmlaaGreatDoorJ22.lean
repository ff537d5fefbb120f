/- Part of a proof. -/
import Derived.Test.YtnignfloedcmlaaGreatDoorChecked
import Derived.WalkKit
import Derived.Handy
import Derived.Deep.QuietTactic
import Derived.BigQuiet
import Derived.OrdersHeld
import Derived.Deep.RegionHeld
import Derived.Test.YtnignfloedcmlaaGreatDoorJ21
namespace Go.Proofs.YtnignfloedcmlaaGreatDoor
open Go.RowKit
set_option linter.unusedVariables false
set_option linter.unusedSimpArgs false
set_option maxHeartbeats 400000 in
theorem holds_any (c ps : Int) (w : World) (h0 : 0 ≤ ps) (h1 : ps < 4294967296) :
    Calls Tryz.prog 168 #[.int .i64 c, .int .u32 ps] w fun e w' => e = .returned (.bool (holdsB c ps)) ∧ w' = w := by
  have e1 := and16 ps h0 h1
  have e2 := and32 ps h0 h1
  have e3 := and64 ps h0 h1
  have e4 := and128 ps h0 h1
  go_enter Tryz.func168, Tryz.ntmps168
  go_wp2
  all_goals clear e1 e2 e3 e4
  all_goals go_ret
  all_goals exact ⟨ret_bool (by simp_all [holdsB]), rfl⟩
set_option maxHeartbeats 400000 in
theorem together0 (w : World) :
    Calls Tryz.prog 178 #[.slice none 0 0] w fun e w' => e = .returned (.int .u32 0) ∧ w' = w := by
  go_enter Tryz.func178, Tryz.ntmps178
  go_wp2
  go_rounds 1
  go_ret
  exact ⟨rfl, rfl⟩
set_option maxHeartbeats 400000 in
theorem together1 (b : Nat) (h0 : Bool) (w : World) (c0 : w.cell? ⟨b, 0, none⟩ = some (.int .u32 64)) (c1 : w.cell? ⟨b, 1, none⟩ = some (.bool h0)) :
    Calls Tryz.prog 178 #[.slice (some ⟨b, 0, none⟩) 1 1] w fun e w' => e = .returned (.int .u32 (wt h0 64)) ∧ Kep w w' := by
  cases h0
  all_goals
    go_enter Tryz.func178, Tryz.ntmps178
    go_wp2
    go_rounds 2
  all_goals go_ret
  all_goals exact ⟨ret_int (by decide), by repeat (first | exact Kep.refl _ | apply Kep.drew | apply Kep.alloc)⟩
set_option maxHeartbeats 400000 in
theorem together2 (b : Nat) (h0 h1 : Bool) (w : World) (hb : b < w.heap.size) (c0 : w.cell? ⟨b, 0, none⟩ = some (.int .u32 64)) (c1 : w.cell? ⟨b, 1, none⟩ = some (.bool h0))
    (c2 : w.cell? ⟨b, 2, none⟩ = some (.int .u32 128)) (c3 : w.cell? ⟨b, 3, none⟩ = some (.bool h1)) :
    Calls Tryz.prog 178 #[.slice (some ⟨b, 0, none⟩) 2 2] w fun e w' => e = .returned (.int .u32 (wt h0 64 + wt h1 128)) ∧ Kep w w' := by
  cases h0 <;> cases h1
  all_goals
    go_enter Tryz.func178, Tryz.ntmps178
    go_wp2
    go_rounds 3
  all_goals go_ret
  all_goals exact ⟨ret_int (by decide), by repeat (first | exact Kep.refl _ | apply Kep.drew | apply Kep.alloc)⟩
set_option maxHeartbeats 400000 in
theorem together2' (b : Nat) (h0 h1 : Bool) (w : World) (hb : b < w.heap.size) (c0 : w.cell? ⟨b, 0, none⟩ = some (.int .u32 16)) (c1 : w.cell? ⟨b, 1, none⟩ = some (.bool h0))
    (c2 : w.cell? ⟨b, 2, none⟩ = some (.int .u32 32)) (c3 : w.cell? ⟨b, 3, none⟩ = some (.bool h1)) :
    Calls Tryz.prog 178 #[.slice (some ⟨b, 0, none⟩) 2 2] w fun e w' => e = .returned (.int .u32 (wt h0 16 + wt h1 32)) ∧ Kep w w' := by
  cases h0 <;> cases h1
  all_goals
    go_enter Tryz.func178, Tryz.ntmps178
    go_wp2
    go_rounds 3
  all_goals go_ret
  all_goals exact ⟨ret_int (by decide), by repeat (first | exact Kep.refl _ | apply Kep.drew | apply Kep.alloc)⟩
theorem or_wt (a b c v : Bool) : bits .or .u32 (wt a 16 + wt b 32) (wt c 64 + wt v 128) = wt a 16 + wt b 32 + (wt c 64 + wt v 128) := by
  cases a <;> cases b <;> cases c <;> cases v <;> decide
theorem or_fl0 (r : Int) : bits .or .u32 (wt (r == 0) 16 + wt (decide (2147483648 ≤ r)) 32) 0 = fl r false false := by
  unfold fl; exact or_wt _ _ false false
theorem or_fl1 (r : Int) (c : Bool) : bits .or .u32 (wt (r == 0) 16 + wt (decide (2147483648 ≤ r)) 32) (wt c 64) = fl r c false := by
  unfold fl
  have := or_wt (r == 0) (decide (2147483648 ≤ r)) c false
  have e : wt c 64 + wt false 128 = wt c 64 := by simp [wt]
  rw [e] at this ⊢; exact this
theorem or_fl2 (r : Int) (c v : Bool) : bits .or .u32 (wt (r == 0) 16 + wt (decide (2147483648 ≤ r)) 32) (wt c 64 + wt v 128) = fl r c v := by
  unfold fl; exact or_wt _ _ _ _
set_option maxHeartbeats 400000 in
theorem flagged0 (r : Int) (w : World) :
    Calls Tryz.prog 170 #[.int .u32 r, .slice none 0 0] w fun e w' => e = .returned (.tuple #[.int .u32 r, .int .u32 (fl r false false)]) ∧ Kep w w' := by
  have ho := or_fl0 r
  go_enter Tryz.func170, Tryz.ntmps170
  go_wp2_with fail
  refine (together2' _ (r == 0) (decide (2147483648 ≤ r)) _ (by simp) (by simp) (by simp) (by simp) (by simp)).mono ?_
  rintro e w1 ⟨rfl, g1⟩
  go_wp2_with fail
  refine (together0 _).mono ?_
  rintro e w2 ⟨rfl, rfl⟩
  go_wp2_with fail
  go_ret2
  exact ⟨rfl, kep_trans ((Kep.refl _).alloc _) g1⟩
set_option maxHeartbeats 400000 in
theorem flagged1 (r : Int) (b : Nat) (c : Bool) (w : World) (hb : b < w.heap.size) (c0 : w.cell? ⟨b, 0, none⟩ = some (.int .u32 64)) (c1 : w.cell? ⟨b, 1, none⟩ = some (.bool c)) :
    Calls Tryz.prog 170 #[.int .u32 r, .slice (some ⟨b, 0, none⟩) 1 1] w fun e w' => e = .returned (.tuple #[.int .u32 r, .int .u32 (fl r c false)]) ∧ Kep w w' := by
  have ho := or_fl1 r c
  go_enter Tryz.func170, Tryz.ntmps170
  go_wp2_with fail
  refine (together2' _ (r == 0) (decide (2147483648 ≤ r)) _ (by simp) (by simp) (by simp) (by simp) (by simp)).mono ?_
  rintro e w1 ⟨rfl, g1⟩
  have g2 : Kep w w1 := kep_trans ((Kep.refl _).alloc _) g1
  clear g1
  go_wp2_with fail
  refine (together1 _ _ _ ((Kep.cell g2 hb).trans c0) ((Kep.cell g2 hb).trans c1)).mono ?_
  rintro e w2 ⟨rfl, g3⟩
  go_wp2_with fail
  go_ret2
  exact ⟨rfl, kep_trans g2 g3⟩
set_option maxHeartbeats 400000 in
theorem flagged2 (r : Int) (b : Nat) (c v : Bool) (w : World) (hb : b < w.heap.size) (c0 : w.cell? ⟨b, 0, none⟩ = some (.int .u32 64)) (c1 : w.cell? ⟨b, 1, none⟩ = some (.bool c))
    (c2 : w.cell? ⟨b, 2, none⟩ = some (.int .u32 128)) (c3 : w.cell? ⟨b, 3, none⟩ = some (.bool v)) :
    Calls Tryz.prog 170 #[.int .u32 r, .slice (some ⟨b, 0, none⟩) 2 2] w fun e w' => e = .returned (.tuple #[.int .u32 r, .int .u32 (fl r c v)]) ∧ Kep w w' := by
  have ho := or_fl2 r c v
  go_enter Tryz.func170, Tryz.ntmps170
  go_wp2_with fail
  refine (together2' _ (r == 0) (decide (2147483648 ≤ r)) _ (by simp) (by simp) (by simp) (by simp) (by simp)).mono ?_
  rintro e w1 ⟨rfl, g1⟩
  have g2 : Kep w w1 := kep_trans ((Kep.refl _).alloc _) g1
  clear g1
  go_wp2_with fail
  refine (together2 _ _ _ _ (Nat.lt_of_lt_of_le hb g2.size) ((Kep.cell g2 hb).trans c0) ((Kep.cell g2 hb).trans c1) ((Kep.cell g2 hb).trans c2) ((Kep.cell g2 hb).trans c3)).mono ?_
  rintro e w2 ⟨rfl, g3⟩
  go_wp2_with fail
  go_ret2
  exact ⟨rfl, kep_trans g2 g3⟩
theorem ret_two {k l : IntKind} {a b c d : Int} (h : a = c) (i : b = d) : Ending.returned (.tuple #[.int k a, .int l b]) = .returned (.tuple #[.int k c, .int l d]) := by rw [h, i]
set_option maxHeartbeats 400000 in
theorem signed_any (a : Int) (w : World) (h0 : 0 ≤ a) (h1 : a < 4294967296) :
    Calls Tryz.prog 171 #[.int .u32 a] w fun e w' => e = .returned (.int .i64 (sg a)) ∧ w' = w := by
  go_enter Tryz.func171, Tryz.ntmps171
  go_wp2
  go_ret
  exact ⟨ret_int (sg_wrap a h0 h1), rfl⟩
set_option maxHeartbeats 400000 in
theorem and_any (a b : Int) (w : World) :
    Calls Tryz.prog 157 #[.int .u32 a, .int .u32 b] w fun e w' => e = .returned (.tuple #[.int .u32 (bits .and .u32 a b), .int .u32 (fl (bits .and .u32 a b) false false)]) ∧ Kep w w' := by
  go_enter Tryz.func157, Tryz.ntmps157
  go_wp2_with (go_at_call 170; refine (flagged0 _ _).mono ?_; rintro e w' ⟨rfl, g1⟩)
  go_ret2
  exact ⟨rfl, ‹_›⟩
set_option maxHeartbeats 400000 in
theorem or_any (a b : Int) (w : World) :
    Calls Tryz.prog 158 #[.int .u32 a, .int .u32 b] w fun e w' => e = .returned (.tuple #[.int .u32 (bits .or .u32 a b), .int .u32 (fl (bits .or .u32 a b) false false)]) ∧ Kep w w' := by
  go_enter Tryz.func158, Tryz.ntmps158
  go_wp2_with (go_at_call 170; refine (flagged0 _ _).mono ?_; rintro e w' ⟨rfl, g1⟩)
  go_ret2
  exact ⟨rfl, ‹_›⟩
set_option maxHeartbeats 400000 in
theorem xor_any (a b : Int) (w : World) :
    Calls Tryz.prog 159 #[.int .u32 a, .int .u32 b] w fun e w' => e = .returned (.tuple #[.int .u32 (bits .xor .u32 a b), .int .u32 (fl (bits .xor .u32 a b) false false)]) ∧ Kep w w' := by
  go_enter Tryz.func159, Tryz.ntmps159
  go_wp2_with (go_at_call 170; refine (flagged0 _ _).mono ?_; rintro e w' ⟨rfl, g1⟩)
  go_ret2
  exact ⟨rfl, ‹_›⟩
set_option maxHeartbeats 400000 in
theorem add_any (a b : Int) (w : World) (h0 : 0 ≤ a) (h1 : a < 4294967296) (h2 : 0 ≤ b) (h3 : b < 4294967296) :
    Calls Tryz.prog 155 #[.int .u32 a, .int .u32 b] w fun e w' => e = .returned (.tuple #[.int .u32 ((a + b) % 4294967296), .int .u32 (fl ((a + b) % 4294967296) (decide (4294967296 ≤ a + b)) (addV a b))]) ∧ Kep w w' := by
  have sa := sg_range a h0 h1
  have sb := sg_range b h2 h3
  have ec : decide ((a + b) % 4294967296 < a) = decide (4294967296 ≤ a + b) := by simp; omega
  have ev : (sg a + sg b != sg ((a + b) % 4294967296)) = addV a b := rfl
  go_enter Tryz.func155, Tryz.ntmps155
  go_wp2_with (go_at_call 171; refine (signed_any _ _ (by omega) (by omega)).mono ?_; rintro e w' ⟨rfl, rfl⟩)
  refine (flagged2 _ _ (decide (4294967296 ≤ a + b)) (addV a b) _ (by simp) (by simp) (by simp) (by simp) (by simp)).mono ?_
  rintro e w1 ⟨rfl, g1⟩
  go_wp2_with fail
  go_ret2
  exact ⟨rfl, kep_trans ((Kep.refl _).alloc _) g1⟩
set_option maxHeartbeats 400000 in
theorem sub_any (a b : Int) (w : World) (h0 : 0 ≤ a) (h1 : a < 4294967296) (h2 : 0 ≤ b) (h3 : b < 4294967296) :
    Calls Tryz.prog 156 #[.int .u32 a, .int .u32 b] w fun e w' => e = .returned (.tuple #[.int .u32 ((a - b) % 4294967296), .int .u32 (fl ((a - b) % 4294967296) (decide (a < b)) (subV a b))]) ∧ Kep w w' := by
  have sa := sg_range a h0 h1
  have sb := sg_range b h2 h3
  have ev : (sg a - sg b != sg ((a - b) % 4294967296)) = subV a b := rfl
  go_enter Tryz.func156, Tryz.ntmps156
  go_wp2_with (go_at_call 171; refine (signed_any _ _ (by omega) (by omega)).mono ?_; rintro e w' ⟨rfl, rfl⟩)
  refine (flagged2 _ _ (decide (a < b)) (subV a b) _ (by simp) (by simp) (by simp) (by simp) (by simp)).mono ?_
  rintro e w1 ⟨rfl, g1⟩
  go_wp2_with fail
  go_ret2
  exact ⟨rfl, kep_trans ((Kep.refl _).alloc _) g1⟩
theorem mul_range (a b : Int) (h0 : 0 ≤ a) (h1 : a < 4294967296) (h2 : 0 ≤ b) (h3 : b < 4294967296) : 0 ≤ a * b ∧ a * b ≤ 18446744065119617025 := by
  refine ⟨Int.mul_nonneg h0 h2, ?_⟩
  have := Int.mul_le_mul (show a ≤ 4294967295 by omega) (show b ≤ 4294967295 by omega) h2 (by omega)
  omega
theorem div_range (a b : Int) (h0 : 0 ≤ a) (h1 : a < 4294967296) (h2 : 0 < b) : 0 ≤ a / b ∧ a / b < 4294967296 := by
  refine ⟨Int.ediv_nonneg h0 (by omega), ?_⟩
  have := Int.ediv_le_self b h0
  omega
theorem tdiv_is (a b : Int) (h0 : 0 ≤ a) (h1 : a < 4294967296) (h2 : 0 < b) : a.tdiv b % 4294967296 = a / b := by
  have := div_range a b h0 h1 h2
  rw [Int.tdiv_eq_ediv_of_nonneg h0]; omega
theorem tmod_is (a b : Int) (h0 : 0 ≤ a) : a.tmod b = a % b := Int.tmod_eq_emod_of_nonneg h0
set_option maxHeartbeats 400000 in
theorem product_any (a b : Int) (w : World) (h0 : 0 ≤ a) (h1 : a < 4294967296) (h2 : 0 ≤ b) (h3 : b < 4294967296) :
    Calls Tryz.prog 175 #[.int .u32 a, .int .u32 b] w fun e w' => e = .returned (.tuple #[.int .u32 (a * b % 4294967296), .int .u32 (a * b / 4294967296)]) ∧ w' = w := by
  have hp := mul_range a b h0 h1 h2 h3
  go_enter Tryz.func175, Tryz.ntmps175
  go_wp2
  go_ret2
  exact ⟨rfl, rfl⟩
set_option maxHeartbeats 400000 in
theorem mul_any (a b : Int) (w : World) (h0 : 0 ≤ a) (h1 : a < 4294967296) (h2 : 0 ≤ b) (h3 : b < 4294967296) :
    Calls Tryz.prog 162 #[.int .u32 a, .int .u32 b] w fun e w' => e = .returned (.tuple #[.int .u32 (a * b % 4294967296), .int .u32 (fl (a * b % 4294967296) (decide (4294967296 ≤ a * b)) false)]) ∧ Kep w w' := by
  have hp := mul_range a b h0 h1 h2 h3
  have ec : (a * b / 4294967296 != 0) = decide (4294967296 ≤ a * b) := by rw [Bool.eq_iff_iff]; simp; omega
  go_enter Tryz.func162, Tryz.ntmps162
  go_wp2_with (go_at_call 175; refine (product_any _ _ _ (by omega) (by omega) (by omega) (by omega)).mono ?_; rintro e w' ⟨rfl, rfl⟩)
  refine (flagged1 _ _ (decide (4294967296 ≤ a * b)) _ (by simp) (by simp) (by simp)).mono ?_
  rintro e w1 ⟨rfl, g1⟩
  go_wp2_with fail
  go_ret2
  exact ⟨rfl, kep_trans ((Kep.refl _).alloc _) g1⟩
set_option maxHeartbeats 400000 in
theorem mulh_any (a b : Int) (w : World) (h0 : 0 ≤ a) (h1 : a < 4294967296) (h2 : 0 ≤ b) (h3 : b < 4294967296) :
    Calls Tryz.prog 165 #[.int .u32 a, .int .u32 b] w fun e w' => e = .returned (.tuple #[.int .u32 (a * b / 4294967296), .int .u32 (fl (a * b / 4294967296) false false)]) ∧ Kep w w' := by
  go_enter Tryz.func165, Tryz.ntmps165
  go_wp2_with (first | (go_at_call 175; refine (product_any _ _ _ (by omega) (by omega) (by omega) (by omega)).mono ?_; rintro e w' ⟨rfl, rfl⟩) | (go_at_call 170; refine (flagged0 _ _).mono ?_; rintro e w' ⟨rfl, g1⟩))
  go_ret2
  exact ⟨rfl, ‹_›⟩
set_option maxHeartbeats 400000 in
theorem div_no (a : Int) (w : World) :
    Calls Tryz.prog 166 #[.int .u32 a, .int .u32 0] w fun e w' => e = .returned (.tuple #[.int .u32 0, .int .u32 0, .bool false]) ∧ w' = w := by
  go_enter Tryz.func166, Tryz.ntmps166
  go_wp2
  go_ret3
  exact ⟨rfl, rfl⟩
set_option maxHeartbeats 400000 in
theorem div_any (a b : Int) (w : World) (h0 : 0 ≤ a) (h1 : a < 4294967296) (h2 : 0 < b) :
    Calls Tryz.prog 166 #[.int .u32 a, .int .u32 b] w fun e w' => e = .returned (.tuple #[.int .u32 (a / b), .int .u32 (fl (a / b) false false), .bool true]) ∧ Kep w w' := by
  have hb : (b == 0) = false := by rw [beq_eq_false_iff_ne]; omega
  have ht := tdiv_is a b h0 h1 h2
  have hu := tmod_is a b h0
  go_enter Tryz.func166, Tryz.ntmps166
  go_wp2_with (go_at_call 170; refine (flagged0 _ _).mono ?_; rintro e w' ⟨rfl, g1⟩)
  go_ret3
  exact ⟨rfl, ‹_›⟩
set_option maxHeartbeats 400000 in
theorem rem_no (a : Int) (w : World) :
    Calls Tryz.prog 167 #[.int .u32 a, .int .u32 0] w fun e w' => e = .returned (.tuple #[.int .u32 0, .int .u32 0, .bool false]) ∧ w' = w := by
  go_enter Tryz.func167, Tryz.ntmps167
  go_wp2
  go_ret3
  exact ⟨rfl, rfl⟩
set_option maxHeartbeats 400000 in
theorem rem_any (a b : Int) (w : World) (h0 : 0 ≤ a) (h1 : a < 4294967296) (h2 : 0 < b) :
    Calls Tryz.prog 167 #[.int .u32 a, .int .u32 b] w fun e w' => e = .returned (.tuple #[.int .u32 (a % b), .int .u32 (fl (a % b) false false), .bool true]) ∧ Kep w w' := by
  have hb : (b == 0) = false := by rw [beq_eq_false_iff_ne]; omega
  have ht := tdiv_is a b h0 h1 h2
  have hu := tmod_is a b h0
  go_enter Tryz.func167, Tryz.ntmps167
  go_wp2_with (go_at_call 170; refine (flagged0 _ _).mono ?_; rintro e w' ⟨rfl, g1⟩)
  go_ret3
  exact ⟨rfl, ‹_›⟩
set_option maxHeartbeats 400000 in
theorem round_any (p n : Nat) (w : World) (hp : p < 4294967296) (h1 : 1 ≤ n) (h2 : n ≤ 31) :
    Calls Tryz.prog 176 #[.int .u32 p, .int .u32 n] w fun e w' => e = .returned (.tuple #[.int .u32 (rorI p n), .int .u32 (ob p (n - 1))]) ∧ w' = w := by
  have e1 := round_val p n hp (by omega)
  have e2 := round_out p n hp h1 h2
  go_enter Tryz.func176, Tryz.ntmps176
  go_wp2
  go_ret2
  exact ⟨rfl, rfl⟩
set_option maxHeartbeats 400000 in
theorem down_any (p n : Nat) (w : World) (hp : p < 4294967296) (h1 : 1 ≤ n) (h2 : n ≤ 31) :
    Calls Tryz.prog 174 #[.int .u32 p, .int .u32 n] w fun e w' => e = .returned (.tuple #[.int .u32 (shrI p n), .int .u32 (ob p (n - 1))]) ∧ w' = w := by
  have e1 := down_val p n hp (by omega)
  go_enter Tryz.func174, Tryz.ntmps174
  go_wp2_with fail
  refine (round_any _ _ _ hp h1 h2).mono ?_
  rintro e w' ⟨rfl, rfl⟩
  go_wp2_with fail
  go_ret2
  exact ⟨rfl, rfl⟩
set_option maxHeartbeats 400000 in
theorem up_any (p n : Nat) (w : World) (hp : p < 4294967296) (h1 : 1 ≤ n) (h2 : n ≤ 31) :
    Calls Tryz.prog 173 #[.int .u32 p, .int .u32 n] w fun e w' => e = .returned (.tuple #[.int .u32 (shlI p n), .int .u32 (ob p (32 - n))]) ∧ w' = w := by
  have e1 := up_val p n hp (by omega)
  have e2 := up_out p n hp h1 (by omega)
  go_enter Tryz.func173, Tryz.ntmps173
  go_wp2_with fail
  rw [show (32 - (n : Int)) = ((32 - n : Nat) : Int) by omega]
  refine (round_any _ _ _ hp (by omega) (by omega)).mono ?_
  rintro e w' ⟨rfl, rfl⟩
  go_wp2_with fail
  go_ret2
  exact ⟨rfl, rfl⟩
set_option maxHeartbeats 400000 in
theorem shl_any (a k : Nat) (n : Int) (w : World) (ha : a < 4294967296) (h0 : 0 ≤ n) (h1 : n < 4294967296) (hk : n % 32 = (k : Int)) :
    Calls Tryz.prog 160 #[.int .u32 a, .int .u32 n] w fun e w' => e = .returned (.tuple #[.int .u32 (shlI a k), .int .u32 (fl (shlI a k) (outUp a k) false)]) ∧ Kep w w' := by
  have hb : k < 32 := by omega
  by_cases hz : k = 0
  · subst hz
    have hk0 : n % 32 = 0 := hk
    clear hk
    go_enter Tryz.func160, Tryz.ntmps160
    go_wp2_with (first | (go_at_call 172; go_in) | (go_at_call 170; refine (flagged0 _ _).mono ?_; rintro e w' ⟨rfl, g1⟩))
    go_ret2
    exact ⟨by rw [shlI_zero a ha]; rfl, ‹_›⟩
  · have hk0 : ((k : Int) == 0) = false := by rw [beq_eq_false_iff_ne]; omega
    have hc : (ob a (32 - k) == 1) = outUp a k := by rw [ob_one]; unfold outUp; simp [hz]
    go_enter Tryz.func160, Tryz.ntmps160
    go_wp2_with (first | (go_at_call 172; go_in) | (go_at_call 173; refine (up_any _ _ _ ha (by omega) (by omega)).mono ?_; rintro e w' ⟨rfl, rfl⟩))
    refine (flagged1 _ _ (outUp a k) _ (by simp) (by simp) (by simp)).mono ?_
    rintro e w1 ⟨rfl, g1⟩
    go_wp2_with fail
    go_ret2
    exact ⟨rfl, kep_trans ((Kep.refl _).alloc _) g1⟩
set_option maxHeartbeats 400000 in
theorem shr_any (a k : Nat) (n : Int) (w : World) (ha : a < 4294967296) (h0 : 0 ≤ n) (h1 : n < 4294967296) (hk : n % 32 = (k : Int)) :
    Calls Tryz.prog 161 #[.int .u32 a, .int .u32 n] w fun e w' => e = .returned (.tuple #[.int .u32 (shrI a k), .int .u32 (fl (shrI a k) (outDown a k) false)]) ∧ Kep w w' := by
  have hb : k < 32 := by omega
  by_cases hz : k = 0
  · subst hz
    have hk0 : n % 32 = 0 := hk
    clear hk
    go_enter Tryz.func161, Tryz.ntmps161
    go_wp2_with (first | (go_at_call 172; go_in) | (go_at_call 170; refine (flagged0 _ _).mono ?_; rintro e w' ⟨rfl, g1⟩))
    go_ret2
    exact ⟨by rw [shrI_zero a]; rfl, ‹_›⟩
  · have hk0 : ((k : Int) == 0) = false := by rw [beq_eq_false_iff_ne]; omega
    have hc : (ob a (k - 1) == 1) = outDown a k := by rw [ob_one]; unfold outDown; simp [hz]
    go_enter Tryz.func161, Tryz.ntmps161
    go_wp2_with (first | (go_at_call 172; go_in) | (go_at_call 174; refine (down_any _ _ _ ha (by omega) (by omega)).mono ?_; rintro e w' ⟨rfl, rfl⟩))
    refine (flagged1 _ _ (outDown a k) _ (by simp) (by simp) (by simp)).mono ?_
    rintro e w1 ⟨rfl, g1⟩
    go_wp2_with fail
    go_ret2
    exact ⟨rfl, kep_trans ((Kep.refl _).alloc _) g1⟩
set_option maxHeartbeats 400000 in
theorem ror_any (a k : Nat) (n : Int) (w : World) (ha : a < 4294967296) (h0 : 0 ≤ n) (h1 : n < 4294967296) (hk : n % 32 = (k : Int)) :
    Calls Tryz.prog 163 #[.int .u32 a, .int .u32 n] w fun e w' => e = .returned (.tuple #[.int .u32 (rorI a k), .int .u32 (fl (rorI a k) (outDown a k) false)]) ∧ Kep w w' := by
  have hb : k < 32 := by omega
  by_cases hz : k = 0
  · subst hz
    have hk0 : n % 32 = 0 := hk
    clear hk
    go_enter Tryz.func163, Tryz.ntmps163
    go_wp2_with (first | (go_at_call 172; go_in) | (go_at_call 170; refine (flagged0 _ _).mono ?_; rintro e w' ⟨rfl, g1⟩))
    go_ret2
    exact ⟨by rw [rorI_zero a]; rfl, ‹_›⟩
  · have hk0 : ((k : Int) == 0) = false := by rw [beq_eq_false_iff_ne]; omega
    have hc : (ob a (k - 1) == 1) = outDown a k := by rw [ob_one]; unfold outDown; simp [hz]
    go_enter Tryz.func163, Tryz.ntmps163
    go_wp2_with (first | (go_at_call 172; go_in) | (go_at_call 176; refine (round_any _ _ _ ha (by omega) (by omega)).mono ?_; rintro e w' ⟨rfl, rfl⟩))
    refine (flagged1 _ _ (outDown a k) _ (by simp) (by simp) (by simp)).mono ?_
    rintro e w1 ⟨rfl, g1⟩
    go_wp2_with fail
    go_ret2
    exact ⟨rfl, kep_trans ((Kep.refl _).alloc _) g1⟩
set_option maxHeartbeats 400000 in
theorem downSigned_any (p n : Nat) (w : World) (hp : p < 4294967296) (h1 : 1 ≤ n) (h2 : n ≤ 31) :
    Calls Tryz.prog 177 #[.int .u32 p, .int .u32 n] w fun e w' => e = .returned (.tuple #[.int .u32 (sarI p n), .int .u32 (ob p (n - 1))]) ∧ w' = w := by
  by_cases hn : (p : Int) < 2147483648
  · have e1 : Hid (sarI p n = shrI p n) := sarI_below p n (by omega)
    go_enter Tryz.func177, Tryz.ntmps177
    go_wp2_with (go_at_call 174; refine (down_any _ _ _ hp h1 h2).mono ?_; rintro e w' ⟨rfl, rfl⟩)
    go_ret2
    exact ⟨ret_two e1.out.symm rfl, rfl⟩
  · have hr := shrI_range (4294967295 - p) n (by omega)
    have e1 : bits .xor .u32 IntKind.u32.max (shrI (4294967295 - p) n) = sarI p n := by rw [over_val _ hr.1 hr.2, sarI_above p n (by omega)]
    have e2 : bits .xor .u32 IntKind.u32.max (p : Int) = ((4294967295 - p : Nat) : Int) := by rw [over_val _ (by omega) (by omega)]; omega
    have e3 := ob_over p (n - 1) hp (by omega)
    have e4 := ob_range (4294967295 - p) (n - 1)
    have hq : 4294967295 - p < 4294967296 := by omega
    clear hr
    generalize 4294967295 - p = q at *
    go_enter Tryz.func177, Tryz.ntmps177
    go_wp2_with fail
    refine (down_any q n _ hq h1 h2).mono ?_
    rintro e w' ⟨rfl, rfl⟩
    go_wp2_with fail
    go_ret2
    exact ⟨rfl, rfl⟩
set_option maxHeartbeats 400000 in
theorem sar_any (a k : Nat) (n : Int) (w : World) (ha : a < 4294967296) (h0 : 0 ≤ n) (h1 : n < 4294967296) (hk : n % 32 = (k : Int)) :
    Calls Tryz.prog 164 #[.int .u32 a, .int .u32 n] w fun e w' => e = .returned (.tuple #[.int .u32 (sarI a k), .int .u32 (fl (sarI a k) (outDown a k) false)]) ∧ Kep w w' := by
  have hb : k < 32 := by omega
  by_cases hz : k = 0
  · subst hz
    have hk0 : n % 32 = 0 := hk
    clear hk
    go_enter Tryz.func164, Tryz.ntmps164
    go_wp2_with (first | (go_at_call 172; go_in) | (go_at_call 170; refine (flagged0 _ _).mono ?_; rintro e w' ⟨rfl, g1⟩))
    go_ret2
    exact ⟨by rw [sarI_zero a ha]; rfl, ‹_›⟩
  · have hk0 : ((k : Int) == 0) = false := by rw [beq_eq_false_iff_ne]; omega
    have hc : (ob a (k - 1) == 1) = outDown a k := by rw [ob_one]; unfold outDown; simp [hz]
    go_enter Tryz.func164, Tryz.ntmps164
    go_wp2_with (first | (go_at_call 172; go_in) | (go_at_call 177; refine (downSigned_any _ _ _ ha (by omega) (by omega)).mono ?_; rintro e w' ⟨rfl, rfl⟩))
    refine (flagged1 _ _ (outDown a k) _ (by simp) (by simp) (by simp)).mono ?_
    rintro e w1 ⟨rfl, g1⟩
    go_wp2_with fail
    go_ret2
    exact ⟨rfl, kep_trans ((Kep.refl _).alloc _) g1⟩
set_option maxHeartbeats 400000 in
theorem sec_any (x y : Int) (w : World) :
    Calls Tryz.prog 153 #[.int .u32 x, .int .u32 y] w fun e w' => e = .returned (.tuple #[.int .u32 y, .int .u32 0]) ∧ Kep w w' := by
  go_enter Tryz.func153, Tryz.ntmps153
  go_wp2
  go_ret2
  exact ⟨rfl, Kep.refl _⟩
set_option maxHeartbeats 1600000 in
set_option maxRecDepth 100000 in
theorem alw_any (op : Int) (hop : 16 ≤ op ∧ op ≤ 33 ∧ op ≠ 25 ∧ op ≠ 30) (x y : Int) (hx : 0 ≤ x ∧ x < 4294967296) (hy : 0 ≤ y ∧ y < 4294967296) (g : Nat) (w : World) (hc : w.cell? ⟨g, 0, none⟩ = some (fnV (fnOf op))) :
    Calls Tryz.prog 169 #[.int .u32 x, .int .u32 y, .pointer (some ⟨g, 0, none⟩)] w fun e w' => e = .returned (.tuple #[.int .u32 (alu op x y).1, .int .u32 (alu op x y).2, .bool true]) ∧ Kep w w' := by
  obtain ⟨m, rfl⟩ : ∃ m : Nat, x = m := ⟨x.toNat, by omega⟩
  have hk : y % 32 = ((y % 32).toNat : Int) := by omega
  rcases ops16 hop with rfl | rfl | rfl | rfl | rfl | rfl | rfl | rfl | rfl | rfl | rfl | rfl | rfl | rfl | rfl | rfl
  all_goals
    clear hop
    simp [fnOf] at hc
    go_enter Tryz.func169, Tryz.ntmps169
    go_wp2_with fail
    first
      | refine (sec_any _ _ _).mono ?_
      | refine (add_any _ _ _ (by omega) (by omega) (by omega) (by omega)).mono ?_
      | refine (sub_any _ _ _ (by omega) (by omega) (by omega) (by omega)).mono ?_
      | refine (and_any _ _ _).mono ?_
      | refine (or_any _ _ _).mono ?_
      | refine (xor_any _ _ _).mono ?_
      | refine (shl_any m (y % 32).toNat _ _ (by omega) (by omega) (by omega) hk).mono ?_
      | refine (shr_any m (y % 32).toNat _ _ (by omega) (by omega) (by omega) hk).mono ?_
      | refine (mul_any _ _ _ (by omega) (by omega) (by omega) (by omega)).mono ?_
      | refine (ror_any m (y % 32).toNat _ _ (by omega) (by omega) (by omega) hk).mono ?_
      | refine (sar_any m (y % 32).toNat _ _ (by omega) (by omega) (by omega) hk).mono ?_
      | refine (mulh_any _ _ _ (by omega) (by omega) (by omega) (by omega)).mono ?_
    rintro e w1 ⟨rfl, K⟩
    have K' : Hid (Kep w w1) := K
    clear K hc hk hx hy
    go_wp2_with fail
    go_ret3
    exact ⟨by rfl, K'.out⟩
structure KW (w : World) where
  val : World
  ok : Kep w val
theorem region_kw {P : Program} {id : Nat} {Q : Exit → Act → World → Prop} {a : Act} {w : World} {l : List Oper} (hm : P.follows .mixedOrders = true) (hB : Region.lexB .any l.toArray = true)
    (h : wpQuiet P l.toArray (fun w' => ∃ i : KW w, w' = i.val) (fun a' => ∀ w', (∃ i : KW w, w' = i.val) → Q .normal a' w') l a) : (Code.region id l.toArray true).wp P Q a w :=
  wp_region_quiet (C := fun w' => ∃ i : KW w, w' = i.val) hm hB ⟨⟨_, (Kep.refl w).drew⟩, rfl⟩ (by simpa using h)
theorem KW.cell {w : World} {b o : Nat} {v : Value} (h : w.cell? ⟨b, o, none⟩ = some v) (i : KW w) : i.val.cell? ⟨b, o, none⟩ = some v := (i.ok.cell (World.block_lt_of_cell? w _ h)).trans h
theorem quiet_row {P : Program} {ops : Array Oper} {C : World → Prop} {Q : Act → Prop} {a : Act} {o : Oper} {rest : List Oper} (ty : TypeId) (x : Operand) (ho : o.op = .load ty x) (g : Nat) (hx : a.eval x = .pointer (some ⟨g, 0, none⟩)) (hw : Region.wanted o (yielded ops a.tmps) = true)
    (t : TypeId) (cs : Array Value) (fr : Nat × Nat) (d : TypeDesc) (hC : ∀ w, C w → w.heap[g]? = some (.cells cs t fr)) (hu : P.underlying ty = some d) (hd : (match d with | .struct _ | .array _ _ => true | _ => false) = true) (hi : (P.info? ty).map (·.size) = some cs.size)
    (h : wpQuiet P ops C Q rest (a.put o.dst (.agg cs))) : wpQuiet P ops C Q (o :: rest) a :=
  wpQuiet_step fun K hK => by
    rw [if_pos hw]
    refine ⟨.agg cs, fun w hc => ?_, hK _ h⟩
    unfold Oper.quietAt execOp
    simp only [ho, hx, Instr.loadAt, Instr.sureAddr, Sem.run_bind, Sem.run_pure, Result.andThen_ok, run_loadVar_row w g t ty cs fr d (hC w hc) hu hd hi]
    exact ⟨rfl, rfl⟩
theorem yields_row {P : Program} {ops : Array Oper} {S : World → Prop} {o : Oper} {a : Act} (hg : o.guard = none) (ty : TypeId) (x : Operand) (ho : o.op = .load ty x) (g : Nat) (hx : a.eval x = .pointer (some ⟨g, 0, none⟩)) (t : TypeId) (cs : Array Value) (fr : Nat × Nat) (d : TypeDesc)
    (hS : ∀ w, S w → w.heap[g]? = some (.cells cs t fr)) (hu : P.underlying ty = some d) (hd : (match d with | .struct _ | .array _ _ => true | _ => false) = true) (hi : (P.info? ty).map (·.size) = some cs.size) : YieldsIf P ops S o (.agg cs) a :=
  .inl ⟨by simp [Region.wanted, hg], fun w h => by
    unfold execOp
    simp only [ho, hx, Instr.loadAt, Instr.sureAddr, Sem.run_bind, Sem.run_pure, Result.andThen_ok, run_loadVar_row w g t ty cs fr d (hS w h) hu hd hi]⟩
end Go.Proofs.YtnignfloedcmlaaGreatDoor
