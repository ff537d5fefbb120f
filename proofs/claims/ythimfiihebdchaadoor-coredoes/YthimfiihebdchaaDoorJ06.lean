/- Part of a proof. -/
import Derived.Test.YthimfiihebdchaaDoorChecked
import Derived.WalkKit
import Derived.Handy
import Derived.Deep.QuietTactic
import Derived.BigQuiet
import Derived.Test.YthimfiihebdchaaDoorJ02
namespace Go.Proofs.YthimfiihebdchaaDoor
open Go.RowKit
set_option linter.unusedVariables false
set_option linter.unusedSimpArgs false
set_option maxHeartbeats 400000 in
theorem holds_any (c ps : Int) (w : World) (h0 : 0 ≤ ps) (h1 : ps < 4294967296) :
    Calls Tryd.prog 93 #[.int .i64 c, .int .u32 ps] w fun e w' => e = .returned (.bool (holdsB c ps)) ∧ w' = w := by
  have e1 := and16 ps h0 h1
  have e2 := and32 ps h0 h1
  have e3 := and64 ps h0 h1
  have e4 := and128 ps h0 h1
  go_enter Tryd.func93, Tryd.ntmps93
  go_wp2
  all_goals clear e1 e2 e3 e4
  all_goals go_ret
  all_goals exact ⟨ret_bool (by simp_all [holdsB]), rfl⟩
set_option maxHeartbeats 400000 in
theorem refHolds_any (c ps : Int) (w : World) (h0 : 0 ≤ ps) (h1 : ps < 4294967296) :
    Calls Tryd.prog 26 #[.int .i64 c, .int .u32 ps] w fun e w' => e = .returned (.bool (holdsB c ps)) ∧ w' = w := by
  have e1 : (ps / 16 % 2 == 1) = bitB ps 16 := rfl
  have e2 : (ps / 32 % 2 == 1) = bitB ps 32 := rfl
  have e3 : (ps / 64 % 2 == 1) = bitB ps 64 := rfl
  have e4 : (ps / 128 % 2 == 1) = bitB ps 128 := rfl
  go_enter Tryd.func26, Tryd.ntmps26
  go_wp2
  all_goals clear e1 e2 e3 e4
  all_goals go_ret
  all_goals exact ⟨ret_bool (by simp_all [holdsB]), rfl⟩
set_option maxHeartbeats 400000 in
theorem together0 (w : World) :
    Calls Tryd.prog 115 #[.slice none 0 0] w fun e w' => e = .returned (.int .u32 0) ∧ w' = w := by
  go_enter Tryd.func115, Tryd.ntmps115
  go_wp2
  go_rounds 1
  go_ret
  exact ⟨rfl, rfl⟩
set_option maxHeartbeats 400000 in
theorem together1 (b : Nat) (h0 : Bool) (w : World) (c0 : w.cell? ⟨b, 0, none⟩ = some (.int .u32 64)) (c1 : w.cell? ⟨b, 1, none⟩ = some (.bool h0)) :
    Calls Tryd.prog 115 #[.slice (some ⟨b, 0, none⟩) 1 1] w fun e w' => e = .returned (.int .u32 (wt h0 64)) ∧ Kep w w' := by
  cases h0
  all_goals
    go_enter Tryd.func115, Tryd.ntmps115
    go_wp2
    go_rounds 2
  all_goals go_ret
  all_goals exact ⟨ret_int (by decide), by repeat (first | exact Kep.refl _ | apply Kep.drew | apply Kep.alloc)⟩
set_option maxHeartbeats 400000 in
theorem together2 (b : Nat) (h0 h1 : Bool) (w : World) (hb : b < w.heap.size) (c0 : w.cell? ⟨b, 0, none⟩ = some (.int .u32 64)) (c1 : w.cell? ⟨b, 1, none⟩ = some (.bool h0))
    (c2 : w.cell? ⟨b, 2, none⟩ = some (.int .u32 128)) (c3 : w.cell? ⟨b, 3, none⟩ = some (.bool h1)) :
    Calls Tryd.prog 115 #[.slice (some ⟨b, 0, none⟩) 2 2] w fun e w' => e = .returned (.int .u32 (wt h0 64 + wt h1 128)) ∧ Kep w w' := by
  cases h0 <;> cases h1
  all_goals
    go_enter Tryd.func115, Tryd.ntmps115
    go_wp2
    go_rounds 3
  all_goals go_ret
  all_goals exact ⟨ret_int (by decide), by repeat (first | exact Kep.refl _ | apply Kep.drew | apply Kep.alloc)⟩
set_option maxHeartbeats 400000 in
theorem together2' (b : Nat) (h0 h1 : Bool) (w : World) (hb : b < w.heap.size) (c0 : w.cell? ⟨b, 0, none⟩ = some (.int .u32 16)) (c1 : w.cell? ⟨b, 1, none⟩ = some (.bool h0))
    (c2 : w.cell? ⟨b, 2, none⟩ = some (.int .u32 32)) (c3 : w.cell? ⟨b, 3, none⟩ = some (.bool h1)) :
    Calls Tryd.prog 115 #[.slice (some ⟨b, 0, none⟩) 2 2] w fun e w' => e = .returned (.int .u32 (wt h0 16 + wt h1 32)) ∧ Kep w w' := by
  cases h0 <;> cases h1
  all_goals
    go_enter Tryd.func115, Tryd.ntmps115
    go_wp2
    go_rounds 3
  all_goals go_ret
  all_goals exact ⟨ret_int (by decide), by repeat (first | exact Kep.refl _ | apply Kep.drew | apply Kep.alloc)⟩
theorem or_wt (a b c v : Bool) : bits .or .u32 (wt a 16 + wt b 32) (wt c 64 + wt v 128) = wt a 16 + wt b 32 + (wt c 64 + wt v 128) := by
  cases a <;> cases b <;> cases c <;> cases v <;> decide
theorem or_fl0 (r : Int) : bits .or .u32 (wt (r == 0) 16 + wt (decide (2147483648 ≤ r)) 32) 0 = fl r false false := by
  unfold fl; exact or_wt _ _ false false
theorem or_fl1 (r : Int) (c : Bool) : bits .or .u32 (wt (r == 0) 16 + wt (decide (2147483648 ≤ r)) 32) (wt c 64) = fl r c false := by
  unfold fl
  have := or_wt (r == 0) (decide (2147483648 ≤ r)) c false
  have e : wt c 64 + wt false 128 = wt c 64 := by simp [wt]
  rw [e] at this ⊢; exact this
theorem or_fl2 (r : Int) (c v : Bool) : bits .or .u32 (wt (r == 0) 16 + wt (decide (2147483648 ≤ r)) 32) (wt c 64 + wt v 128) = fl r c v := by
  unfold fl; exact or_wt _ _ _ _
set_option maxHeartbeats 400000 in
theorem flagged0 (r : Int) (w : World) :
    Calls Tryd.prog 99 #[.int .u32 r, .slice none 0 0] w fun e w' => e = .returned (.tuple #[.int .u32 r, .int .u32 (fl r false false)]) ∧ Kep w w' := by
  have ho := or_fl0 r
  go_enter Tryd.func99, Tryd.ntmps99
  go_wp2_with fail
  refine (together2' _ (r == 0) (decide (2147483648 ≤ r)) _ (by simp) (by simp) (by simp) (by simp) (by simp)).mono ?_
  rintro e w1 ⟨rfl, g1⟩
  go_wp2_with fail
  refine (together0 _).mono ?_
  rintro e w2 ⟨rfl, rfl⟩
  go_wp2_with fail
  go_ret2
  exact ⟨rfl, kep_trans ((Kep.refl _).alloc _) g1⟩
set_option maxHeartbeats 400000 in
theorem flagged1 (r : Int) (b : Nat) (c : Bool) (w : World) (hb : b < w.heap.size) (c0 : w.cell? ⟨b, 0, none⟩ = some (.int .u32 64)) (c1 : w.cell? ⟨b, 1, none⟩ = some (.bool c)) :
    Calls Tryd.prog 99 #[.int .u32 r, .slice (some ⟨b, 0, none⟩) 1 1] w fun e w' => e = .returned (.tuple #[.int .u32 r, .int .u32 (fl r c false)]) ∧ Kep w w' := by
  have ho := or_fl1 r c
  go_enter Tryd.func99, Tryd.ntmps99
  go_wp2_with fail
  refine (together2' _ (r == 0) (decide (2147483648 ≤ r)) _ (by simp) (by simp) (by simp) (by simp) (by simp)).mono ?_
  rintro e w1 ⟨rfl, g1⟩
  have g2 : Kep w w1 := kep_trans ((Kep.refl _).alloc _) g1
  clear g1
  go_wp2_with fail
  refine (together1 _ _ _ ((Kep.cell g2 hb).trans c0) ((Kep.cell g2 hb).trans c1)).mono ?_
  rintro e w2 ⟨rfl, g3⟩
  go_wp2_with fail
  go_ret2
  exact ⟨rfl, kep_trans g2 g3⟩
set_option maxHeartbeats 400000 in
theorem flagged2 (r : Int) (b : Nat) (c v : Bool) (w : World) (hb : b < w.heap.size) (c0 : w.cell? ⟨b, 0, none⟩ = some (.int .u32 64)) (c1 : w.cell? ⟨b, 1, none⟩ = some (.bool c))
    (c2 : w.cell? ⟨b, 2, none⟩ = some (.int .u32 128)) (c3 : w.cell? ⟨b, 3, none⟩ = some (.bool v)) :
    Calls Tryd.prog 99 #[.int .u32 r, .slice (some ⟨b, 0, none⟩) 2 2] w fun e w' => e = .returned (.tuple #[.int .u32 r, .int .u32 (fl r c v)]) ∧ Kep w w' := by
  have ho := or_fl2 r c v
  go_enter Tryd.func99, Tryd.ntmps99
  go_wp2_with fail
  refine (together2' _ (r == 0) (decide (2147483648 ≤ r)) _ (by simp) (by simp) (by simp) (by simp) (by simp)).mono ?_
  rintro e w1 ⟨rfl, g1⟩
  have g2 : Kep w w1 := kep_trans ((Kep.refl _).alloc _) g1
  clear g1
  go_wp2_with fail
  refine (together2 _ _ _ _ (Nat.lt_of_lt_of_le hb g2.size) ((Kep.cell g2 hb).trans c0) ((Kep.cell g2 hb).trans c1) ((Kep.cell g2 hb).trans c2) ((Kep.cell g2 hb).trans c3)).mono ?_
  rintro e w2 ⟨rfl, g3⟩
  go_wp2_with fail
  go_ret2
  exact ⟨rfl, kep_trans g2 g3⟩
theorem ret_two {k l : IntKind} {a b c d : Int} (h : a = c) (i : b = d) : Ending.returned (.tuple #[.int k a, .int l b]) = .returned (.tuple #[.int k c, .int l d]) := by rw [h, i]
set_option maxHeartbeats 400000 in
theorem signed_any (a : Int) (w : World) (h0 : 0 ≤ a) (h1 : a < 4294967296) :
    Calls Tryd.prog 100 #[.int .u32 a] w fun e w' => e = .returned (.int .i64 (sg a)) ∧ w' = w := by
  go_enter Tryd.func100, Tryd.ntmps100
  go_wp2
  go_ret
  exact ⟨ret_int (sg_wrap a h0 h1), rfl⟩
set_option maxHeartbeats 400000 in
theorem refSigned_any (a : Int) (w : World) (h0 : 0 ≤ a) (h1 : a < 4294967296) :
    Calls Tryd.prog 51 #[.int .u32 a] w fun e w' => e = .returned (.int .i64 (sg a)) ∧ w' = w := by
  go_enter Tryd.func51, Tryd.ntmps51
  go_wp2
  all_goals go_ret
  all_goals exact ⟨ret_int (by unfold sg; omega), rfl⟩
set_option maxHeartbeats 400000 in
theorem of_any (r : Int) (c v : Bool) (w : World) (h0 : 0 ≤ r) (h1 : r < 4294967296) :
    Calls Tryd.prog 50 #[.int .u32 r, .bool c, .bool v] w fun e w' => e = .returned (.int .u32 (fl r c v)) ∧ w' = w := by
  have hf : ∀ x y : Bool, (r == 0) = x → decide (2147483648 ≤ r) = y → fl r c v = wt x 16 + wt y 32 + (wt c 64 + wt v 128) := fun x y hx hy => by rw [← hx, ← hy]; rfl
  have Hf : Hid (∀ x y : Bool, (r == 0) = x → decide (2147483648 ≤ r) = y → fl r c v = wt x 16 + wt y 32 + (wt c 64 + wt v 128)) := hf
  clear hf
  have hsg := sg_neg r h0 h1
  by_cases hn : 2147483648 ≤ r
  · have hn' : Hid (decide (2147483648 ≤ r) = true) := by simpa [Hid] using hn
    have hs : sg r < 0 := hsg.2 hn
    clear hsg
    have hz : (r == 0) = false := by rw [beq_eq_false_iff_ne]; omega
    cases c <;> cases v
    all_goals
      go_enter Tryd.func50, Tryd.ntmps50
      go_wp2_with (go_at_call 51; refine (refSigned_any _ _ (by omega) (by omega)).mono ?_; rintro e w' ⟨rfl, rfl⟩)
    all_goals go_ret
    all_goals exact ⟨ret_int (by rw [Hf.out _ _ hz hn'.out]; rfl), rfl⟩
  · have hn' : Hid (decide (2147483648 ≤ r) = false) := by simpa [Hid] using hn
    have hs : ¬ sg r < 0 := fun h => hn (hsg.1 h)
    clear hsg
    cases hz : (r == 0) <;> cases c <;> cases v
    all_goals
      go_enter Tryd.func50, Tryd.ntmps50
      go_wp2_with (go_at_call 51; refine (refSigned_any _ _ (by omega) (by omega)).mono ?_; rintro e w' ⟨rfl, rfl⟩)
    all_goals go_ret
    all_goals exact ⟨ret_int (by rw [Hf.out _ _ hz hn'.out]; rfl), rfl⟩
set_option maxHeartbeats 400000 in
theorem and_any (a b : Int) (w : World) :
    Calls Tryd.prog 79 #[.int .u32 a, .int .u32 b] w fun e w' => e = .returned (.tuple #[.int .u32 (bits .and .u32 a b), .int .u32 (fl (bits .and .u32 a b) false false)]) ∧ Kep w w' := by
  go_enter Tryd.func79, Tryd.ntmps79
  go_wp2_with (go_at_call 99; refine (flagged0 _ _).mono ?_; rintro e w' ⟨rfl, g1⟩)
  go_ret2
  exact ⟨rfl, ‹_›⟩
set_option maxHeartbeats 400000 in
theorem or_any (a b : Int) (w : World) :
    Calls Tryd.prog 80 #[.int .u32 a, .int .u32 b] w fun e w' => e = .returned (.tuple #[.int .u32 (bits .or .u32 a b), .int .u32 (fl (bits .or .u32 a b) false false)]) ∧ Kep w w' := by
  go_enter Tryd.func80, Tryd.ntmps80
  go_wp2_with (go_at_call 99; refine (flagged0 _ _).mono ?_; rintro e w' ⟨rfl, g1⟩)
  go_ret2
  exact ⟨rfl, ‹_›⟩
set_option maxHeartbeats 400000 in
theorem xor_any (a b : Int) (w : World) :
    Calls Tryd.prog 81 #[.int .u32 a, .int .u32 b] w fun e w' => e = .returned (.tuple #[.int .u32 (bits .xor .u32 a b), .int .u32 (fl (bits .xor .u32 a b) false false)]) ∧ Kep w w' := by
  go_enter Tryd.func81, Tryd.ntmps81
  go_wp2_with (go_at_call 99; refine (flagged0 _ _).mono ?_; rintro e w' ⟨rfl, g1⟩)
  go_ret2
  exact ⟨rfl, ‹_›⟩
set_option maxHeartbeats 400000 in
theorem add_any (a b : Int) (w : World) (h0 : 0 ≤ a) (h1 : a < 4294967296) (h2 : 0 ≤ b) (h3 : b < 4294967296) :
    Calls Tryd.prog 77 #[.int .u32 a, .int .u32 b] w fun e w' => e = .returned (.tuple #[.int .u32 ((a + b) % 4294967296), .int .u32 (fl ((a + b) % 4294967296) (decide (4294967296 ≤ a + b)) (addV a b))]) ∧ Kep w w' := by
  have sa := sg_range a h0 h1
  have sb := sg_range b h2 h3
  have ec : decide ((a + b) % 4294967296 < a) = decide (4294967296 ≤ a + b) := by simp; omega
  have ev : (sg a + sg b != sg ((a + b) % 4294967296)) = addV a b := rfl
  go_enter Tryd.func77, Tryd.ntmps77
  go_wp2_with (go_at_call 100; refine (signed_any _ _ (by omega) (by omega)).mono ?_; rintro e w' ⟨rfl, rfl⟩)
  refine (flagged2 _ _ (decide (4294967296 ≤ a + b)) (addV a b) _ (by simp) (by simp) (by simp) (by simp) (by simp)).mono ?_
  rintro e w1 ⟨rfl, g1⟩
  go_wp2_with fail
  go_ret2
  exact ⟨rfl, kep_trans ((Kep.refl _).alloc _) g1⟩
set_option maxHeartbeats 400000 in
theorem sub_any (a b : Int) (w : World) (h0 : 0 ≤ a) (h1 : a < 4294967296) (h2 : 0 ≤ b) (h3 : b < 4294967296) :
    Calls Tryd.prog 78 #[.int .u32 a, .int .u32 b] w fun e w' => e = .returned (.tuple #[.int .u32 ((a - b) % 4294967296), .int .u32 (fl ((a - b) % 4294967296) (decide (a < b)) (subV a b))]) ∧ Kep w w' := by
  have sa := sg_range a h0 h1
  have sb := sg_range b h2 h3
  have ev : (sg a - sg b != sg ((a - b) % 4294967296)) = subV a b := rfl
  go_enter Tryd.func78, Tryd.ntmps78
  go_wp2_with (go_at_call 100; refine (signed_any _ _ (by omega) (by omega)).mono ?_; rintro e w' ⟨rfl, rfl⟩)
  refine (flagged2 _ _ (decide (a < b)) (subV a b) _ (by simp) (by simp) (by simp) (by simp) (by simp)).mono ?_
  rintro e w1 ⟨rfl, g1⟩
  go_wp2_with fail
  go_ret2
  exact ⟨rfl, kep_trans ((Kep.refl _).alloc _) g1⟩
set_option maxHeartbeats 400000 in
theorem refAdd_any (a b : Int) (w : World) (h0 : 0 ≤ a) (h1 : a < 4294967296) (h2 : 0 ≤ b) (h3 : b < 4294967296) :
    Calls Tryd.prog 23 #[.int .u32 a, .int .u32 b] w fun e w' => e = .returned (.tuple #[.int .u32 ((a + b) % 4294967296), .int .u32 (fl ((a + b) % 4294967296) (decide (4294967296 ≤ a + b)) (addV a b))]) ∧ w' = w := by
  have sa := sg_range a h0 h1
  have sb := sg_range b h2 h3
  have ev : (sg a + sg b != sg ((a + b) % 4294967296)) = addV a b := rfl
  go_enter Tryd.func23, Tryd.ntmps23
  go_wp2_with (first | (go_at_call 51; refine (refSigned_any _ _ (by omega) (by omega)).mono ?_; rintro e w' ⟨rfl, rfl⟩) | (go_at_call 50; refine (of_any _ _ _ _ (by omega) (by omega)).mono ?_; rintro e w' ⟨rfl, rfl⟩))
  go_ret2
  exact ⟨rfl, rfl⟩
set_option maxHeartbeats 400000 in
theorem refSub_any (a b : Int) (w : World) (h0 : 0 ≤ a) (h1 : a < 4294967296) (h2 : 0 ≤ b) (h3 : b < 4294967296) :
    Calls Tryd.prog 42 #[.int .u32 a, .int .u32 b] w fun e w' => e = .returned (.tuple #[.int .u32 ((a - b) % 4294967296), .int .u32 (fl ((a - b) % 4294967296) (decide (a < b)) (subV a b))]) ∧ w' = w := by
  have sa := sg_range a h0 h1
  have sb := sg_range b h2 h3
  by_cases hlt : a < b
  · have e1 : a - b + 4294967296 = (a - b) % 4294967296 := by omega
    have ev : (sg a - sg b != sg ((a - b) % 4294967296)) = subV a b := rfl
    go_enter Tryd.func42, Tryd.ntmps42
    go_wp2_with (first | (go_at_call 51; refine (refSigned_any _ _ (by omega) (by omega)).mono ?_; rintro e w' ⟨rfl, rfl⟩) | (go_at_call 50; refine (of_any _ _ _ _ (by omega) (by omega)).mono ?_; rintro e w' ⟨rfl, rfl⟩))
    go_ret2
    exact ⟨ret_two rfl (by rw [decide_eq_true hlt]), rfl⟩
  · have ev : (sg a - sg b != sg (a - b)) = subV a b := by unfold subV; rw [show (a - b) % 4294967296 = a - b from by omega]
    have e1 : (a - b) % 4294967296 = a - b := by omega
    go_enter Tryd.func42, Tryd.ntmps42
    go_wp2_with (first | (go_at_call 51; refine (refSigned_any _ _ (by omega) (by omega)).mono ?_; rintro e w' ⟨rfl, rfl⟩) | (go_at_call 50; refine (of_any _ _ _ _ (by omega) (by omega)).mono ?_; rintro e w' ⟨rfl, rfl⟩))
    go_ret2
    exact ⟨ret_two e1.symm (by rw [e1, decide_eq_false (by omega : ¬ a < b)]), rfl⟩
theorem mul_range (a b : Int) (h0 : 0 ≤ a) (h1 : a < 4294967296) (h2 : 0 ≤ b) (h3 : b < 4294967296) : 0 ≤ a * b ∧ a * b ≤ 18446744065119617025 := by
  refine ⟨Int.mul_nonneg h0 h2, ?_⟩
  have := Int.mul_le_mul (show a ≤ 4294967295 by omega) (show b ≤ 4294967295 by omega) h2 (by omega)
  omega
theorem div_range (a b : Int) (h0 : 0 ≤ a) (h1 : a < 4294967296) (h2 : 0 < b) : 0 ≤ a / b ∧ a / b < 4294967296 := by
  refine ⟨Int.ediv_nonneg h0 (by omega), ?_⟩
  have := Int.ediv_le_self b h0
  omega
theorem rest_range (a b : Int) (h0 : 0 ≤ a) (h1 : a < 4294967296) (h2 : 0 < b) : 0 ≤ a / b * b ∧ a / b * b ≤ a ∧ 0 ≤ a % b ∧ a % b < b ∧ a % b < 4294967296 := by
  have e := Int.mul_ediv_add_emod a b
  have e1 := Int.emod_nonneg a (show b ≠ 0 by omega)
  have e2 := Int.emod_lt_of_pos a h2
  have e3 := Int.mul_nonneg (Int.ediv_nonneg h0 (show 0 ≤ b by omega)) (show 0 ≤ b by omega)
  rw [Int.mul_comm] at e
  omega
theorem rest_is (a b : Int) : a - a / b * b = a % b := by
  have e := Int.mul_ediv_add_emod a b
  rw [Int.mul_comm] at e
  omega
theorem tdiv_is (a b : Int) (h0 : 0 ≤ a) (h1 : a < 4294967296) (h2 : 0 < b) : a.tdiv b % 4294967296 = a / b := by
  have := div_range a b h0 h1 h2
  rw [Int.tdiv_eq_ediv_of_nonneg h0]; omega
theorem tmod_is (a b : Int) (h0 : 0 ≤ a) : a.tmod b = a % b := Int.tmod_eq_emod_of_nonneg h0
theorem grown_drewN (w : World) (n : Nat) : Kep w (w.drewN n) := (Kep.refl _).drewN _
set_option maxHeartbeats 400000 in
theorem product_any (a b : Int) (w : World) (h0 : 0 ≤ a) (h1 : a < 4294967296) (h2 : 0 ≤ b) (h3 : b < 4294967296) :
    Calls Tryd.prog 104 #[.int .u32 a, .int .u32 b] w fun e w' => e = .returned (.tuple #[.int .u32 (a * b % 4294967296), .int .u32 (a * b / 4294967296)]) ∧ w' = w := by
  have hp := mul_range a b h0 h1 h2 h3
  go_enter Tryd.func104, Tryd.ntmps104
  go_wp2
  go_ret2
  exact ⟨rfl, rfl⟩
set_option maxHeartbeats 400000 in
theorem mul_any (a b : Int) (w : World) (h0 : 0 ≤ a) (h1 : a < 4294967296) (h2 : 0 ≤ b) (h3 : b < 4294967296) :
    Calls Tryd.prog 84 #[.int .u32 a, .int .u32 b] w fun e w' => e = .returned (.tuple #[.int .u32 (a * b % 4294967296), .int .u32 (fl (a * b % 4294967296) (decide (4294967296 ≤ a * b)) false)]) ∧ Kep w w' := by
  have hp := mul_range a b h0 h1 h2 h3
  have ec : (a * b / 4294967296 != 0) = decide (4294967296 ≤ a * b) := by rw [Bool.eq_iff_iff]; simp; omega
  go_enter Tryd.func84, Tryd.ntmps84
  go_wp2_with (go_at_call 104; refine (product_any _ _ _ (by omega) (by omega) (by omega) (by omega)).mono ?_; rintro e w' ⟨rfl, rfl⟩)
  refine (flagged1 _ _ (decide (4294967296 ≤ a * b)) _ (by simp) (by simp) (by simp)).mono ?_
  rintro e w1 ⟨rfl, g1⟩
  go_wp2_with fail
  go_ret2
  exact ⟨rfl, kep_trans ((Kep.refl _).alloc _) g1⟩
set_option maxHeartbeats 400000 in
theorem mulh_any (a b : Int) (w : World) (h0 : 0 ≤ a) (h1 : a < 4294967296) (h2 : 0 ≤ b) (h3 : b < 4294967296) :
    Calls Tryd.prog 87 #[.int .u32 a, .int .u32 b] w fun e w' => e = .returned (.tuple #[.int .u32 (a * b / 4294967296), .int .u32 (fl (a * b / 4294967296) false false)]) ∧ Kep w w' := by
  go_enter Tryd.func87, Tryd.ntmps87
  go_wp2_with (first | (go_at_call 104; refine (product_any _ _ _ (by omega) (by omega) (by omega) (by omega)).mono ?_; rintro e w' ⟨rfl, rfl⟩) | (go_at_call 99; refine (flagged0 _ _).mono ?_; rintro e w' ⟨rfl, g1⟩))
  go_ret2
  exact ⟨rfl, ‹_›⟩
set_option maxHeartbeats 400000 in
theorem div_no (a : Int) (w : World) :
    Calls Tryd.prog 88 #[.int .u32 a, .int .u32 0] w fun e w' => e = .returned (.tuple #[.int .u32 0, .int .u32 0, .bool false]) ∧ w' = w := by
  go_enter Tryd.func88, Tryd.ntmps88
  go_wp2
  go_ret3
  exact ⟨rfl, rfl⟩
set_option maxHeartbeats 400000 in
theorem div_any (a b : Int) (w : World) (h0 : 0 ≤ a) (h1 : a < 4294967296) (h2 : 0 < b) :
    Calls Tryd.prog 88 #[.int .u32 a, .int .u32 b] w fun e w' => e = .returned (.tuple #[.int .u32 (a / b), .int .u32 (fl (a / b) false false), .bool true]) ∧ Kep w w' := by
  have hb : (b == 0) = false := by rw [beq_eq_false_iff_ne]; omega
  have ht := tdiv_is a b h0 h1 h2
  have hu := tmod_is a b h0
  go_enter Tryd.func88, Tryd.ntmps88
  go_wp2_with (go_at_call 99; refine (flagged0 _ _).mono ?_; rintro e w' ⟨rfl, g1⟩)
  go_ret3
  exact ⟨rfl, ‹_›⟩
set_option maxHeartbeats 400000 in
theorem rem_no (a : Int) (w : World) :
    Calls Tryd.prog 89 #[.int .u32 a, .int .u32 0] w fun e w' => e = .returned (.tuple #[.int .u32 0, .int .u32 0, .bool false]) ∧ w' = w := by
  go_enter Tryd.func89, Tryd.ntmps89
  go_wp2
  go_ret3
  exact ⟨rfl, rfl⟩
set_option maxHeartbeats 400000 in
theorem rem_any (a b : Int) (w : World) (h0 : 0 ≤ a) (h1 : a < 4294967296) (h2 : 0 < b) :
    Calls Tryd.prog 89 #[.int .u32 a, .int .u32 b] w fun e w' => e = .returned (.tuple #[.int .u32 (a % b), .int .u32 (fl (a % b) false false), .bool true]) ∧ Kep w w' := by
  have hb : (b == 0) = false := by rw [beq_eq_false_iff_ne]; omega
  have ht := tdiv_is a b h0 h1 h2
  have hu := tmod_is a b h0
  go_enter Tryd.func89, Tryd.ntmps89
  go_wp2_with (go_at_call 99; refine (flagged0 _ _).mono ?_; rintro e w' ⟨rfl, g1⟩)
  go_ret3
  exact ⟨rfl, ‹_›⟩
set_option maxHeartbeats 400000 in
theorem refMul_any (a b : Int) (w : World) (h0 : 0 ≤ a) (h1 : a < 4294967296) (h2 : 0 ≤ b) (h3 : b < 4294967296) :
    Calls Tryd.prog 48 #[.int .u32 a, .int .u32 b] w fun e w' => e = .returned (.tuple #[.int .u32 (a * b % 4294967296), .int .u32 (fl (a * b % 4294967296) (decide (4294967296 ≤ a * b)) false)]) ∧ w' = w := by
  have hp := mul_range a b h0 h1 h2 h3
  go_enter Tryd.func48, Tryd.ntmps48
  go_wp2_with (go_at_call 50; refine (of_any _ _ _ _ (by omega) (by omega)).mono ?_; rintro e w' ⟨rfl, rfl⟩)
  go_ret2
  exact ⟨rfl, rfl⟩
set_option maxHeartbeats 400000 in
theorem refMulh_any (a b : Int) (w : World) (h0 : 0 ≤ a) (h1 : a < 4294967296) (h2 : 0 ≤ b) (h3 : b < 4294967296) :
    Calls Tryd.prog 45 #[.int .u32 a, .int .u32 b] w fun e w' => e = .returned (.tuple #[.int .u32 (a * b / 4294967296), .int .u32 (fl (a * b / 4294967296) false false)]) ∧ w' = w := by
  have hp := mul_range a b h0 h1 h2 h3
  go_enter Tryd.func45, Tryd.ntmps45
  go_wp2_with (go_at_call 50; refine (of_any _ _ _ _ (by omega) (by omega)).mono ?_; rintro e w' ⟨rfl, rfl⟩)
  go_ret2
  exact ⟨rfl, rfl⟩
set_option maxHeartbeats 400000 in
theorem refDiv_no (a : Int) (w : World) :
    Calls Tryd.prog 49 #[.int .u32 a, .int .u32 0] w fun e w' => e = .returned (.tuple #[.int .u32 0, .int .u32 0, .bool false]) ∧ w' = w := by
  go_enter Tryd.func49, Tryd.ntmps49
  go_wp2
  go_ret3
  exact ⟨rfl, rfl⟩
set_option maxHeartbeats 400000 in
theorem refDiv_any (a b : Int) (w : World) (h0 : 0 ≤ a) (h1 : a < 4294967296) (h2 : 0 < b) :
    Calls Tryd.prog 49 #[.int .u32 a, .int .u32 b] w fun e w' => e = .returned (.tuple #[.int .u32 (a / b), .int .u32 (fl (a / b) false false), .bool true]) ∧ Kep w w' := by
  have hb : (b == 0) = false := by rw [beq_eq_false_iff_ne]; omega
  have ht := tdiv_is a b h0 h1 h2
  have hu := tmod_is a b h0
  have hd := div_range a b h0 h1 h2
  go_enter Tryd.func49, Tryd.ntmps49
  go_wp2_with fail
  go_quiet ((go_at_call 50; exact Calls.quiet_of_same (of_any _ _ _ _ (by omega) (by omega))))
  go_wp2
  go_ret3
  exact ⟨rfl, grown_drewN _ _⟩
set_option maxHeartbeats 400000 in
theorem refRem_no (a : Int) (w : World) :
    Calls Tryd.prog 46 #[.int .u32 a, .int .u32 0] w fun e w' => e = .returned (.tuple #[.int .u32 0, .int .u32 0, .bool false]) ∧ w' = w := by
  go_enter Tryd.func46, Tryd.ntmps46
  go_wp2
  go_ret3
  exact ⟨rfl, rfl⟩
set_option maxHeartbeats 400000 in
theorem refRem_any (a b : Int) (w : World) (h0 : 0 ≤ a) (h1 : a < 4294967296) (h2 : 0 < b) :
    Calls Tryd.prog 46 #[.int .u32 a, .int .u32 b] w fun e w' => e = .returned (.tuple #[.int .u32 (a % b), .int .u32 (fl (a % b) false false), .bool true]) ∧ w' = w := by
  have hb : (b == 0) = false := by rw [beq_eq_false_iff_ne]; omega
  have ht := tdiv_is a b h0 h1 h2
  have hu := tmod_is a b h0
  have hd := div_range a b h0 h1 h2
  have hq := rest_range a b h0 h1 h2
  have hm := rest_is a b
  go_enter Tryd.func46, Tryd.ntmps46
  go_wp2_with (go_at_call 50; refine (of_any _ _ _ _ (by omega) (by omega)).mono ?_; rintro e w' ⟨rfl, rfl⟩)
  go_ret3
  exact ⟨rfl, rfl⟩
set_option maxHeartbeats 400000 in
theorem round_any (p n : Nat) (w : World) (hp : p < 4294967296) (h1 : 1 ≤ n) (h2 : n ≤ 31) :
    Calls Tryd.prog 105 #[.int .u32 p, .int .u32 n] w fun e w' => e = .returned (.tuple #[.int .u32 (rorI p n), .int .u32 (ob p (n - 1))]) ∧ w' = w := by
  have e1 := round_val p n hp (by omega)
  have e2 := round_out p n hp h1 h2
  go_enter Tryd.func105, Tryd.ntmps105
  go_wp2
  go_ret2
  exact ⟨rfl, rfl⟩
set_option maxHeartbeats 400000 in
theorem down_any (p n : Nat) (w : World) (hp : p < 4294967296) (h1 : 1 ≤ n) (h2 : n ≤ 31) :
    Calls Tryd.prog 103 #[.int .u32 p, .int .u32 n] w fun e w' => e = .returned (.tuple #[.int .u32 (shrI p n), .int .u32 (ob p (n - 1))]) ∧ w' = w := by
  have e1 := down_val p n hp (by omega)
  go_enter Tryd.func103, Tryd.ntmps103
  go_wp2_with fail
  refine (round_any _ _ _ hp h1 h2).mono ?_
  rintro e w' ⟨rfl, rfl⟩
  go_wp2_with fail
  go_ret2
  exact ⟨rfl, rfl⟩
set_option maxHeartbeats 400000 in
theorem up_any (p n : Nat) (w : World) (hp : p < 4294967296) (h1 : 1 ≤ n) (h2 : n ≤ 31) :
    Calls Tryd.prog 102 #[.int .u32 p, .int .u32 n] w fun e w' => e = .returned (.tuple #[.int .u32 (shlI p n), .int .u32 (ob p (32 - n))]) ∧ w' = w := by
  have e1 := up_val p n hp (by omega)
  have e2 := up_out p n hp h1 (by omega)
  go_enter Tryd.func102, Tryd.ntmps102
  go_wp2_with fail
  rw [show (32 - (n : Int)) = ((32 - n : Nat) : Int) by omega]
  refine (round_any _ _ _ hp (by omega) (by omega)).mono ?_
  rintro e w' ⟨rfl, rfl⟩
  go_wp2_with fail
  go_ret2
  exact ⟨rfl, rfl⟩
set_option maxHeartbeats 400000 in
theorem shl_any (a k : Nat) (n : Int) (w : World) (ha : a < 4294967296) (h0 : 0 ≤ n) (h1 : n < 4294967296) (hk : n % 32 = (k : Int)) :
    Calls Tryd.prog 82 #[.int .u32 a, .int .u32 n] w fun e w' => e = .returned (.tuple #[.int .u32 (shlI a k), .int .u32 (fl (shlI a k) (outUp a k) false)]) ∧ Kep w w' := by
  have hb : k < 32 := by omega
  by_cases hz : k = 0
  · subst hz
    have hk0 : n % 32 = 0 := hk
    clear hk
    go_enter Tryd.func82, Tryd.ntmps82
    go_wp2_with (first | (go_at_call 101; go_in) | (go_at_call 99; refine (flagged0 _ _).mono ?_; rintro e w' ⟨rfl, g1⟩))
    go_ret2
    exact ⟨by rw [shlI_zero a ha]; rfl, ‹_›⟩
  · have hk0 : ((k : Int) == 0) = false := by rw [beq_eq_false_iff_ne]; omega
    have hc : (ob a (32 - k) == 1) = outUp a k := by rw [ob_one]; unfold outUp; simp [hz]
    go_enter Tryd.func82, Tryd.ntmps82
    go_wp2_with (first | (go_at_call 101; go_in) | (go_at_call 102; refine (up_any _ _ _ ha (by omega) (by omega)).mono ?_; rintro e w' ⟨rfl, rfl⟩))
    refine (flagged1 _ _ (outUp a k) _ (by simp) (by simp) (by simp)).mono ?_
    rintro e w1 ⟨rfl, g1⟩
    go_wp2_with fail
    go_ret2
    exact ⟨rfl, kep_trans ((Kep.refl _).alloc _) g1⟩
set_option maxHeartbeats 400000 in
theorem shr_any (a k : Nat) (n : Int) (w : World) (ha : a < 4294967296) (h0 : 0 ≤ n) (h1 : n < 4294967296) (hk : n % 32 = (k : Int)) :
    Calls Tryd.prog 83 #[.int .u32 a, .int .u32 n] w fun e w' => e = .returned (.tuple #[.int .u32 (shrI a k), .int .u32 (fl (shrI a k) (outDown a k) false)]) ∧ Kep w w' := by
  have hb : k < 32 := by omega
  by_cases hz : k = 0
  · subst hz
    have hk0 : n % 32 = 0 := hk
    clear hk
    go_enter Tryd.func83, Tryd.ntmps83
    go_wp2_with (first | (go_at_call 101; go_in) | (go_at_call 99; refine (flagged0 _ _).mono ?_; rintro e w' ⟨rfl, g1⟩))
    go_ret2
    exact ⟨by rw [shrI_zero a]; rfl, ‹_›⟩
  · have hk0 : ((k : Int) == 0) = false := by rw [beq_eq_false_iff_ne]; omega
    have hc : (ob a (k - 1) == 1) = outDown a k := by rw [ob_one]; unfold outDown; simp [hz]
    go_enter Tryd.func83, Tryd.ntmps83
    go_wp2_with (first | (go_at_call 101; go_in) | (go_at_call 103; refine (down_any _ _ _ ha (by omega) (by omega)).mono ?_; rintro e w' ⟨rfl, rfl⟩))
    refine (flagged1 _ _ (outDown a k) _ (by simp) (by simp) (by simp)).mono ?_
    rintro e w1 ⟨rfl, g1⟩
    go_wp2_with fail
    go_ret2
    exact ⟨rfl, kep_trans ((Kep.refl _).alloc _) g1⟩
set_option maxHeartbeats 400000 in
theorem ror_any (a k : Nat) (n : Int) (w : World) (ha : a < 4294967296) (h0 : 0 ≤ n) (h1 : n < 4294967296) (hk : n % 32 = (k : Int)) :
    Calls Tryd.prog 85 #[.int .u32 a, .int .u32 n] w fun e w' => e = .returned (.tuple #[.int .u32 (rorI a k), .int .u32 (fl (rorI a k) (outDown a k) false)]) ∧ Kep w w' := by
  have hb : k < 32 := by omega
  by_cases hz : k = 0
  · subst hz
    have hk0 : n % 32 = 0 := hk
    clear hk
    go_enter Tryd.func85, Tryd.ntmps85
    go_wp2_with (first | (go_at_call 101; go_in) | (go_at_call 99; refine (flagged0 _ _).mono ?_; rintro e w' ⟨rfl, g1⟩))
    go_ret2
    exact ⟨by rw [rorI_zero a]; rfl, ‹_›⟩
  · have hk0 : ((k : Int) == 0) = false := by rw [beq_eq_false_iff_ne]; omega
    have hc : (ob a (k - 1) == 1) = outDown a k := by rw [ob_one]; unfold outDown; simp [hz]
    go_enter Tryd.func85, Tryd.ntmps85
    go_wp2_with (first | (go_at_call 101; go_in) | (go_at_call 105; refine (round_any _ _ _ ha (by omega) (by omega)).mono ?_; rintro e w' ⟨rfl, rfl⟩))
    refine (flagged1 _ _ (outDown a k) _ (by simp) (by simp) (by simp)).mono ?_
    rintro e w1 ⟨rfl, g1⟩
    go_wp2_with fail
    go_ret2
    exact ⟨rfl, kep_trans ((Kep.refl _).alloc _) g1⟩
end Go.Proofs.YthimfiihebdchaaDoor
