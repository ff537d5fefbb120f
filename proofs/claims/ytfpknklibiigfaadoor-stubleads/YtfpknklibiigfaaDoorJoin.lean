/- What 'together' and 'flagged' answer: the flags of those conditions that hold, joined; memory has at most new blocks. -/
import Derived.Test.YtfpknklibiigfaaDoorChecked
import Derived.Test.YtfpknklibiigfaaDoorMath
import Derived.Test.YtfpknklibiigfaaDoorLaid
import Derived.WalkKit
import Derived.Handy
namespace Go.Proofs.YtfpknklibiigfaaDoor
open Go.RowKit


set_option maxHeartbeats 400000 in
theorem together0 (w : World) :
    Calls Tryd.prog 73 #[.slice none 0 0] w fun e w' => e = .returned (.int .u32 0) ∧ w' = w := by
  go_enter Tryd.func73, Tryd.ntmps73
  go_wp2
  go_rounds 1
  go_ret
  exact ⟨rfl, rfl⟩

set_option maxHeartbeats 400000 in
theorem together1 (b : Nat) (h0 : Bool) (w : World) (c0 : w.cell? ⟨b, 0, none⟩ = some (.int .u32 64)) (c1 : w.cell? ⟨b, 1, none⟩ = some (.bool h0)) :
    Calls Tryd.prog 73 #[.slice (some ⟨b, 0, none⟩) 1 1] w fun e w' => e = .returned (.int .u32 (wt h0 64)) ∧ Kep w w' := by
  cases h0
  all_goals
    go_enter Tryd.func73, Tryd.ntmps73
    go_wp2
    go_rounds 2
  all_goals go_ret
  all_goals exact ⟨ret_int (by decide), by repeat (first | exact Kep.refl _ | apply Kep.drew | apply Kep.alloc)⟩

set_option maxHeartbeats 400000 in
theorem together2 (b : Nat) (h0 h1 : Bool) (w : World) (hb : b < w.heap.size) (c0 : w.cell? ⟨b, 0, none⟩ = some (.int .u32 64)) (c1 : w.cell? ⟨b, 1, none⟩ = some (.bool h0))
    (c2 : w.cell? ⟨b, 2, none⟩ = some (.int .u32 128)) (c3 : w.cell? ⟨b, 3, none⟩ = some (.bool h1)) :
    Calls Tryd.prog 73 #[.slice (some ⟨b, 0, none⟩) 2 2] w fun e w' => e = .returned (.int .u32 (wt h0 64 + wt h1 128)) ∧ Kep w w' := by
  cases h0 <;> cases h1
  all_goals
    go_enter Tryd.func73, Tryd.ntmps73
    go_wp2
    go_rounds 3
  all_goals go_ret
  all_goals exact ⟨ret_int (by decide), by repeat (first | exact Kep.refl _ | apply Kep.drew | apply Kep.alloc)⟩

set_option maxHeartbeats 400000 in
theorem together2' (b : Nat) (h0 h1 : Bool) (w : World) (hb : b < w.heap.size) (c0 : w.cell? ⟨b, 0, none⟩ = some (.int .u32 16)) (c1 : w.cell? ⟨b, 1, none⟩ = some (.bool h0))
    (c2 : w.cell? ⟨b, 2, none⟩ = some (.int .u32 32)) (c3 : w.cell? ⟨b, 3, none⟩ = some (.bool h1)) :
    Calls Tryd.prog 73 #[.slice (some ⟨b, 0, none⟩) 2 2] w fun e w' => e = .returned (.int .u32 (wt h0 16 + wt h1 32)) ∧ Kep w w' := by
  cases h0 <;> cases h1
  all_goals
    go_enter Tryd.func73, Tryd.ntmps73
    go_wp2
    go_rounds 3
  all_goals go_ret
  all_goals exact ⟨ret_int (by decide), by repeat (first | exact Kep.refl _ | apply Kep.drew | apply Kep.alloc)⟩


theorem or_wt (a b c v : Bool) : bits .or .u32 (wt a 16 + wt b 32) (wt c 64 + wt v 128) = wt a 16 + wt b 32 + (wt c 64 + wt v 128) := by
  cases a <;> cases b <;> cases c <;> cases v <;> decide
theorem or_fl0 (r : Int) : bits .or .u32 (wt (r == 0) 16 + wt (decide (2147483648 ≤ r)) 32) 0 = fl r false false := by
  unfold fl; exact or_wt _ _ false false
theorem or_fl1 (r : Int) (c : Bool) : bits .or .u32 (wt (r == 0) 16 + wt (decide (2147483648 ≤ r)) 32) (wt c 64) = fl r c false := by
  unfold fl
  have := or_wt (r == 0) (decide (2147483648 ≤ r)) c false
  have e : wt c 64 + wt false 128 = wt c 64 := by simp [wt]
  rw [e] at this ⊢; exact this
theorem or_fl2 (r : Int) (c v : Bool) : bits .or .u32 (wt (r == 0) 16 + wt (decide (2147483648 ≤ r)) 32) (wt c 64 + wt v 128) = fl r c v := by
  unfold fl; exact or_wt _ _ _ _

set_option maxHeartbeats 400000 in
theorem flagged0 (r : Int) (w : World) :
    Calls Tryd.prog 65 #[.int .u32 r, .slice none 0 0] w fun e w' => e = .returned (.tuple #[.int .u32 r, .int .u32 (fl r false false)]) ∧ Kep w w' := by
  have ho := or_fl0 r
  go_enter Tryd.func65, Tryd.ntmps65
  go_wp2_with fail
  refine (together2' _ (r == 0) (decide (2147483648 ≤ r)) _ (by simp) (by simp) (by simp) (by simp) (by simp)).mono ?_
  rintro e w1 ⟨rfl, g1⟩
  go_wp2_with fail
  refine (together0 _).mono ?_
  rintro e w2 ⟨rfl, rfl⟩
  go_wp2_with fail
  go_ret2
  exact ⟨rfl, kep_trans ((Kep.refl _).alloc _) g1⟩

set_option maxHeartbeats 400000 in
theorem flagged1 (r : Int) (b : Nat) (c : Bool) (w : World) (hb : b < w.heap.size) (c0 : w.cell? ⟨b, 0, none⟩ = some (.int .u32 64)) (c1 : w.cell? ⟨b, 1, none⟩ = some (.bool c)) :
    Calls Tryd.prog 65 #[.int .u32 r, .slice (some ⟨b, 0, none⟩) 1 1] w fun e w' => e = .returned (.tuple #[.int .u32 r, .int .u32 (fl r c false)]) ∧ Kep w w' := by
  have ho := or_fl1 r c
  go_enter Tryd.func65, Tryd.ntmps65
  go_wp2_with fail
  refine (together2' _ (r == 0) (decide (2147483648 ≤ r)) _ (by simp) (by simp) (by simp) (by simp) (by simp)).mono ?_
  rintro e w1 ⟨rfl, g1⟩
  have g2 : Kep w w1 := kep_trans ((Kep.refl _).alloc _) g1
  clear g1
  go_wp2_with fail
  refine (together1 _ _ _ ((Kep.cell g2 hb).trans c0) ((Kep.cell g2 hb).trans c1)).mono ?_
  rintro e w2 ⟨rfl, g3⟩
  go_wp2_with fail
  go_ret2
  exact ⟨rfl, kep_trans g2 g3⟩

set_option maxHeartbeats 400000 in
theorem flagged2 (r : Int) (b : Nat) (c v : Bool) (w : World) (hb : b < w.heap.size) (c0 : w.cell? ⟨b, 0, none⟩ = some (.int .u32 64)) (c1 : w.cell? ⟨b, 1, none⟩ = some (.bool c))
    (c2 : w.cell? ⟨b, 2, none⟩ = some (.int .u32 128)) (c3 : w.cell? ⟨b, 3, none⟩ = some (.bool v)) :
    Calls Tryd.prog 65 #[.int .u32 r, .slice (some ⟨b, 0, none⟩) 2 2] w fun e w' => e = .returned (.tuple #[.int .u32 r, .int .u32 (fl r c v)]) ∧ Kep w w' := by
  have ho := or_fl2 r c v
  go_enter Tryd.func65, Tryd.ntmps65
  go_wp2_with fail
  refine (together2' _ (r == 0) (decide (2147483648 ≤ r)) _ (by simp) (by simp) (by simp) (by simp) (by simp)).mono ?_
  rintro e w1 ⟨rfl, g1⟩
  have g2 : Kep w w1 := kep_trans ((Kep.refl _).alloc _) g1
  clear g1
  go_wp2_with fail
  refine (together2 _ _ _ _ (Nat.lt_of_lt_of_le hb g2.size) ((Kep.cell g2 hb).trans c0) ((Kep.cell g2 hb).trans c1) ((Kep.cell g2 hb).trans c2) ((Kep.cell g2 hb).trans c3)).mono ?_
  rintro e w2 ⟨rfl, g3⟩
  go_wp2_with fail
  go_ret2
  exact ⟨rfl, kep_trans g2 g3⟩
end Go.Proofs.YtfpknklibiigfaaDoor
