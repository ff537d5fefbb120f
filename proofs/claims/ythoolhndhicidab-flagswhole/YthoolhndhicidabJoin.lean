/- What 'together' and 'flagged' answer: the flags of those conditions that hold, joined; memory has at most new blocks. -/
import Derived.Test.YthoolhndhicidabChecked
import Derived.Test.YthoolhndhicidabMath
import Derived.WalkKit
import Derived.Handy
namespace Go.Proofs.Ythoolhndhicidab
open Go.RowKit

theorem ret_int {k : IntKind} {a b : Int} (h : a = b) : Ending.returned (.int k a) = .returned (.int k b) := by rw [h]

set_option maxHeartbeats 400000 in
theorem together0 (w : World) :
    Calls Try.prog 35 #[.slice none 0 0] w fun e w' => e = .returned (.int .u32 0) ∧ w' = w := by
  go_enter Try.func35, Try.ntmps35
  go_wp2
  go_rounds 1
  go_ret
  exact ⟨rfl, rfl⟩

set_option maxHeartbeats 400000 in
theorem together1 (b : Nat) (h0 : Bool) (w : World) (c0 : w.cell? ⟨b, 0, none⟩ = some (.int .u32 64)) (c1 : w.cell? ⟨b, 1, none⟩ = some (.bool h0)) :
    Calls Try.prog 35 #[.slice (some ⟨b, 0, none⟩) 1 1] w fun e w' => e = .returned (.int .u32 (wt h0 64)) ∧ Grown w w' := by
  cases h0
  all_goals
    go_enter Try.func35, Try.ntmps35
    go_wp2
    go_rounds 2
  all_goals go_ret
  all_goals exact ⟨ret_int (by decide), by repeat (first | exact Grown.refl _ | apply Grown.drew | apply Grown.alloc)⟩

set_option maxHeartbeats 400000 in
theorem together2 (b : Nat) (h0 h1 : Bool) (w : World) (hb : b < w.heap.size) (c0 : w.cell? ⟨b, 0, none⟩ = some (.int .u32 64)) (c1 : w.cell? ⟨b, 1, none⟩ = some (.bool h0))
    (c2 : w.cell? ⟨b, 2, none⟩ = some (.int .u32 128)) (c3 : w.cell? ⟨b, 3, none⟩ = some (.bool h1)) :
    Calls Try.prog 35 #[.slice (some ⟨b, 0, none⟩) 2 2] w fun e w' => e = .returned (.int .u32 (wt h0 64 + wt h1 128)) ∧ Grown w w' := by
  cases h0 <;> cases h1
  all_goals
    go_enter Try.func35, Try.ntmps35
    go_wp2
    go_rounds 3
  all_goals go_ret
  all_goals exact ⟨ret_int (by decide), by repeat (first | exact Grown.refl _ | apply Grown.drew | apply Grown.alloc)⟩

set_option maxHeartbeats 400000 in
theorem together2' (b : Nat) (h0 h1 : Bool) (w : World) (hb : b < w.heap.size) (c0 : w.cell? ⟨b, 0, none⟩ = some (.int .u32 16)) (c1 : w.cell? ⟨b, 1, none⟩ = some (.bool h0))
    (c2 : w.cell? ⟨b, 2, none⟩ = some (.int .u32 32)) (c3 : w.cell? ⟨b, 3, none⟩ = some (.bool h1)) :
    Calls Try.prog 35 #[.slice (some ⟨b, 0, none⟩) 2 2] w fun e w' => e = .returned (.int .u32 (wt h0 16 + wt h1 32)) ∧ Grown w w' := by
  cases h0 <;> cases h1
  all_goals
    go_enter Try.func35, Try.ntmps35
    go_wp2
    go_rounds 3
  all_goals go_ret
  all_goals exact ⟨ret_int (by decide), by repeat (first | exact Grown.refl _ | apply Grown.drew | apply Grown.alloc)⟩

theorem grown_trans {a b c : World} (h : Grown a b) (k : Grown b c) : Grown a c :=
  ⟨World.keptBut_trans h.1 k.1, fun x => (k.2.1 x).trans (h.2.1 x), Nat.le_trans h.2.2 k.2.2⟩
theorem grown_cell {W w' : World} (h : Grown W w') {b o : Nat} (hb : b < W.heap.size) : w'.cell? ⟨b, o, none⟩ = W.cell? ⟨b, o, none⟩ :=
  h.1.cell hb (fun f => f)

theorem or_wt (a b c v : Bool) : bits .or .u32 (wt a 16 + wt b 32) (wt c 64 + wt v 128) = wt a 16 + wt b 32 + (wt c 64 + wt v 128) := by
  cases a <;> cases b <;> cases c <;> cases v <;> decide
theorem or_fl0 (r : Int) : bits .or .u32 (wt (r == 0) 16 + wt (decide (2147483648 ≤ r)) 32) 0 = fl r false false := by
  unfold fl; exact or_wt _ _ false false
theorem or_fl1 (r : Int) (c : Bool) : bits .or .u32 (wt (r == 0) 16 + wt (decide (2147483648 ≤ r)) 32) (wt c 64) = fl r c false := by
  unfold fl
  have := or_wt (r == 0) (decide (2147483648 ≤ r)) c false
  have e : wt c 64 + wt false 128 = wt c 64 := by simp [wt]
  rw [e] at this ⊢; exact this
theorem or_fl2 (r : Int) (c v : Bool) : bits .or .u32 (wt (r == 0) 16 + wt (decide (2147483648 ≤ r)) 32) (wt c 64 + wt v 128) = fl r c v := by
  unfold fl; exact or_wt _ _ _ _

set_option maxHeartbeats 400000 in
theorem flagged0 (r : Int) (w : World) :
    Calls Try.prog 25 #[.int .u32 r, .slice none 0 0] w fun e w' => e = .returned (.tuple #[.int .u32 r, .int .u32 (fl r false false)]) ∧ Grown w w' := by
  have ho := or_fl0 r
  go_enter Try.func25, Try.ntmps25
  go_wp2_with fail
  refine (together2' _ (r == 0) (decide (2147483648 ≤ r)) _ (by simp) (by simp) (by simp) (by simp) (by simp)).mono ?_
  rintro e w1 ⟨rfl, g1⟩
  go_wp2_with fail
  refine (together0 _).mono ?_
  rintro e w2 ⟨rfl, rfl⟩
  go_wp2_with fail
  go_ret2
  exact ⟨rfl, grown_trans ((Grown.refl _).alloc _ _) g1⟩

set_option maxHeartbeats 400000 in
theorem flagged1 (r : Int) (b : Nat) (c : Bool) (w : World) (hb : b < w.heap.size) (c0 : w.cell? ⟨b, 0, none⟩ = some (.int .u32 64)) (c1 : w.cell? ⟨b, 1, none⟩ = some (.bool c)) :
    Calls Try.prog 25 #[.int .u32 r, .slice (some ⟨b, 0, none⟩) 1 1] w fun e w' => e = .returned (.tuple #[.int .u32 r, .int .u32 (fl r c false)]) ∧ Grown w w' := by
  have ho := or_fl1 r c
  go_enter Try.func25, Try.ntmps25
  go_wp2_with fail
  refine (together2' _ (r == 0) (decide (2147483648 ≤ r)) _ (by simp) (by simp) (by simp) (by simp) (by simp)).mono ?_
  rintro e w1 ⟨rfl, g1⟩
  have g2 : Grown w w1 := grown_trans ((Grown.refl _).alloc _ _) g1
  clear g1
  go_wp2_with fail
  refine (together1 _ _ _ ((grown_cell g2 hb).trans c0) ((grown_cell g2 hb).trans c1)).mono ?_
  rintro e w2 ⟨rfl, g3⟩
  go_wp2_with fail
  go_ret2
  exact ⟨rfl, grown_trans g2 g3⟩

set_option maxHeartbeats 400000 in
theorem flagged2 (r : Int) (b : Nat) (c v : Bool) (w : World) (hb : b < w.heap.size) (c0 : w.cell? ⟨b, 0, none⟩ = some (.int .u32 64)) (c1 : w.cell? ⟨b, 1, none⟩ = some (.bool c))
    (c2 : w.cell? ⟨b, 2, none⟩ = some (.int .u32 128)) (c3 : w.cell? ⟨b, 3, none⟩ = some (.bool v)) :
    Calls Try.prog 25 #[.int .u32 r, .slice (some ⟨b, 0, none⟩) 2 2] w fun e w' => e = .returned (.tuple #[.int .u32 r, .int .u32 (fl r c v)]) ∧ Grown w w' := by
  have ho := or_fl2 r c v
  go_enter Try.func25, Try.ntmps25
  go_wp2_with fail
  refine (together2' _ (r == 0) (decide (2147483648 ≤ r)) _ (by simp) (by simp) (by simp) (by simp) (by simp)).mono ?_
  rintro e w1 ⟨rfl, g1⟩
  have g2 : Grown w w1 := grown_trans ((Grown.refl _).alloc _ _) g1
  clear g1
  go_wp2_with fail
  refine (together2 _ _ _ _ (Nat.lt_of_lt_of_le hb g2.2.2) ((grown_cell g2 hb).trans c0) ((grown_cell g2 hb).trans c1) ((grown_cell g2 hb).trans c2) ((grown_cell g2 hb).trans c3)).mono ?_
  rintro e w2 ⟨rfl, g3⟩
  go_wp2_with fail
  go_ret2
  exact ⟨rfl, grown_trans g2 g3⟩
end Go.Proofs.Ythoolhndhicidab
