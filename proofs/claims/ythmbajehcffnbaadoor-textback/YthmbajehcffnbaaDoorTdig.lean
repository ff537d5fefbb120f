/- The closure that takes a number's digits one by one. -/
import Derived.Test.YthmbajehcffnbaaDoorTnum
namespace Go.Proofs.YthmbajehcffnbaaDoor
open Go.RowKit
set_option linter.unusedVariables false

/-- The two boxes of the closure, from b on. -/
structure DgAt (w : World) (b : Nat) (has : Int) (begun : Bool) : Prop where
  h : w.heap[b]? = some (.cells #[.int .i64 has] 2 (0, 0))
  g : w.heap[b + 1]? = some (.cells #[.bool begun] 4 (0, 0))
abbrev dgW (w : World) (b : Nat) (v : Int) : World := (w.setCell ⟨b, 0, none⟩ (.int .i64 v)).setCell ⟨b + 1, 0, none⟩ (.bool true)
theorem DgAt.set {w : World} {b : Nat} {has : Int} {begun : Bool} (h : DgAt w b has begun) (v : Int) : DgAt (dgW w b v) b v true :=
  ⟨(heap_setCell_other _ _ _ _ (by simp)).trans (heap_setCell_same w b 0 _ _ _ h.h), by
    have := heap_setCell_same (w.setCell ⟨b, 0, none⟩ (.int .i64 v)) (b + 1) 0 _ _ (.bool true) ((heap_setCell_other w ⟨b, 0, none⟩ (b + 1) _ (by simp)).trans h.g)
    exact this⟩
theorem dgW_kep {w w1 : World} {b : Nat} (k : Kep w w1) (hb : w.heap.size ≤ b) (v : Int) : Kep w (dgW w1 b v) := (k.setCell hb _).setCell (by simp; omega) _

set_option maxHeartbeats 2000000 in
theorem digit_ok (b : Nat) (has D : Int) (begun : Bool) (w : World) (hw : DgAt w b has begun) (h0 : 0 ≤ has) (h1 : has ≤ 2147483647) (d0 : 48 ≤ D) (d1 : D ≤ 57) (hz : begun = true → has ≠ 0) :
    Calls Tryd.prog 43 #[.int .u8 D, .pointer (some ⟨b + 1, 0, none⟩), .pointer (some ⟨b, 0, none⟩)] w fun e w' => e = .returned (.tuple #[.int .i64 (10 * has + (D - 48)), .bool true]) ∧ w' = dgW w b (10 * has + (D - 48)) := by
  have c0 : w.cell? ⟨b, 0, none⟩ = some (.int .i64 has) := cell_of_block hw.h
  have c1 : w.cell? ⟨b + 1, 0, none⟩ = some (.bool begun) := cell_of_block hw.g
  have f0 : w.frozen? ⟨b, 0, none⟩ = false := frozen_of_row _ _ _ _ _ hw.h
  have f1 : w.frozen? ⟨b + 1, 0, none⟩ = false := frozen_of_row _ _ _ _ _ hw.g
  cases begun
  · go_enter Tryd.func43, Tryd.ntmps43
    go_wp2_with fail
    go_ret2
    exact ⟨rfl, rfl⟩
  · have hz' : (has == 0) = false := by simpa using hz rfl
    go_enter Tryd.func43, Tryd.ntmps43
    go_wp2_with fail
    go_ret2
    exact ⟨rfl, rfl⟩

set_option maxHeartbeats 2000000 in
theorem digit_no (b : Nat) (has D : Int) (begun : Bool) (w : World) (hw : DgAt w b has begun) (h0 : 0 ≤ has) (h1 : has ≤ 21474836479) (d0 : 0 ≤ D) (d1 : D < 256) (hz : (begun = true ∧ has = 0) ∨ D < 48 ∨ 57 < D ∨ 2147483647 < has) :
    Calls Tryd.prog 43 #[.int .u8 D, .pointer (some ⟨b + 1, 0, none⟩), .pointer (some ⟨b, 0, none⟩)] w fun e w' => e = .returned (.tuple #[.int .i64 0, .bool false]) ∧ w' = w := by
  have c0 : w.cell? ⟨b, 0, none⟩ = some (.int .i64 has) := cell_of_block hw.h
  have c1 : w.cell? ⟨b + 1, 0, none⟩ = some (.bool begun) := cell_of_block hw.g
  have hz' : Hid _ := hz
  clear hz
  cases begun
  all_goals
    go_enter Tryd.func43, Tryd.ntmps43
    go_wp2_with fail
  all_goals first
    | (go_ret2; exact ⟨rfl, rfl⟩)
    | (exfalso; have := hz'.out; simp_all; omega)
end Go.Proofs.YthmbajehcffnbaaDoor
