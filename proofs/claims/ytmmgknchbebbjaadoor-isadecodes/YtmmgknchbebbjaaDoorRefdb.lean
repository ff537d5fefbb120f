/- What the document's own Decode answers, form by form. -/
import Derived.Test.YtmmgknchbebbjaaDoorRefdh
namespace Go.Proofs.YtmmgknchbebbjaaDoor
open Go.RowKit
set_option linter.unusedVariables false

set_option maxHeartbeats 8000000 in
theorem rd_5 (b off len cap : Nat) (zs : List Int) (host : Bool) (aE bE iE : Int) (m : Bool) (w : World) (hl : (3 : Int) ≤ len) (hlc : (len : Int) ≤ cap) (hlm : (len : Int) ≤ 9223372036854775807) (h1 : (0 : Int) < len) (hbw : b < w.heap.size) (c0 : w.cell? ⟨b, off, none⟩ = some (.int .u8 (zat zs 0))) (c1 : w.cell? ⟨b, off + 1, none⟩ = some (.int .u8 (zat zs 1))) (c2 : w.cell? ⟨b, off + 2, none⟩ = some (.int .u8 (zat zs 2))) (z0 : 0 ≤ zat zs 0) (y0 : zat zs 0 < 256) (z1 : 0 ≤ zat zs 1) (y1 : zat zs 1 < 256) (z2 : 0 ≤ zat zs 2) (y2 : zat zs 2 < 256)
    (ha : aE = zat zs 1 / 16) (hb : bE = zat zs 1 % 16) (hi : (128 ≤ 1 * zat zs 2 ∧ iE = 1 * zat zs 2 - 256 ∨ 1 * zat zs 2 < 128 ∧ iE = 1 * zat zs 2))
    (hO : Hid (∀ w, Calls Tryd.prog 11 #[.int .u8 (zat zs 0), .bool host] w fun e w' => e = .returned (.agg #[.int .i64 3, .bool true, .bool false, .int .i64 1, .bool true]) ∧ Kep w w'))
    (hM : Hid (∀ a b imm w, a = aE → b = bE → imm = iE → Calls Tryd.prog 12 #[.agg (insA (zat zs 0) a b imm), .bool host] w fun e w' => e = .returned (.bool m) ∧ Kep w w')) :
    Calls Tryd.prog 5 #[.slice (some ⟨b, off, none⟩) len cap, .bool host] w fun e w' => e = .returned (.tuple #[.agg (insM m (zat zs 0) aE bE iE), .int .i64 (if m then 3 else 0), .int .i64 (if m then 0 else 21)]) ∧ Kep w w' := by
  have hnot : ∀ (x : Bool) (w : World), (Op.unary .not (.bool x)).run Tryd.prog w = .ok (.bool (!x)) w := fun _ _ => rfl
  have hl0 : ((len : Int) == 0) = false := by rw [beq_eq_false_iff_ne]; omega
  have hA : Hid (aE = zat zs 1 / 16) := ha
  have hB : Hid (bE = zat zs 1 % 16) := hb
  have hI : Hid ((128 ≤ 1 * zat zs 2 ∧ iE = 1 * zat zs 2 - 256 ∨ 1 * zat zs 2 < 128 ∧ iE = 1 * zat zs 2)) := hi
  clear ha hb hi
  cases m
  all_goals
    go_enter Tryd.func5, Tryd.ntmps5
    go_wp2_with fail
    refine (hO.out _).mono ?_
    rintro e w1 ⟨rfl, g1⟩
    have K1 : Hid (Kep w w1) := kep_trans ((Kep.refl _).alloc _) g1
    have Q1 : Hid (w1.heap[w.heap.size]? = some (.cells zeroI 24 (0, 0))) := g1.block (heap_alloc_new _ _)
    have hb1 : b < w1.heap.size := g1.lt (by simp; omega)
    have hs1 : w.heap.size < w1.heap.size := g1.lt (by simp)
    have d0 : w1.cell? ⟨b, off, none⟩ = some (.int .u8 (zat zs 0)) := (g1.cell (by simp; omega)).trans ((cell_old hbw).trans c0)
    have d1 : w1.cell? ⟨b, off + 1, none⟩ = some (.int .u8 (zat zs 1)) := (g1.cell (by simp; omega)).trans ((cell_old hbw).trans c1)
    have d2 : w1.cell? ⟨b, off + 2, none⟩ = some (.int .u8 (zat zs 2)) := (g1.cell (by simp; omega)).trans ((cell_old hbw).trans c2)
    clear g1
    go_wp2_with fail
    refine wp_loop_rounds 2 ?_
    rw [rounds_succ]
    go_wp2_with fail
    rw [rounds_succ]
    go_wp2_with fail
    all_goals
      refine (hM.out _ _ _ _ ?_ ?_ ?_).mono ?_
      all_goals (first | (have qa := hA.out; have qb := hB.out; have qi := hI.out; omega) | skip)
      rintro e w3 ⟨rfl, g3⟩
      have K3 : Hid (Kep w w3) := kep_trans ((K1.out.alloc _).alloc _) g3
      have Q3 : Hid (w3.heap[w.heap.size]? = some (.cells zeroI 24 (0, 0))) := g3.block ((heap_skip _ _ _ (by simp; omega)).trans ((heap_skip _ _ _ hs1).trans Q1.out))
      have z3 : w.heap.size < w3.heap.size := g3.lt (by simp; omega)
      have s0 := g3.cell (o := 0) (b := w1.heap.size) (by simp; omega)
      have i0 := g3.cell (o := 0) (b := w1.heap.size + 1) (by simp)
      have i1 := g3.cell (o := 1) (b := w1.heap.size + 1) (by simp)
      have i2 := g3.cell (o := 2) (b := w1.heap.size + 1) (by simp)
      have i3 := g3.cell (o := 3) (b := w1.heap.size + 1) (by simp)
      simp at s0 i0 i1 i2 i3
      have x0 : w3.cell? ⟨w.heap.size, 0, none⟩ = some (.int .u8 0) := cell_of_block Q3.out
      have x1 : w3.cell? ⟨w.heap.size, 1, none⟩ = some (.int .u8 0) := cell_of_block Q3.out
      have x2 : w3.cell? ⟨w.heap.size, 2, none⟩ = some (.int .u8 0) := cell_of_block Q3.out
      have x3 : w3.cell? ⟨w.heap.size, 3, none⟩ = some (.int .i32 0) := cell_of_block Q3.out
      have v0 : w3.frozen? ⟨w.heap.size, 0, none⟩ = false := frozen_of_row _ _ _ _ _ Q3.out
      have v1 : w3.frozen? ⟨w.heap.size, 1, none⟩ = false := frozen_of_row _ _ _ _ _ Q3.out
      have v2 : w3.frozen? ⟨w.heap.size, 2, none⟩ = false := frozen_of_row _ _ _ _ _ Q3.out
      have v3 : w3.frozen? ⟨w.heap.size, 3, none⟩ = false := frozen_of_row _ _ _ _ _ Q3.out
      clear g3
      go_wp2_with fail
      first
        | (refine bodyPost_ret (results3 rfl _ _ w.heap.size 24 zeroI (0, 0) _ rfl (set4 Q3.out) Tryd.underlying24 rfl sizeIns) rfl ⟨rfl, ?_⟩
           exact ((((K3.out.setCell (Nat.le_refl _) _).setCell (Nat.le_refl _) _).setCell (Nat.le_refl _) _).setCell (Nat.le_refl _) _))
        | (go_region
           all_goals
             go_wp2_with fail
             try simp only [Exit.inBlock, Exit.then]
             refine bodyPost_ret (results3 rfl _ _ w.heap.size 24 _ (0, 0) _ rfl (set4 Q3.out) Tryd.underlying24 rfl sizeIns) rfl ⟨?_, ?_⟩
             · refine ret_yes ?_ ?_ ?_ <;> (have qa := hA.out; have qb := hB.out; have qi := hI.out; omega)
             · exact ((((K3.out.setCell (Nat.le_refl _) _).setCell (Nat.le_refl _) _).setCell (Nat.le_refl _) _).setCell (Nat.le_refl _) _).drew)

set_option maxHeartbeats 8000000 in
theorem rd_6 (b off len cap : Nat) (zs : List Int) (host : Bool) (aE bE iE : Int) (m : Bool) (w : World) (hl : (3 : Int) ≤ len) (hlc : (len : Int) ≤ cap) (hlm : (len : Int) ≤ 9223372036854775807) (h1 : (0 : Int) < len) (hbw : b < w.heap.size) (c0 : w.cell? ⟨b, off, none⟩ = some (.int .u8 (zat zs 0))) (c1 : w.cell? ⟨b, off + 1, none⟩ = some (.int .u8 (zat zs 1))) (c2 : w.cell? ⟨b, off + 2, none⟩ = some (.int .u8 (zat zs 2))) (z0 : 0 ≤ zat zs 0) (y0 : zat zs 0 < 256) (z1 : 0 ≤ zat zs 1) (y1 : zat zs 1 < 256) (z2 : 0 ≤ zat zs 2) (y2 : zat zs 2 < 256)
    (ha : aE = zat zs 1 / 16) (hb : bE = zat zs 1 % 16) (hi : (128 ≤ 1 * zat zs 2 ∧ iE = 1 * zat zs 2 - 256 ∨ 1 * zat zs 2 < 128 ∧ iE = 1 * zat zs 2))
    (hO : Hid (∀ w, Calls Tryd.prog 11 #[.int .u8 (zat zs 0), .bool host] w fun e w' => e = .returned (.agg #[.int .i64 3, .bool true, .bool true, .int .i64 1, .bool true]) ∧ Kep w w'))
    (hM : Hid (∀ a b imm w, a = aE → b = bE → imm = iE → Calls Tryd.prog 12 #[.agg (insA (zat zs 0) a b imm), .bool host] w fun e w' => e = .returned (.bool m) ∧ Kep w w')) :
    Calls Tryd.prog 5 #[.slice (some ⟨b, off, none⟩) len cap, .bool host] w fun e w' => e = .returned (.tuple #[.agg (insM m (zat zs 0) aE bE iE), .int .i64 (if m then 3 else 0), .int .i64 (if m then 0 else 21)]) ∧ Kep w w' := by
  have hnot : ∀ (x : Bool) (w : World), (Op.unary .not (.bool x)).run Tryd.prog w = .ok (.bool (!x)) w := fun _ _ => rfl
  have hl0 : ((len : Int) == 0) = false := by rw [beq_eq_false_iff_ne]; omega
  have hA : Hid (aE = zat zs 1 / 16) := ha
  have hB : Hid (bE = zat zs 1 % 16) := hb
  have hI : Hid ((128 ≤ 1 * zat zs 2 ∧ iE = 1 * zat zs 2 - 256 ∨ 1 * zat zs 2 < 128 ∧ iE = 1 * zat zs 2)) := hi
  clear ha hb hi
  cases m
  all_goals
    go_enter Tryd.func5, Tryd.ntmps5
    go_wp2_with fail
    refine (hO.out _).mono ?_
    rintro e w1 ⟨rfl, g1⟩
    have K1 : Hid (Kep w w1) := kep_trans ((Kep.refl _).alloc _) g1
    have Q1 : Hid (w1.heap[w.heap.size]? = some (.cells zeroI 24 (0, 0))) := g1.block (heap_alloc_new _ _)
    have hb1 : b < w1.heap.size := g1.lt (by simp; omega)
    have hs1 : w.heap.size < w1.heap.size := g1.lt (by simp)
    have d0 : w1.cell? ⟨b, off, none⟩ = some (.int .u8 (zat zs 0)) := (g1.cell (by simp; omega)).trans ((cell_old hbw).trans c0)
    have d1 : w1.cell? ⟨b, off + 1, none⟩ = some (.int .u8 (zat zs 1)) := (g1.cell (by simp; omega)).trans ((cell_old hbw).trans c1)
    have d2 : w1.cell? ⟨b, off + 2, none⟩ = some (.int .u8 (zat zs 2)) := (g1.cell (by simp; omega)).trans ((cell_old hbw).trans c2)
    clear g1
    go_wp2_with fail
    refine wp_loop_rounds 2 ?_
    rw [rounds_succ]
    go_wp2_with fail
    rw [rounds_succ]
    go_wp2_with fail
    all_goals
      refine (hM.out _ _ _ _ ?_ ?_ ?_).mono ?_
      all_goals (first | (have qa := hA.out; have qb := hB.out; have qi := hI.out; omega) | skip)
      rintro e w3 ⟨rfl, g3⟩
      have K3 : Hid (Kep w w3) := kep_trans ((K1.out.alloc _).alloc _) g3
      have Q3 : Hid (w3.heap[w.heap.size]? = some (.cells zeroI 24 (0, 0))) := g3.block ((heap_skip _ _ _ (by simp; omega)).trans ((heap_skip _ _ _ hs1).trans Q1.out))
      have z3 : w.heap.size < w3.heap.size := g3.lt (by simp; omega)
      have s0 := g3.cell (o := 0) (b := w1.heap.size) (by simp; omega)
      have i0 := g3.cell (o := 0) (b := w1.heap.size + 1) (by simp)
      have i1 := g3.cell (o := 1) (b := w1.heap.size + 1) (by simp)
      have i2 := g3.cell (o := 2) (b := w1.heap.size + 1) (by simp)
      have i3 := g3.cell (o := 3) (b := w1.heap.size + 1) (by simp)
      simp at s0 i0 i1 i2 i3
      have x0 : w3.cell? ⟨w.heap.size, 0, none⟩ = some (.int .u8 0) := cell_of_block Q3.out
      have x1 : w3.cell? ⟨w.heap.size, 1, none⟩ = some (.int .u8 0) := cell_of_block Q3.out
      have x2 : w3.cell? ⟨w.heap.size, 2, none⟩ = some (.int .u8 0) := cell_of_block Q3.out
      have x3 : w3.cell? ⟨w.heap.size, 3, none⟩ = some (.int .i32 0) := cell_of_block Q3.out
      have v0 : w3.frozen? ⟨w.heap.size, 0, none⟩ = false := frozen_of_row _ _ _ _ _ Q3.out
      have v1 : w3.frozen? ⟨w.heap.size, 1, none⟩ = false := frozen_of_row _ _ _ _ _ Q3.out
      have v2 : w3.frozen? ⟨w.heap.size, 2, none⟩ = false := frozen_of_row _ _ _ _ _ Q3.out
      have v3 : w3.frozen? ⟨w.heap.size, 3, none⟩ = false := frozen_of_row _ _ _ _ _ Q3.out
      clear g3
      go_wp2_with fail
      first
        | (refine bodyPost_ret (results3 rfl _ _ w.heap.size 24 zeroI (0, 0) _ rfl (set4 Q3.out) Tryd.underlying24 rfl sizeIns) rfl ⟨rfl, ?_⟩
           exact ((((K3.out.setCell (Nat.le_refl _) _).setCell (Nat.le_refl _) _).setCell (Nat.le_refl _) _).setCell (Nat.le_refl _) _))
        | (go_region
           all_goals
             go_wp2_with fail
             try simp only [Exit.inBlock, Exit.then]
             refine bodyPost_ret (results3 rfl _ _ w.heap.size 24 _ (0, 0) _ rfl (set4 Q3.out) Tryd.underlying24 rfl sizeIns) rfl ⟨?_, ?_⟩
             · refine ret_yes ?_ ?_ ?_ <;> (have qa := hA.out; have qb := hB.out; have qi := hI.out; omega)
             · exact ((((K3.out.setCell (Nat.le_refl _) _).setCell (Nat.le_refl _) _).setCell (Nat.le_refl _) _).setCell (Nat.le_refl _) _).drew)

end Go.Proofs.YtmmgknchbebbjaaDoor
