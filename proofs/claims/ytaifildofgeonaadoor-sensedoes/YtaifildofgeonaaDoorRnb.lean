/- The document's Is and masked. -/
import Derived.Test.YtaifildofgeonaaDoorNst
import Derived.Test.YtaifildofgeonaaDoorCkw
import Derived.Test.YtaifildofgeonaaDoorRefmay
import Derived.Deep.CutRange
import Derived.Deep.RegionWith
import Derived.Deep.RegionHeld3
import Derived.WalkLawsBesides
import Derived.Deep.DeepCutAuto
namespace Go.Proofs.YtaifildofgeonaaDoor
open Go.RowKit
set_option linter.unusedVariables false
set_option linter.unusedSimpArgs false

set_option maxHeartbeats 800000 in
theorem is9_any (op : Int) (w : World) (h0 : 0 ≤ op) (h1 : op < 256) : Calls Tryd.prog 21 #[.int .u8 op] w fun e w' => e = .returned (.bool (isSen op)) ∧ w' = w := by
  by_cases a1 : 1 ≤ op ∧ op ≤ 3
  · have q1 := a1.1
    have q2 := a1.2
    have e : isSen op = true := by unfold isSen; simp; omega
    rw [e]
    clear a1 e
    go_enter Tryd.func21, Tryd.ntmps21
    go_wp2
    go_ret
    exact ⟨rfl, rfl⟩
  · by_cases a2 : 96 ≤ op ∧ op ≤ 101
    · have q1 := a2.1
      have q2 := a2.2
      have e : isSen op = true := by unfold isSen; simp; omega
      have x1 : (decide (1 ≤ op) && decide (op ≤ 3)) = false := by simp; omega
      rw [e]
      clear a1 a2 e
      go_enter Tryd.func21, Tryd.ntmps21
      go_wp2
      all_goals first
        | (go_ret; exact ⟨rfl, rfl⟩)
        | (go_ret; refine ⟨?_, rfl⟩; simp <;> omega)
        | (exfalso; simp at *; omega)
    · have e : isSen op = false := by unfold isSen; simp; omega
      rw [e]
      rcases (by omega : op = 0 ∨ (4 ≤ op ∧ op ≤ 95) ∨ 102 ≤ op) with rfl | hc | hc
      · clear a1 a2 e
        go_enter Tryd.func21, Tryd.ntmps21
        go_wp2
        go_ret
        exact ⟨rfl, rfl⟩
      · have y1 : 1 ≤ op := by omega
        have y2 : ¬ op ≤ 3 := by omega
        have y3 : ¬ 96 ≤ op := by omega
        clear a1 a2 e hc
        go_enter Tryd.func21, Tryd.ntmps21
        go_wp2
        go_ret
        exact ⟨by simp [y1, y2, y3], rfl⟩
      · have y1 : 1 ≤ op := by omega
        have y2 : ¬ op ≤ 3 := by omega
        have y3 : 96 ≤ op := by omega
        have y4 : ¬ op ≤ 101 := by omega
        clear a1 a2 e hc
        go_enter Tryd.func21, Tryd.ntmps21
        go_wp2
        go_ret
        exact ⟨by simp [y1, y2, y3, y4], rfl⟩

set_option maxHeartbeats 800000 in
theorem masked_any (x : Int) (w : World) (h : 0 ≤ x ∧ x < 4294967296) : Calls Tryd.prog 23 #[.int .u32 x] w fun e w' => e = .returned (.int .u32 (mskI x)) ∧ w' = w := by
  go_enter Tryd.func23, Tryd.ntmps23
  go_wp2
  go_ret
  exact ⟨ret_int (by simp [mskI, IntKind.wrap_u32] <;> omega), rfl⟩
theorem row_rng {w : World} {g : Nat} {cs : Array Value} {t : TypeId} (h : w.heap[g]? = some (.cells cs t (0, 0))) : w.rangeAt g 0 cs.toList := fun j v hv => by
  rw [cell_of_block h, ← Array.getElem?_toList, Nat.zero_add, hv]
theorem EAt9_f {w : World} {p : Nat} {e : Eff} (h : w.heap[p]? = some (.cells e.v 29 (0, 0))) : w.cell? ⟨p, 1, none⟩ = some (.bool e.f) := cell_of_block h
theorem EAt9_o {w : World} {p : Nat} {e : Eff} (h : w.heap[p]? = some (.cells e.v 29 (0, 0))) : w.cell? ⟨p, 2, none⟩ = some (.bool e.o) := cell_of_block h
theorem EAt9_p {w : World} {p : Nat} {e : Eff} (h : w.heap[p]? = some (.cells e.v 29 (0, 0))) : w.cell? ⟨p, 3, none⟩ = some (.int .i64 e.p) := cell_of_block h
theorem EAt9_x {w : World} {p : Nat} {e : Eff} (h : w.heap[p]? = some (.cells e.v 29 (0, 0))) : w.cell? ⟨p, 4, none⟩ = some (.int .u32 e.x) := cell_of_block h
theorem At.setCr9 {w : World} {p : Nat} {s : Sta} (h : At w p s) (b : Nat) (hb : b < 8) (x : Int) : At (w.setCell ⟨p, 10 + b, none⟩ (.int .u32 x)) p (s.ctl b x) := by
  unfold At; rw [heap_setCell_row h, eight (p := fun b => s.v.setIfInBounds (10 + b) (.int .u32 x) = (s.ctl b x).v) ⟨rfl, rfl, rfl, rfl, rfl, rfl, rfl, rfl⟩ b hb]
theorem At.setHl {w : World} {p : Nat} {s : Sta} (h : At w p s) : At (w.setCell ⟨p, 18, none⟩ (.bool true)) p s.halt := heap_setCell_row h _
theorem At.hl {w : World} {p : Nat} {s : Sta} (h : At w p s) : w.cell? ⟨p, 18, none⟩ = some (.bool s.h) := cell_of_block h
theorem At.ctl9 {w : World} {p : Nat} {s : Sta} (h : At w p s) (b : Nat) (hb : b < 8) : w.cell? ⟨p, 10 + b, none⟩ = some (.int .u32 (s.c b)) :=
  (cell_of_block h).trans (eight (p := fun b => s.v[10 + b]? = some (.int .u32 (s.c b))) ⟨rfl, rfl, rfl, rfl, rfl, rfl, rfl, rfl⟩ b hb)
theorem Hid.mk {p : Prop} (h : p) : Hid p := h
end Go.Proofs.YtaifildofgeonaaDoor
