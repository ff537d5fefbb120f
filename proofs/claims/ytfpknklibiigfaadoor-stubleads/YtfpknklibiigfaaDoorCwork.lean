/- The work of an instruction, as a function value; Do. -/
import Derived.Test.YtfpknklibiigfaaDoorCjmps
import Derived.Test.YtfpknklibiigfaaDoorAuto
import Derived.Test.YtfpknklibiigfaaDoorCrdiv
namespace Go.Proofs.YtfpknklibiigfaaDoor
open Go.RowKit
set_option linter.unusedVariables false
set_option linter.unusedSimpArgs false

def workK (op : Int) : Nat := if cls op = 1 then 33 else if cls op = 2 then 34 else if cls op = 3 then 35 else if cls op = 4 then 36 else 37
theorem cls_cases (op : Int) (h : cls op ≠ 0) : op = 0 ∨ (16 ≤ op ∧ op ≤ 33) ∨ (48 ≤ op ∧ op ≤ 58) ∨ (64 ≤ op ∧ op ≤ 74) ∨ op = 80 := by
  unfold cls at h
  repeat' split at h
  all_goals first | omega | (exact absurd rfl h)

set_option maxHeartbeats 1600000 in
set_option maxRecDepth 100000 in
theorem work_no (op : Int) (a b : Nat) (imm : Int) (w : World) (h0 : 0 ≤ op) (h1 : op < 256) (h2 : -2147483648 ≤ imm) (h3 : imm ≤ 2147483647) (hn : isIns op a b imm = false) (hT : Tabs w) :
    Calls Tryd.prog 27 #[.agg (insA op a b imm)] w fun e w' => e = .returned .nilFunc ∧ Kep w w' := by
  have MA : Hid (∀ w, Tabs w → Calls Tryd.prog 32 #[.agg (insA op a b imm), .bool false] w fun e w' => e = .returned (.bool (mayB (rowOf op false) a b imm)) ∧ Kep w w') := fun w hT => may_any op a b imm false w h0 h1 h2 h3 hT
  have hc : mayB (rowOf op false) a b imm = true → op ≠ 0 ∧ ¬ (16 ≤ op ∧ op ≤ 33) ∧ ¬ (48 ≤ op ∧ op ≤ 58) ∧ ¬ (64 ≤ op ∧ op ≤ 74) ∧ op ≠ 80 := by
    intro hm
    unfold isIns at hn
    rw [hm] at hn
    have hz : cls op = 0 := by simpa using hn
    refine ⟨?_, ?_, ?_, ?_, ?_⟩ <;> intro h <;> (unfold cls at hz; simp [h] at hz) <;> (repeat' split at hz) <;> first | omega | (exact absurd hz (by decide))
  have hT' : Hid (Tabs w) := hT
  clear hn hT h2 h3
  generalize mayB (rowOf op false) a b imm = mb at *
  go_enter Tryd.func27, Tryd.ntmps27
  go_wp2_with fail
  refine (MA.out _ (hT'.out.grown kepA)).mono ?_
  rintro e w1 ⟨rfl, K1⟩
  have G1 : Hid (Kep w w1) := kep_trans kepA K1
  obtain ⟨i0, i1, i2, i3⟩ := ins_at (b := w.heap.size) (op := op) (a := a) (c := b) (imm := imm) (K1.block blkA)
  clear K1 MA
  cases mb
  · clear hc
    go_wp2_with fail
    go_ret
    exact ⟨rfl, G1.out⟩
  · obtain ⟨n0, n1, n2, n3, n4⟩ := hc rfl
    have x0 := ne_lit n0
    have x4 := ne_lit n4
    have y1 : (decide (16 ≤ op) && decide (op ≤ 33)) = false := by simp; omega
    have y2 : (decide (48 ≤ op) && decide (op ≤ 58)) = false := by simp; omega
    have y3 : (decide (64 ≤ op) && decide (op ≤ 74)) = false := by simp; omega
    clear hc
    go_wp2_with fail
    all_goals first
      | (go_ret
         exact ⟨rfl, G1.out⟩)
      | (exfalso; clear y1 y2 y3; simp at *; omega)

set_option maxHeartbeats 1600000 in
set_option maxRecDepth 100000 in
theorem work_is (op : Int) (a b : Nat) (imm : Int) (k : Nat) (hk : workK op = k) (w : World) (h0 : 0 ≤ op) (h1 : op < 256) (h2 : -2147483648 ≤ imm) (h3 : imm ≤ 2147483647) (hn : isIns op a b imm = true) (hT : Tabs w) :
    Calls Tryd.prog 27 #[.agg (insA op a b imm)] w fun e w' => e = .returned (fnV k) ∧ Kep w w' := by
  unfold isIns at hn
  simp only [Bool.and_eq_true, bne_iff_ne, ne_eq] at hn
  have MA : Hid (∀ w, Tabs w → Calls Tryd.prog 32 #[.agg (insA op a b imm), .bool false] w fun e w' => e = .returned (.bool true) ∧ Kep w w') := fun w hT => by
    have := may_any op a b imm false w h0 h1 h2 h3 hT; rw [hn.1] at this; exact this
  have hT' : Hid (Tabs w) := hT
  have hc := cls_cases op hn.2
  clear hn hT h2 h3
  go_enter Tryd.func27, Tryd.ntmps27
  go_wp2_with fail
  refine (MA.out _ (hT'.out.grown kepA)).mono ?_
  rintro e w1 ⟨rfl, K1⟩
  have G1 : Hid (Kep w w1) := kep_trans kepA K1
  obtain ⟨i0, i1, i2, i3⟩ := ins_at (b := w.heap.size) (op := op) (a := a) (c := b) (imm := imm) (K1.block blkA)
  clear K1 MA
  rcases hc with rfl | hc | hc | hc | rfl
  · obtain rfl : 33 = k := hk
    go_wp2_with fail
    go_ret
    exact ⟨rfl, G1.out⟩
  · obtain rfl : 34 = k := by rw [← hk]; unfold workK cls; rw [if_neg (show ¬ op = 0 by omega), if_pos hc]; rfl
    have x0 := ne_lit (op := op) (k := 0) (by omega)
    have q1 := hc.1
    have q2 := hc.2
    clear hc hk
    go_wp2_with fail
    go_ret
    exact ⟨rfl, G1.out⟩
  · obtain rfl : 35 = k := by rw [← hk]; unfold workK cls; rw [if_neg (show ¬ op = 0 by omega), if_neg (show ¬ (16 ≤ op ∧ op ≤ 33) by omega), if_pos hc]; rfl
    have x0 := ne_lit (op := op) (k := 0) (by omega)
    have q1 := hc.1
    have q2 := hc.2
    clear hc hk
    go_wp2_with fail
    go_ret
    exact ⟨rfl, G1.out⟩
  · obtain rfl : 36 = k := by rw [← hk]; unfold workK cls; rw [if_neg (show ¬ op = 0 by omega), if_neg (show ¬ (16 ≤ op ∧ op ≤ 33) by omega), if_neg (show ¬ (48 ≤ op ∧ op ≤ 58) by omega), if_pos hc]; rfl
    have x0 := ne_lit (op := op) (k := 0) (by omega)
    have q1 := hc.1
    have q2 := hc.2
    clear hc hk
    go_wp2_with fail
    go_ret
    exact ⟨rfl, G1.out⟩
  · obtain rfl : 37 = k := hk
    go_wp2_with fail
    go_ret
    exact ⟨rfl, G1.out⟩
end Go.Proofs.YtfpknklibiigfaaDoor
