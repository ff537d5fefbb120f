/- What a table's Reads and Writes answer. -/
import Derived.Test.YtaifildofgeonaaDoorKreg
import Derived.Test.YtaifildofgeonaaDoorKof
namespace Go.Proofs.YtaifildofgeonaaDoor
open Go.RowKit
set_option linter.unusedVariables false

theorem field_r (o : Option Rw) (w : World) : (Instr.field 69 (.agg (gA o)) 1).run Tryd.prog w = .ok (.agg #[.bool (gRa o), .bool (gRb o), .int .u8 (gRi o)]) w := by kernel_rfl
theorem field_w (o : Option Rw) (w : World) : (Instr.field 69 (.agg (gA o)) 2).run Tryd.prog w = .ok (.agg #[.bool (gWa o), .bool (gWb o), .int .u8 (gWi o)]) w := by kernel_rfl

set_option maxHeartbeats 4000000 in
theorem writes_any (op a b imm : Int) (h0 : 0 ≤ op) (h1 : op < 256) (h2 : -2147483648 ≤ imm) (h3 : imm ≤ 2147483647) (ha : 0 ≤ a) (hb : 0 ≤ b) (W w : World) (p o kb : Nat) (hT : Tabs W) (h : Tb W w p o kb) :
    Calls Tryd.prog 15 #[.pointer (some ⟨p, 0, none⟩), .agg (insA op a b imm)] w fun e w' => e = .returned (.int .u8 (setB (mayB (rowOf op true) a b imm) (gWa (tabF op)) (gWb (tabF op)) (gWi (tabF op)) a b)) ∧ Tb W w' p o kb ∧ Stp o kb w w' := by
  have hA : Hid (∀ w1 w2 p o kb, Tb w1 w2 p o kb → Calls Tryd.prog 29 #[.pointer (some ⟨p, 0, none⟩), .int .u8 op] w2 fun e w' => e = .returned (.agg (gA (tabF op))) ∧ Asked w' o kb ∧ Stp o kb w2 w') := fun w1 w2 p o kb h => about_any op h0 h1 w1 w2 p o kb h
  have hO : Hid (∀ pa pb it w, Tabs w → Calls Tryd.prog 30 #[.agg #[.bool pa, .bool pb, .int .u8 it], .agg (insA op a b imm)] w fun e w' => e = .returned (.int .u8 (setB (mayB (rowOf op true) a b imm) pa pb it a b)) ∧ Kep w w') := fun pa pb it w hT => kof_any pa pb it op a b imm w h0 h1 h2 h3 ha hb hT
  have hT' : Hid (Tabs W) := hT
  have hfd := field_w (tabF op)
  have T1 : Hid (∀ x, Tb W (w.alloc x) p o kb) := fun x => h.kp ((Kep.refl _).alloc _)
  have hl := h.asked.lt
  clear h hT h0 h1 h2 h3 ha hb
  go_enter Tryd.func15, Tryd.ntmps15
  go_wp2_with fail
  have T3 := T1.out (.cells (insA op a b imm) 27)
  have l0 : ∀ i : TW W (w.alloc (.cells (insA op a b imm) 27)) p o kb, i.val.cell? ⟨w.heap.size, 0, none⟩ = some (.int .u8 op) := fun i => (i.cell (by simp) (by omega) (by omega)).trans (cell_of_block (heap_alloc_new _ _))
  have l1 : ∀ i : TW W (w.alloc (.cells (insA op a b imm) 27)) p o kb, i.val.cell? ⟨w.heap.size, 1, none⟩ = some (.int .u8 a) := fun i => (i.cell (by simp) (by omega) (by omega)).trans (cell_of_block (heap_alloc_new _ _))
  have l2 : ∀ i : TW W (w.alloc (.cells (insA op a b imm) 27)) p o kb, i.val.cell? ⟨w.heap.size, 2, none⟩ = some (.int .u8 b) := fun i => (i.cell (by simp) (by omega) (by omega)).trans (cell_of_block (heap_alloc_new _ _))
  have l3 : ∀ i : TW W (w.alloc (.cells (insA op a b imm) 27)) p o kb, i.val.cell? ⟨w.heap.size, 3, none⟩ = some (.int .i32 imm) := fun i => (i.cell (by simp) (by omega) (by omega)).trans (cell_of_block (heap_alloc_new _ _))
  have hne : Nonempty (TW W (w.alloc (.cells (insA op a b imm) 27)) p o kb) := ⟨⟨_, T3, Stp.refl _⟩⟩
  refine region_tw (by kernel_rfl) (by kernel_rfl) T3 ?_
  repeat (go_big_quiet_step ((first
    | (go_at_call 29; refine (hA.out _ _ _ _ _ (TW.tb _)).mono ?_; rintro e w6 ⟨rfl, T6, S6⟩; exact ⟨rfl, ⟨_, (TW.tb _).stp S6 T6, Stp.trans (TW.st _) S6⟩, rfl⟩)
    | (go_at_call 30; refine (hO.out _ _ _ _ (hT'.grown (TW.tb _).kep)).mono ?_; rintro e w6 ⟨rfl, g6⟩; exact ⟨rfl, ⟨_, (TW.tb _).kp g6, Stp.trans (TW.st _) (Stp.of_kep g6)⟩, rfl⟩))))
  refine wpQuiet_nil ?_
  rintro _ ⟨i, rfl⟩
  have G3 : Hid (Tb W i.val p o kb ∧ Stp o kb w i.val) := ⟨i.tb, Stp.trans (Stp.of_kep ((Kep.refl _).alloc _)) i.st⟩
  go_wp2_with fail
  go_ret
  exact ⟨rfl, G3.out⟩
end Go.Proofs.YtaifildofgeonaaDoor
