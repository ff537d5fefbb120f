/- What May answers: whether the operation is there and each field is as its form says. -/
import Derived.Test.YtpalbpjmjbcelaaDoorSize
namespace Go.Proofs.YtpalbpjmjbcelaaDoor
open Go.RowKit

abbrev insA (op a b imm : Int) : Array Value := #[.int .u8 op, .int .u8 a, .int .u8 b, .int .i32 imm]
def mayB (r : Nat) (a b imm : Int) : Bool := r != 0 && (((decide (a ≤ f1 r) && decide (b ≤ f2 r)) && decide (lo r ≤ imm)) && decide (imm ≤ hi r))

theorem Tabs.form0 {w : World} (h : Tabs w) : w.cell? ⟨0, 0, none⟩ = some (.int .u8 0) ∧ w.cell? ⟨0, 1, none⟩ = some (.int .u8 0) ∧
    w.cell? ⟨0, 2, none⟩ = some (.int .u8 0) ∧ w.cell? ⟨0, 3, none⟩ = some (.int .u8 0) ∧ w.cell? ⟨0, 4, none⟩ = some (.int .u8 0) := h.form 0 (by decide)

theorem form_eq (r : Nat) (hr : r < 10) (w : World) : Sem.run Tryd.prog (Op.equalIn 10000 75 (.agg (formA r)) (.agg #[.int .u8 0, .int .u8 0, .int .u8 0, .int .u8 0, .int .u8 0])) w = .ok (r == 0) w :=
  ten (p := fun r => Sem.run Tryd.prog (Op.equalIn 10000 75 (.agg (formA r)) (.agg #[.int .u8 0, .int .u8 0, .int .u8 0, .int .u8 0, .int .u8 0])) w = .ok (r == 0) w) r hr
    (by kernel_rfl) (by kernel_rfl) (by kernel_rfl) (by kernel_rfl) (by kernel_rfl) (by kernel_rfl) (by kernel_rfl) (by kernel_rfl) (by kernel_rfl) (by kernel_rfl)

set_option maxHeartbeats 4000000 in
set_option maxRecDepth 100000 in
theorem may_row (r : Nat) (hr : r < 10) (op a b imm : Int) (host : Bool) (hrow : rowOf op host = r) (w : World) (h0 : 0 ≤ op) (h1 : op < 256) (h2 : -2147483648 ≤ imm) (h3 : imm ≤ 2147483647) (hT : Tabs w) :
    Calls Tryd.prog 16 #[.agg (insA op a b imm), .bool host] w fun e w' => e = .returned (.bool (mayB r a b imm)) ∧ Kep w w' := by
  go_enter Tryd.func16, Tryd.ntmps16
  go_wp2_with fail
  refine (formOf_any op host _ h0 h1 (hT.grown ((Kep.refl _).alloc _))).mono ?_
  rintro e w1 ⟨rfl, g1⟩
  rw [hrow]
  have G1 : Hid (Kep w w1) := kep_trans ((Kep.refl _).alloc _) g1
  have hT1 := hT.grown G1
  have z0 : 0 < w1.heap.size := by have := tabs_size hT1; omega
  obtain ⟨c0, c1, c2, c3, c4⟩ := hT1.form0
  have d0 := g1.cell (o := 0) (b := w.heap.size) (by simp)
  have d1 := g1.cell (o := 1) (b := w.heap.size) (by simp)
  have d2 := g1.cell (o := 2) (b := w.heap.size) (by simp)
  have d3 := g1.cell (o := 3) (b := w.heap.size) (by simp)
  simp at d0 d1 d2 d3
  have z1 : w.heap.size < w1.heap.size := Nat.lt_of_lt_of_le (by simp) g1.size
  have he := form_eq r hr
  unfold formA at he
  clear hrow g1 hT hT1 h0 h1
  unfold formA
  by_cases hz : r = 0
  · subst hz
    have hz : ((0 : Nat) == 0) = true := rfl
    rw [hz] at he
    go_wp2_with fail
    go_ret
    exact ⟨rfl, G1.alloc _⟩
  · have hz' : (r == 0) = false := by simpa using hz
    rw [hz'] at he
    go_wp2_with fail
    refine (imm_any r hr _).mono ?_
    rintro e w2 ⟨rfl, g2⟩
    have G2 : Hid (Kep w w2) := kep_trans (G1.alloc _) g2
    have c0' := (g2.cell (o := 0) (b := w1.heap.size) (by simp))
    have c1' := (g2.cell (o := 1) (b := w1.heap.size) (by simp))
    have c2' := (g2.cell (o := 2) (b := w1.heap.size) (by simp))
    have d0' := (g2.cell (o := 0) (b := w.heap.size) (by simp; omega)).trans ((cell_old z1).trans d0)
    have d1' := (g2.cell (o := 1) (b := w.heap.size) (by simp; omega)).trans ((cell_old z1).trans d1)
    have d2' := (g2.cell (o := 2) (b := w.heap.size) (by simp; omega)).trans ((cell_old z1).trans d2)
    have d3' := (g2.cell (o := 3) (b := w.heap.size) (by simp; omega)).trans ((cell_old z1).trans d3)
    simp at c0' c1' c2'
    clear g2 d0 d1 d2 d3 c0 c1 c2 c3 c4 he
    have hz2 : Hid ((r == 0) = false) := hz'
    clear hz' hz
    go_wp2_with fail
    all_goals go_ret
    all_goals exact ⟨ret_bool (by have hz3 := hz2.out; first | (simp_all [mayB]; done) | (simp_all [mayB]; intros; omega)), G2⟩
theorem may_any (op a b imm : Int) (host : Bool) (w : World) (h0 : 0 ≤ op) (h1 : op < 256) (h2 : -2147483648 ≤ imm) (h3 : imm ≤ 2147483647) (hT : Tabs w) :
    Calls Tryd.prog 16 #[.agg (insA op a b imm), .bool host] w fun e w' => e = .returned (.bool (mayB (rowOf op host) a b imm)) ∧ Kep w w' :=
  may_row _ (rowOf_lt _ _) op a b imm host rfl w h0 h1 h2 h3 hT
end Go.Proofs.YtpalbpjmjbcelaaDoor
