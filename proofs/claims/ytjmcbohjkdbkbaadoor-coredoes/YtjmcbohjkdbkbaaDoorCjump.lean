/- jump: where an instruction leads to; idle, ask; the work of an instruction. -/
import Derived.Test.YtjmcbohjkdbkbaaDoorCrule
import Derived.Test.YtjmcbohjkdbkbaaDoorHolds
import Derived.Test.YtjmcbohjkdbkbaaDoorCreck
import Derived.Handy
namespace Go.Proofs.YtjmcbohjkdbkbaaDoor
open Go.RowKit
set_option linter.unusedVariables false
set_option linter.unusedSimpArgs false

abbrev heldV (a : Int) : Value := .iface 136 (.int .u8 a)
abbrev besV (far c : Int) : Value := .iface 138 (.agg #[.int .i32 far, .int .i64 c])
theorem jmp_ops {op : Int} (h : 64 ≤ op ∧ op ≤ 74) : op = 73 ∨ op = 74 ∨ op = 72 ∨ (64 ≤ op ∧ op ≤ 71) := by omega

set_option maxHeartbeats 800000 in
theorem place_held (op a b imm : Int) (w : World) (h : op = 73 ∨ op = 74) :
    Calls Tryd.prog 69 #[.agg (insA op a b imm)] w fun e w' => e = .returned (heldV a) ∧ Kep w w' := by
  rcases h with rfl | rfl
  all_goals
    go_enter Tryd.func69, Tryd.ntmps69
    go_wp2
    go_ret
    exact ⟨rfl, by (repeat (first | (with_reducible assumption) | (with_reducible exact Kep.refl _) | (with_reducible exact Hid.out (by assumption)) | (with_reducible refine Kep.alloc ?_ _) | (with_reducible refine Kep.drew ?_) | (with_reducible refine Kep.drewN ?_ _) | (with_reducible refine Kep.setRow ?_ _ _ (by (first | omega | (simp only [World.size_alloc, World.size_setCell, size_setRow, World.size_drew]; done) | (simp only [World.size_alloc, World.size_setCell, size_setRow, World.size_drew]; omega)))) | (with_reducible refine Kep.setCell ?_ (by first | omega | (simp only []; omega) | (show _ ≤ _; omega)) _)))⟩

set_option maxHeartbeats 800000 in
theorem place_call (a b imm : Int) (w : World) :
    Calls Tryd.prog 69 #[.agg (insA 72 a b imm)] w fun e w' => e = .returned (besV imm 0) ∧ Kep w w' := by
  go_enter Tryd.func69, Tryd.ntmps69
  go_wp2
  go_ret
  exact ⟨rfl, by (repeat (first | (with_reducible assumption) | (with_reducible exact Kep.refl _) | (with_reducible exact Hid.out (by assumption)) | (with_reducible refine Kep.alloc ?_ _) | (with_reducible refine Kep.drew ?_) | (with_reducible refine Kep.drewN ?_ _) | (with_reducible refine Kep.setRow ?_ _ _ (by (first | omega | (simp only [World.size_alloc, World.size_setCell, size_setRow, World.size_drew]; done) | (simp only [World.size_alloc, World.size_setCell, size_setRow, World.size_drew]; omega)))) | (with_reducible refine Kep.setCell ?_ (by first | omega | (simp only []; omega) | (show _ ≤ _; omega)) _)))⟩

set_option maxHeartbeats 800000 in
theorem place_jmp (op a b imm : Int) (w : World) (h : 64 ≤ op ∧ op ≤ 71) :
    Calls Tryd.prog 69 #[.agg (insA op a b imm)] w fun e w' => e = .returned (besV imm (op - 64)) ∧ Kep w w' := by
  have x1 := ne_lit (op := op) (k := 72) (by omega)
  have x2 := ne_lit (op := op) (k := 73) (by omega)
  have x3 := ne_lit (op := op) (k := 74) (by omega)
  go_enter Tryd.func69, Tryd.ntmps69
  go_wp2
  go_ret
  exact ⟨rfl, by (repeat (first | (with_reducible assumption) | (with_reducible exact Kep.refl _) | (with_reducible exact Hid.out (by assumption)) | (with_reducible refine Kep.alloc ?_ _) | (with_reducible refine Kep.drew ?_) | (with_reducible refine Kep.drewN ?_ _) | (with_reducible refine Kep.setRow ?_ _ _ (by (first | omega | (simp only [World.size_alloc, World.size_setCell, size_setRow, World.size_drew]; done) | (simp only [World.size_alloc, World.size_setCell, size_setRow, World.size_drew]; omega)))) | (with_reducible refine Kep.setCell ?_ (by first | omega | (simp only []; omega) | (show _ ≤ _; omega)) _)))⟩

theorem is_held (a : Int) (w : World) : (Instr.typeAssert (heldV a) 121 138 true).run Tryd.prog w = .ok (.tuple #[.agg #[.int .i32 0, .int .i64 0], .bool false]) w := by kernel_rfl
theorem is_bes (far c : Int) (w : World) : (Instr.typeAssert (besV far c) 121 138 true).run Tryd.prog w = .ok (.tuple #[.agg #[.int .i32 far, .int .i64 c], .bool true]) w := by kernel_rfl

set_option maxHeartbeats 800000 in
theorem goes_held (a ps : Int) (w : World) :
    Calls Tryd.prog 70 #[heldV a, .int .u32 ps] w fun e w' => e = .returned (.bool true) ∧ Kep w w' := by
  have ta := is_held a
  go_enter Tryd.func70, Tryd.ntmps70
  go_wp2
  go_ret
  exact ⟨rfl, by (repeat (first | (with_reducible assumption) | (with_reducible exact Kep.refl _) | (with_reducible exact Hid.out (by assumption)) | (with_reducible refine Kep.alloc ?_ _) | (with_reducible refine Kep.drew ?_) | (with_reducible refine Kep.drewN ?_ _) | (with_reducible refine Kep.setRow ?_ _ _ (by (first | omega | (simp only [World.size_alloc, World.size_setCell, size_setRow, World.size_drew]; done) | (simp only [World.size_alloc, World.size_setCell, size_setRow, World.size_drew]; omega)))) | (with_reducible refine Kep.setCell ?_ (by first | omega | (simp only []; omega) | (show _ ≤ _; omega)) _)))⟩

set_option maxHeartbeats 800000 in
theorem goes_bes (far c ps : Int) (w : World) (h0 : 0 ≤ ps) (h1 : ps < 4294967296) :
    Calls Tryd.prog 70 #[besV far c, .int .u32 ps] w fun e w' => e = .returned (.bool (holdsB c ps)) ∧ Kep w w' := by
  have ta := is_bes far c
  go_enter Tryd.func70, Tryd.ntmps70
  go_wp2_with (go_at_call 94; refine (holds_any _ _ _ h0 h1).mono ?_; rintro e w' ⟨rfl, rfl⟩)
  go_ret
  exact ⟨rfl, by (repeat (first | (with_reducible assumption) | (with_reducible exact Kep.refl _) | (with_reducible exact Hid.out (by assumption)) | (with_reducible refine Kep.alloc ?_ _) | (with_reducible refine Kep.drew ?_) | (with_reducible refine Kep.drewN ?_ _) | (with_reducible refine Kep.setRow ?_ _ _ (by (first | omega | (simp only [World.size_alloc, World.size_setCell, size_setRow, World.size_drew]; done) | (simp only [World.size_alloc, World.size_setCell, size_setRow, World.size_drew]; omega)))) | (with_reducible refine Kep.setCell ?_ (by first | omega | (simp only []; omega) | (show _ ≤ _; omega)) _)))⟩

set_option maxHeartbeats 800000 in
theorem from_held (s : Sta) (a p : Nat) (w : World) (h : At w p s) (ha : (a : Int) < 8) :
    Calls Tryd.prog 140 #[.int .u8 a, .pointer (some ⟨p, 0, none⟩)] w fun e w' => e = .returned (.int .u32 (s.r a)) ∧ Kep w w' := by
  have ca := h.reg a (by omega)
  clear h
  go_enter Tryd.func140, Tryd.ntmps140
  go_wp2
  go_ret
  exact ⟨rfl, by (repeat (first | (with_reducible assumption) | (with_reducible exact Kep.refl _) | (with_reducible exact Hid.out (by assumption)) | (with_reducible refine Kep.alloc ?_ _) | (with_reducible refine Kep.drew ?_) | (with_reducible refine Kep.drewN ?_ _) | (with_reducible refine Kep.setRow ?_ _ _ (by (first | omega | (simp only [World.size_alloc, World.size_setCell, size_setRow, World.size_drew]; done) | (simp only [World.size_alloc, World.size_setCell, size_setRow, World.size_drew]; omega)))) | (with_reducible refine Kep.setCell ?_ (by first | omega | (simp only []; omega) | (show _ ≤ _; omega)) _)))⟩

set_option maxHeartbeats 800000 in
theorem from_bes (s : Sta) (far c : Int) (p : Nat) (w : World) (h : At w p s) (ok : s.Ok) (h2 : -2147483648 ≤ far) (h3 : far ≤ 2147483647) :
    Calls Tryd.prog 141 #[.agg #[.int .i32 far, .int .i64 c], .pointer (some ⟨p, 0, none⟩)] w fun e w' => e = .returned (.int .u32 ((s.pc + far % 4294967296) % 4294967296)) ∧ Kep w w' := by
  have c8 := h.pc
  have lt := h.lt
  have hp := ok.pc
  clear h ok
  go_enter Tryd.func141, Tryd.ntmps141
  go_wp2
  go_quiet (fail)
  go_wp2
  go_ret
  exact ⟨ret_int (by simp [IntKind.wrap_u32]), by (repeat (first | (with_reducible assumption) | (with_reducible exact Kep.refl _) | (with_reducible exact Hid.out (by assumption)) | (with_reducible refine Kep.alloc ?_ _) | (with_reducible refine Kep.drew ?_) | (with_reducible refine Kep.drewN ?_ _) | (with_reducible refine Kep.setRow ?_ _ _ (by (first | omega | (simp only [World.size_alloc, World.size_setCell, size_setRow, World.size_drew]; done) | (simp only [World.size_alloc, World.size_setCell, size_setRow, World.size_drew]; omega)))) | (with_reducible refine Kep.setCell ?_ (by first | omega | (simp only []; omega) | (show _ ≤ _; omega)) _)))⟩

theorem meth_held (a : Int) (w : World) : (method 176 136 (.int .u8 a) "mummer/core.from").run Tryd.prog w = .ok (140, .int .u8 a) w := by kernel_rfl
theorem meth_bes (far c : Int) (w : World) : (method 176 138 (.agg #[.int .i32 far, .int .i64 c]) "mummer/core.from").run Tryd.prog w = .ok (141, .agg #[.int .i32 far, .int .i64 c]) w := by kernel_rfl

end Go.Proofs.YtjmcbohjkdbkbaaDoor
