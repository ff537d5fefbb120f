/- jump: where an instruction leads to; idle, ask; the work of an instruction. -/
import Derived.Test.YtfpknklibiigfaaDoorAuto
import Derived.Test.YtfpknklibiigfaaDoorCrule
import Derived.Test.YtfpknklibiigfaaDoorHolds
import Derived.Test.YtfpknklibiigfaaDoorCreck
import Derived.Handy
namespace Go.Proofs.YtfpknklibiigfaaDoor
open Go.RowKit
set_option linter.unusedVariables false
set_option linter.unusedSimpArgs false

abbrev heldV (a : Int) : Value := .iface 107 (.int .u8 a)
abbrev besV (far c : Int) : Value := .iface 109 (.agg #[.int .i32 far, .int .i64 c])
theorem jmp_ops {op : Int} (h : 64 ≤ op ∧ op ≤ 74) : op = 73 ∨ op = 74 ∨ op = 72 ∨ (64 ≤ op ∧ op ≤ 71) := by omega

set_option maxHeartbeats 800000 in
theorem place_held (op a b imm : Int) (w : World) (h : op = 73 ∨ op = 74) :
    Calls Tryd.prog 42 #[.agg (insA op a b imm)] w fun e w' => e = .returned (heldV a) ∧ Kep w w' := by
  rcases h with rfl | rfl
  all_goals
    go_enter Tryd.func42, Tryd.ntmps42
    go_wp2
    go_ret
    exact ⟨rfl, kepA⟩

set_option maxHeartbeats 800000 in
theorem place_call (a b imm : Int) (w : World) :
    Calls Tryd.prog 42 #[.agg (insA 72 a b imm)] w fun e w' => e = .returned (besV imm 0) ∧ Kep w w' := by
  go_enter Tryd.func42, Tryd.ntmps42
  go_wp2
  go_ret
  exact ⟨rfl, kepA⟩

set_option maxHeartbeats 800000 in
theorem place_jmp (op a b imm : Int) (w : World) (h : 64 ≤ op ∧ op ≤ 71) :
    Calls Tryd.prog 42 #[.agg (insA op a b imm)] w fun e w' => e = .returned (besV imm (op - 64)) ∧ Kep w w' := by
  have x1 := ne_lit (op := op) (k := 72) (by omega)
  have x2 := ne_lit (op := op) (k := 73) (by omega)
  have x3 := ne_lit (op := op) (k := 74) (by omega)
  go_enter Tryd.func42, Tryd.ntmps42
  go_wp2
  go_ret
  exact ⟨rfl, kepA⟩

theorem is_held (a : Int) (w : World) : (Instr.typeAssert (heldV a) 94 109 true).run Tryd.prog w = .ok (.tuple #[.agg #[.int .i32 0, .int .i64 0], .bool false]) w := by kernel_rfl
theorem is_bes (far c : Int) (w : World) : (Instr.typeAssert (besV far c) 94 109 true).run Tryd.prog w = .ok (.tuple #[.agg #[.int .i32 far, .int .i64 c], .bool true]) w := by kernel_rfl

set_option maxHeartbeats 800000 in
theorem goes_held (a ps : Int) (w : World) :
    Calls Tryd.prog 43 #[heldV a, .int .u32 ps] w fun e w' => e = .returned (.bool true) ∧ Kep w w' := by
  have ta := is_held a
  go_enter Tryd.func43, Tryd.ntmps43
  go_wp2
  go_ret
  exact ⟨rfl, kepA⟩

set_option maxHeartbeats 800000 in
theorem goes_bes (far c ps : Int) (w : World) (h0 : 0 ≤ ps) (h1 : ps < 4294967296) :
    Calls Tryd.prog 43 #[besV far c, .int .u32 ps] w fun e w' => e = .returned (.bool (holdsB c ps)) ∧ Kep w w' := by
  have ta := is_bes far c
  go_enter Tryd.func43, Tryd.ntmps43
  go_wp2_with (go_at_call 63; refine (holds_any _ _ _ h0 h1).mono ?_; rintro e w' ⟨rfl, rfl⟩)
  go_ret
  exact ⟨rfl, kepA⟩

set_option maxHeartbeats 800000 in
theorem from_held (s : Sta) (a p : Nat) (w : World) (h : At w p s) (ha : (a : Int) < 8) :
    Calls Tryd.prog 90 #[.int .u8 a, .pointer (some ⟨p, 0, none⟩)] w fun e w' => e = .returned (.int .u32 (s.r a)) ∧ Kep w w' := by
  have ca := h.reg a (by omega)
  clear h
  go_enter Tryd.func90, Tryd.ntmps90
  go_wp2
  go_ret
  exact ⟨rfl, kepA⟩

set_option maxHeartbeats 800000 in
theorem from_bes (s : Sta) (far c : Int) (p : Nat) (w : World) (h : At w p s) (ok : s.Ok) (h2 : -2147483648 ≤ far) (h3 : far ≤ 2147483647) :
    Calls Tryd.prog 91 #[.agg #[.int .i32 far, .int .i64 c], .pointer (some ⟨p, 0, none⟩)] w fun e w' => e = .returned (.int .u32 ((s.pc + far % 4294967296) % 4294967296)) ∧ Kep w w' := by
  have c8 := h.pc
  have lt := h.lt
  have hp := ok.pc
  clear h ok
  go_enter Tryd.func91, Tryd.ntmps91
  go_wp2
  go_quiet (fail)
  go_wp2
  go_ret
  exact ⟨ret_int (by simp [IntKind.wrap_u32]), kepA⟩

theorem meth_held (a : Int) (w : World) : (method 137 107 (.int .u8 a) "mummer/core.from").run Tryd.prog w = .ok (90, .int .u8 a) w := by kernel_rfl
theorem meth_bes (far c : Int) (w : World) : (method 137 109 (.agg #[.int .i32 far, .int .i64 c]) "mummer/core.from").run Tryd.prog w = .ok (91, .agg #[.int .i32 far, .int .i64 c]) w := by kernel_rfl

end Go.Proofs.YtfpknklibiigfaaDoor
