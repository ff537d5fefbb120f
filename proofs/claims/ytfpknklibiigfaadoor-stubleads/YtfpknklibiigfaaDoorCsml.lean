/- What an operation reaches; a number's lowest bytes; what is taken; an address. -/
import Derived.Test.YtfpknklibiigfaaDoorCst
import Derived.Deep.QuietTactic
import Derived.BigQuiet
namespace Go.Proofs.YtfpknklibiigfaaDoor
open Go.RowKit
set_option linter.unusedVariables false
set_option linter.unusedSimpArgs false

theorem mem_ops {op : Int} (h : 48 ≤ op ∧ op ≤ 58) : op = 48 ∨ op = 49 ∨ op = 50 ∨ op = 51 ∨ op = 52 ∨ op = 53 ∨ op = 54 ∨ op = 55 ∨ op = 56 ∨ op = 57 ∨ op = 58 := by omega

theorem v_seven (s : Sta) : s.v[7]'(by rw [v_size]; decide) = .int .u32 (s.r 7) := rfl
theorem v_six (s : Sta) : s.v[6]'(by rw [v_size]; decide) = .int .u32 (s.r 6) := rfl
theorem v_eight (s : Sta) : s.v[8]'(by rw [v_size]; decide) = .int .u32 s.pc := rfl
theorem v_nine (s : Sta) : s.v[9]'(by rw [v_size]; decide) = .int .u32 s.ps := rfl

set_option maxHeartbeats 800000 in
theorem reach_any (op : Int) (w : World) (h0 : 0 ≤ op) (h1 : op < 256) :
    Calls Tryd.prog 60 #[.int .u8 op] w fun e w' => e = .returned (.tuple #[.int .i64 (rK op), .int .i64 (rN op)]) ∧ w' = w := by
  by_cases m : 48 ≤ op ∧ op ≤ 58
  · rcases mem_ops m with rfl | rfl | rfl | rfl | rfl | rfl | rfl | rfl | rfl | rfl | rfl
    all_goals
      clear m h0 h1
      go_enter Tryd.func60, Tryd.ntmps60
      go_wp2
      go_ret2
      exact ⟨rfl, rfl⟩
  · have hk : rK op = 0 := by unfold rK; rw [if_neg (by omega), if_neg (by omega)]
    have hn : rN op = 0 := by unfold rN; rw [if_neg (by omega), if_neg (by omega), if_neg (by omega)]
    rw [hk, hn]
    have x0 := ne_lit (op := op) (k := 48) (by omega)
    have x1 := ne_lit (op := op) (k := 49) (by omega)
    have x2 := ne_lit (op := op) (k := 50) (by omega)
    have x3 := ne_lit (op := op) (k := 51) (by omega)
    have x4 := ne_lit (op := op) (k := 52) (by omega)
    have x5 := ne_lit (op := op) (k := 53) (by omega)
    have x6 := ne_lit (op := op) (k := 54) (by omega)
    have x7 := ne_lit (op := op) (k := 55) (by omega)
    have x8 := ne_lit (op := op) (k := 56) (by omega)
    have x9 := ne_lit (op := op) (k := 57) (by omega)
    have x10 := ne_lit (op := op) (k := 58) (by omega)
    clear m hk hn
    go_enter Tryd.func60, Tryd.ntmps60
    go_wp2
    go_ret2
    exact ⟨rfl, rfl⟩

set_option maxHeartbeats 800000 in
theorem lowest_any (x n : Int) (w : World) (h0 : 0 ≤ x) (h1 : x < 4294967296) (hn : n = 1 ∨ n = 2 ∨ n = 4) :
    Calls Tryd.prog 62 #[.int .u32 x, .int .i64 n] w fun e w' => e = .returned (.int .u32 (lowI x n)) ∧ w' = w := by
  rcases hn with rfl | rfl | rfl
  all_goals
    go_enter Tryd.func62, Tryd.ntmps62
    go_wp2
    go_ret
    exact ⟨ret_int (by simp [lowI, IntKind.wrap_u8, IntKind.wrap_u16] <;> omega), rfl⟩

set_option maxHeartbeats 800000 in
theorem address_any (s : Sta) (op : Int) (a b : Nat) (imm : Int) (w : World) (ok : s.Ok) (hb : (b : Int) < 8) (h2 : -2147483648 ≤ imm) (h3 : imm ≤ 2147483647) :
    Calls Tryd.prog 61 #[.agg s.v, .agg (insA op a b imm)] w fun e w' => e = .returned (.int .u32 (adr s op b imm)) ∧ Kep w w' := by
  have r7 := ok.r 7
  have rb := ok.r b
  have vb := v_reg s b (by omega)
  have v7 := v_seven s
  have vs := v_size s
  by_cases e1 : op = 56
  · subst e1
    go_enter Tryd.func61, Tryd.ntmps61
    go_wp2
    go_ret
    exact ⟨ret_int (by simp [adr]), ((Kep.refl _).alloc _).alloc _⟩
  by_cases e2 : op = 57
  · subst e2
    go_enter Tryd.func61, Tryd.ntmps61
    go_wp2
    go_ret
    exact ⟨ret_int (by simp [adr]), ((Kep.refl _).alloc _).alloc _⟩
  have x1 := ne_lit e1
  have x2 := ne_lit e2
  have he : adr s op b imm = (s.r b + imm % 4294967296) % 4294967296 := by unfold adr; rw [if_neg e1, if_neg e2]
  rw [he]
  clear e1 e2 he
  go_enter Tryd.func61, Tryd.ntmps61
  go_wp2
  go_quiet (fail)
  go_wp2
  go_ret
  exact ⟨ret_int (by simp [IntKind.wrap_u32]), (((Kep.refl _).alloc _).alloc _).drewN _⟩
end Go.Proofs.YtfpknklibiigfaaDoor
