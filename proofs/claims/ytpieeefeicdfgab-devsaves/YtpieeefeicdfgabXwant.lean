/- Which interrupt is taken. -/
import Derived.Test.YtpieeefeicdfgabXbits
import Derived.WalkMore
namespace Go.Proofs.Ytpieeefeicdfgab
open Go.RowKit
set_option linter.unusedVariables false
set_option linter.unusedSimpArgs false

theorem tri0 (w : World) : (Instr.index 131 (.agg #[.int .i64 9, .int .i64 10, .int .i64 11]) (.int .i64 0)).run Try.prog w = .ok (.int .i64 9) w := by kernel_rfl
theorem tri1 (w : World) : (Instr.index 131 (.agg #[.int .i64 9, .int .i64 10, .int .i64 11]) (.int .i64 1)).run Try.prog w = .ok (.int .i64 10) w := by kernel_rfl
theorem tri2 (w : World) : (Instr.index 131 (.agg #[.int .i64 9, .int .i64 10, .int .i64 11]) (.int .i64 2)).run Try.prog w = .ok (.int .i64 11) w := by kernel_rfl

set_option maxHeartbeats 2000000 in
theorem wants_off (ps n : Int) (w : World) (h0 : 0 ≤ ps ∧ ps < 4294967296) (h1 : 0 ≤ n ∧ n < 4294967296) (h : ps / 2 % 2 = 0) :
    Calls Try.prog 64 #[.int .u32 ps, .int .u32 n] w fun e w' => e = .returned (.int .i64 0) ∧ Kep w w' := by
  have q : (bits .and .u32 ps 2 == 0) = true := by rw [and2_is ps h0, h]; rfl
  have t0 := tri0
  clear h h0 h1
  go_enter Try.func64, Try.ntmps64
  go_wp2_with fail
  try go_step3
  try go_wp2_with fail
  try go_step3
  go_wp2_with fail
  go_rounds 4
  dsimp only [Exit.noGoto]
  go_ret
  exact ⟨rfl, Kep.refl _⟩
set_option maxHeartbeats 2000000 in
theorem wants_0 (ps n : Int) (w : World) (h0 : 0 ≤ ps ∧ ps < 4294967296) (h1 : 0 ≤ n ∧ n < 4294967296) (h : ps / 2 % 2 = 1) (n0 : n % 2 = 1) :
    Calls Try.prog 64 #[.int .u32 ps, .int .u32 n] w fun e w' => e = .returned (.int .i64 9) ∧ Kep w w' := by
  have q : (bits .and .u32 ps 2 == 0) = false := by rw [and2_is ps h0, h]; rfl
  have t0 := tri0
  have t1 := tri1
  have t2 := tri2
  have q0 : (bits .and .u32 n 1 != 0) = true := by rw [and1_is n h1, n0]; rfl
  clear h h0 h1 n0
  go_enter Try.func64, Try.ntmps64
  go_wp2_with fail
  try go_step3
  try go_wp2_with fail
  try go_step3
  go_wp2_with fail
  go_rounds 4
  dsimp only [Exit.noGoto]
  go_ret
  exact ⟨rfl, Kep.refl _⟩
set_option maxHeartbeats 2000000 in
theorem wants_1 (ps n : Int) (w : World) (h0 : 0 ≤ ps ∧ ps < 4294967296) (h1 : 0 ≤ n ∧ n < 4294967296) (h : ps / 2 % 2 = 1) (n0 : n % 2 = 0) (n1 : n / 2 % 2 = 1) :
    Calls Try.prog 64 #[.int .u32 ps, .int .u32 n] w fun e w' => e = .returned (.int .i64 10) ∧ Kep w w' := by
  have q : (bits .and .u32 ps 2 == 0) = false := by rw [and2_is ps h0, h]; rfl
  have t0 := tri0
  have t1 := tri1
  have t2 := tri2
  have q0 : (bits .and .u32 n 1 != 0) = false := by rw [and1_is n h1, n0]; rfl
  have q1 : (bits .and .u32 (n / 2) 1 != 0) = true := by rw [and1_is (n / 2) (by omega), n1]; rfl
  clear h h0 h1 n0 n1
  go_enter Try.func64, Try.ntmps64
  go_wp2_with fail
  try go_step3
  try go_wp2_with fail
  try go_step3
  go_wp2_with fail
  go_rounds 4
  dsimp only [Exit.noGoto]
  go_ret
  exact ⟨rfl, Kep.refl _⟩
set_option maxHeartbeats 2000000 in
theorem wants_2 (ps n : Int) (w : World) (h0 : 0 ≤ ps ∧ ps < 4294967296) (h1 : 0 ≤ n ∧ n < 4294967296) (h : ps / 2 % 2 = 1) (n0 : n % 2 = 0) (n1 : n / 2 % 2 = 0) (n2 : n / 4 % 2 = 1) :
    Calls Try.prog 64 #[.int .u32 ps, .int .u32 n] w fun e w' => e = .returned (.int .i64 11) ∧ Kep w w' := by
  have q : (bits .and .u32 ps 2 == 0) = false := by rw [and2_is ps h0, h]; rfl
  have t0 := tri0
  have t1 := tri1
  have t2 := tri2
  have q0 : (bits .and .u32 n 1 != 0) = false := by rw [and1_is n h1, n0]; rfl
  have q1 : (bits .and .u32 (n / 2) 1 != 0) = false := by rw [and1_is (n / 2) (by omega), n1]; rfl
  have q2 : (bits .and .u32 (n / 4) 1 != 0) = true := by rw [and1_is (n / 4) (by omega), n2]; rfl
  clear h h0 h1 n0 n1 n2
  go_enter Try.func64, Try.ntmps64
  go_wp2_with fail
  try go_step3
  try go_wp2_with fail
  try go_step3
  go_wp2_with fail
  go_rounds 4
  dsimp only [Exit.noGoto]
  go_ret
  exact ⟨rfl, Kep.refl _⟩
set_option maxHeartbeats 2000000 in
theorem wants_none (ps n : Int) (w : World) (h0 : 0 ≤ ps ∧ ps < 4294967296) (h1 : 0 ≤ n ∧ n < 4294967296) (h : ps / 2 % 2 = 1) (n0 : n % 2 = 0) (n1 : n / 2 % 2 = 0) (n2 : n / 4 % 2 = 0) :
    Calls Try.prog 64 #[.int .u32 ps, .int .u32 n] w fun e w' => e = .returned (.int .i64 0) ∧ Kep w w' := by
  have q : (bits .and .u32 ps 2 == 0) = false := by rw [and2_is ps h0, h]; rfl
  have t0 := tri0
  have t1 := tri1
  have t2 := tri2
  have q0 : (bits .and .u32 n 1 != 0) = false := by rw [and1_is n h1, n0]; rfl
  have q1 : (bits .and .u32 (n / 2) 1 != 0) = false := by rw [and1_is (n / 2) (by omega), n1]; rfl
  have q2 : (bits .and .u32 (n / 4) 1 != 0) = false := by rw [and1_is (n / 4) (by omega), n2]; rfl
  clear h h0 h1 n0 n1 n2
  go_enter Try.func64, Try.ntmps64
  go_wp2_with fail
  try go_step3
  try go_wp2_with fail
  try go_step3
  go_wp2_with fail
  go_rounds 4
  dsimp only [Exit.noGoto]
  go_ret
  exact ⟨rfl, Kep.refl _⟩
theorem wants_any (ps n : Int) (w : World) (h0 : 0 ≤ ps ∧ ps < 4294967296) (h1 : 0 ≤ n ∧ n < 4294967296) :
    Calls Try.prog 64 #[.int .u32 ps, .int .u32 n] w fun e w' => e = .returned (.int .i64 (wantsI ps n)) ∧ Kep w w' := by
  unfold wantsI
  by_cases a : ps / 2 % 2 = 0
  · rw [if_pos a]; exact wants_off ps n w h0 h1 a
  have a' : ps / 2 % 2 = 1 := by omega
  rw [if_neg a]
  by_cases b : n % 2 = 1
  · rw [if_pos b]; exact wants_0 ps n w h0 h1 a' b
  rw [if_neg b]
  by_cases c : n / 2 % 2 = 1
  · rw [if_pos c]; exact wants_1 ps n w h0 h1 a' (by omega) c
  rw [if_neg c]
  by_cases d : n / 4 % 2 = 1
  · rw [if_pos d]; exact wants_2 ps n w h0 h1 a' (by omega) (by omega) d
  rw [if_neg d]; exact wants_none ps n w h0 h1 a' (by omega) (by omega) (by omega)

end Go.Proofs.Ytpieeefeicdfgab
