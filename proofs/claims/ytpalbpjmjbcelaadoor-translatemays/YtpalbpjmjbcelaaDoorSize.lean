/- What the code's small functions on a form answer: its size, whether it has registers, between which numbers Imm lies. -/
import Derived.Test.YtpalbpjmjbcelaaDoorForm
namespace Go.Proofs.YtpalbpjmjbcelaaDoor
open Go.RowKit

def sz (r : Nat) : Int := [0, 1, 2, 2, 2, 3, 3, 3, 3, 6].getD r 0
def lo (r : Nat) : Int := [0, 0, 0, 0, 0, -128, -128, -32768, 0, -2147483648].getD r 0
def hi (r : Nat) : Int := [0, 0, 0, 0, 255, 127, 127, 32767, 65535, 2147483647].getD r 0
def hasA (r : Nat) : Bool := [false, false, true, true, false, true, true, false, false, true].getD r false
theorem ten {p : Nat → Prop} (r : Nat) (hr : r < 10) (h0 : p 0) (h1 : p 1) (h2 : p 2) (h3 : p 3) (h4 : p 4) (h5 : p 5) (h6 : p 6) (h7 : p 7) (h8 : p 8) (h9 : p 9) : p r := by
  rcases (by omega : r = 0 ∨ r = 1 ∨ r = 2 ∨ r = 3 ∨ r = 4 ∨ r = 5 ∨ r = 6 ∨ r = 7 ∨ r = 8 ∨ r = 9) with rfl | rfl | rfl | rfl | rfl | rfl | rfl | rfl | rfl | rfl <;> assumption

set_option maxHeartbeats 400000 in
theorem has_of (a b c d e : Int) (w : World) :
    Calls Tryd.prog 48 #[.agg #[.int .u8 a, .int .u8 b, .int .u8 c, .int .u8 d, .int .u8 e]] w fun x w' => x = .returned (.bool (decide (b > 0))) ∧ w' = w.alloc (.cells #[.int .u8 a, .int .u8 b, .int .u8 c, .int .u8 d, .int .u8 e] 75) := by
  go_enter Tryd.func48, Tryd.ntmps48
  go_wp2
  go_ret
  exact ⟨rfl, rfl⟩
theorem has_any (r : Nat) (hr : r < 10) (w : World) :
    Calls Tryd.prog 48 #[.agg (formA r)] w fun x w' => x = .returned (.bool (hasA r)) ∧ w' = w.alloc (.cells (formA r) 75) := by
  have e : hasA r = decide (f1 r > 0) := ten (p := fun r => hasA r = decide (f1 r > 0)) r hr rfl rfl rfl rfl rfl rfl rfl rfl rfl rfl
  rw [e]; exact has_of _ _ _ _ _ w

set_option maxHeartbeats 400000 in
theorem size_of (a b c d e : Int) (w : World) (h0 : 0 ≤ a) (h1 : a ≤ 1) (h2 : 0 ≤ d) (h3 : d ≤ 4) :
    Calls Tryd.prog 29 #[.agg #[.int .u8 a, .int .u8 b, .int .u8 c, .int .u8 d, .int .u8 e]] w fun x w' => x = .returned (.int .i64 (a + d + if b > 0 then 1 else 0)) ∧ w' = (w.alloc (.cells #[.int .u8 a, .int .u8 b, .int .u8 c, .int .u8 d, .int .u8 e] 75)).alloc (.cells #[.int .u8 a, .int .u8 b, .int .u8 c, .int .u8 d, .int .u8 e] 75) := by
  go_enter Tryd.func29, Tryd.ntmps29
  go_wp2_with fail
  refine (has_of _ _ _ _ _ _).mono ?_
  rintro x w1 ⟨rfl, rfl⟩
  go_wp2_with fail
  all_goals go_ret
  all_goals exact ⟨ret_int (by simp_all <;> omega), rfl⟩
theorem size_any (r : Nat) (hr : r < 10) (w : World) :
    Calls Tryd.prog 29 #[.agg (formA r)] w fun x w' => x = .returned (.int .i64 (sz r)) ∧ w' = (w.alloc (.cells (formA r) 75)).alloc (.cells (formA r) 75) := by
  have e : sz r = f0 r + f3 r + if f1 r > 0 then 1 else 0 := ten (p := fun r => sz r = f0 r + f3 r + if f1 r > 0 then 1 else 0) r hr rfl rfl rfl rfl rfl rfl rfl rfl rfl rfl
  have a0 : 0 ≤ f0 r ∧ f0 r ≤ 1 ∧ 0 ≤ f3 r ∧ f3 r ≤ 4 := by refine ten (p := fun r => 0 ≤ f0 r ∧ f0 r ≤ 1 ∧ 0 ≤ f3 r ∧ f3 r ≤ 4) r hr ?_ ?_ ?_ ?_ ?_ ?_ ?_ ?_ ?_ ?_ <;> decide
  rw [e]; exact size_of _ _ _ _ _ w a0.1 a0.2.1 a0.2.2.1 a0.2.2.2

set_option maxHeartbeats 400000 in
theorem imm_s (a b c : Int) (w : World) (d n : Int) (hd : d = 1 ∧ n = 128 ∨ d = 2 ∧ n = 32768 ∨ d = 4 ∧ n = 2147483648) :
    Calls Tryd.prog 37 #[.agg #[.int .u8 a, .int .u8 b, .int .u8 c, .int .u8 d, .int .u8 1]] w fun x w' => x = .returned (.tuple #[.int .i64 (-n), .int .i64 (n - 1)]) ∧ Kep w w' := by
  rcases hd with ⟨rfl, rfl⟩ | ⟨rfl, rfl⟩ | ⟨rfl, rfl⟩
  all_goals
    go_enter Tryd.func37, Tryd.ntmps37
    go_wp2
    go_ret2
    exact ⟨rfl, (Kep.refl _).alloc _⟩
set_option maxHeartbeats 400000 in
theorem imm_u (a b c : Int) (w : World) (d n : Int) (hd : d = 0 ∧ n = 0 ∨ d = 1 ∧ n = 255 ∨ d = 2 ∧ n = 65535) :
    Calls Tryd.prog 37 #[.agg #[.int .u8 a, .int .u8 b, .int .u8 c, .int .u8 d, .int .u8 0]] w fun x w' => x = .returned (.tuple #[.int .i64 0, .int .i64 n]) ∧ Kep w w' := by
  rcases hd with ⟨rfl, rfl⟩ | ⟨rfl, rfl⟩ | ⟨rfl, rfl⟩
  all_goals
    go_enter Tryd.func37, Tryd.ntmps37
    go_wp2
    go_ret2
    exact ⟨rfl, (Kep.refl _).alloc _⟩
theorem imm_any (r : Nat) (hr : r < 10) (w : World) :
    Calls Tryd.prog 37 #[.agg (formA r)] w fun x w' => x = .returned (.tuple #[.int .i64 (lo r), .int .i64 (hi r)]) ∧ Kep w w' :=
  ten (p := fun r => Calls Tryd.prog 37 #[.agg (formA r)] w fun x w' => x = .returned (.tuple #[.int .i64 (lo r), .int .i64 (hi r)]) ∧ Kep w w') r hr
    (imm_u 0 0 0 w 0 0 (by simp)) (imm_u 1 0 0 w 0 0 (by simp)) (imm_u 1 7 0 w 0 0 (by simp)) (imm_u 1 7 7 w 0 0 (by simp)) (imm_u 1 0 0 w 1 255 (by simp))
    (imm_s 1 7 0 w 1 128 (by simp)) (imm_s 1 7 7 w 1 128 (by simp)) (imm_s 1 0 0 w 2 32768 (by simp)) (imm_u 1 0 0 w 2 65535 (by simp)) (imm_s 1 7 0 w 4 2147483648 (by simp))

set_option maxHeartbeats 400000 in
theorem bytes_any (op : Int) (host : Bool) (w : World) (h0 : 0 ≤ op) (h1 : op < 256) (hT : Tabs w) :
    Calls Tryd.prog 45 #[.int .u8 op, .bool host] w fun e w' => e = .returned (.int .i64 (sz (rowOf op host))) ∧ Kep w w' := by
  go_enter Tryd.func45, Tryd.ntmps45
  go_wp2_with fail
  refine (formOf_any op host w h0 h1 hT).mono ?_
  rintro e w1 ⟨rfl, g1⟩
  go_wp2_with fail
  refine (size_any _ (rowOf_lt _ _) _).mono ?_
  rintro e w2 ⟨rfl, rfl⟩
  go_wp2_with fail
  go_ret
  exact ⟨rfl, (g1.alloc _).alloc _⟩
end Go.Proofs.YtpalbpjmjbcelaaDoor
