/- What products, quotients and rests come to, in the code and in the document's own words. -/
import Derived.Test.YthoolhndhicidaaSums
import Derived.Test.YthoolhndhicidaaProdm
import Derived.Deep.QuietTactic
import Derived.BigQuiet
namespace Go.Proofs.Ythoolhndhicidaa
open Go.RowKit

theorem ret_three {k l : IntKind} {a b c d : Int} {x y : Bool} (h : a = c) (i : b = d) (j : x = y) : Ending.returned (.tuple #[.int k a, .int l b, .bool x]) = .returned (.tuple #[.int k c, .int l d, .bool y]) := by rw [h, i, j]

theorem grown_drewN (w : World) (n : Nat) : Grown w (w.drewN n) :=
  ⟨⟨rfl, rfl, fun i hi => (World.keptBut_refl w (fun _ => False)).2.2 i hi⟩, fun _ => rfl, Nat.le_refl _⟩

set_option maxHeartbeats 400000 in
theorem product_any (a b : Int) (w : World) (h0 : 0 ≤ a) (h1 : a < 4294967296) (h2 : 0 ≤ b) (h3 : b < 4294967296) :
    Calls Try.prog 35 #[.int .u32 a, .int .u32 b] w fun e w' => e = .returned (.tuple #[.int .u32 (a * b % 4294967296), .int .u32 (a * b / 4294967296)]) ∧ w' = w := by
  have hp := mul_range a b h0 h1 h2 h3
  go_enter Try.func35, Try.ntmps35
  go_wp2
  go_ret2
  exact ⟨rfl, rfl⟩

set_option maxHeartbeats 400000 in
theorem mul_any (a b : Int) (w : World) (h0 : 0 ≤ a) (h1 : a < 4294967296) (h2 : 0 ≤ b) (h3 : b < 4294967296) :
    Calls Try.prog 20 #[.int .u32 a, .int .u32 b] w fun e w' => e = .returned (.tuple #[.int .u32 (a * b % 4294967296), .int .u32 (fl (a * b % 4294967296) (decide (4294967296 ≤ a * b)) false)]) ∧ Grown w w' := by
  have hp := mul_range a b h0 h1 h2 h3
  have ec : (a * b / 4294967296 != 0) = decide (4294967296 ≤ a * b) := by rw [Bool.eq_iff_iff]; simp; omega
  go_enter Try.func20, Try.ntmps20
  go_wp2_with (go_at_call 35; refine (product_any _ _ _ (by omega) (by omega) (by omega) (by omega)).mono ?_; rintro e w' ⟨rfl, rfl⟩)
  refine (flagged1 _ _ (decide (4294967296 ≤ a * b)) _ (by simp) (by simp) (by simp)).mono ?_
  rintro e w1 ⟨rfl, g1⟩
  go_wp2_with fail
  go_ret2
  exact ⟨rfl, grown_trans ((Grown.refl _).alloc _ _) g1⟩

set_option maxHeartbeats 400000 in
theorem div_no (a : Int) (w : World) :
    Calls Try.prog 21 #[.int .u32 a, .int .u32 0] w fun e w' => e = .returned (.tuple #[.int .u32 0, .int .u32 0, .bool false]) ∧ w' = w := by
  go_enter Try.func21, Try.ntmps21
  go_wp2
  go_ret3
  exact ⟨rfl, rfl⟩

set_option maxHeartbeats 400000 in
theorem div_any (a b : Int) (w : World) (h0 : 0 ≤ a) (h1 : a < 4294967296) (h2 : 0 < b) :
    Calls Try.prog 21 #[.int .u32 a, .int .u32 b] w fun e w' => e = .returned (.tuple #[.int .u32 (a / b), .int .u32 (fl (a / b) false false), .bool true]) ∧ Grown w w' := by
  have hb : (b == 0) = false := by rw [beq_eq_false_iff_ne]; omega
  have ht := tdiv_is a b h0 h1 h2
  have hu := tmod_is a b h0
  go_enter Try.func21, Try.ntmps21
  go_wp2_with (go_at_call 26; refine (flagged0 _ _).mono ?_; rintro e w' ⟨rfl, g1⟩)
  go_ret3
  exact ⟨rfl, ‹_›⟩

set_option maxHeartbeats 400000 in
theorem refMul_any (a b : Int) (w : World) (h0 : 0 ≤ a) (h1 : a < 4294967296) (h2 : 0 ≤ b) (h3 : b < 4294967296) :
    Calls Try.prog 22 #[.int .u32 a, .int .u32 b] w fun e w' => e = .returned (.tuple #[.int .u32 (a * b % 4294967296), .int .u32 (fl (a * b % 4294967296) (decide (4294967296 ≤ a * b)) false)]) ∧ w' = w := by
  have hp := mul_range a b h0 h1 h2 h3
  go_enter Try.func22, Try.ntmps22
  go_wp2_with (go_at_call 28; refine (of_any _ _ _ _ (by omega) (by omega)).mono ?_; rintro e w' ⟨rfl, rfl⟩)
  go_ret2
  exact ⟨rfl, rfl⟩

set_option maxHeartbeats 400000 in
theorem refDiv_no (a : Int) (w : World) :
    Calls Try.prog 23 #[.int .u32 a, .int .u32 0] w fun e w' => e = .returned (.tuple #[.int .u32 0, .int .u32 0, .bool false]) ∧ w' = w := by
  go_enter Try.func23, Try.ntmps23
  go_wp2
  go_ret3
  exact ⟨rfl, rfl⟩

set_option maxHeartbeats 400000 in
theorem refDiv_any (a b : Int) (w : World) (h0 : 0 ≤ a) (h1 : a < 4294967296) (h2 : 0 < b) :
    Calls Try.prog 23 #[.int .u32 a, .int .u32 b] w fun e w' => e = .returned (.tuple #[.int .u32 (a / b), .int .u32 (fl (a / b) false false), .bool true]) ∧ Grown w w' := by
  have hb : (b == 0) = false := by rw [beq_eq_false_iff_ne]; omega
  have ht := tdiv_is a b h0 h1 h2
  have hu := tmod_is a b h0
  have hd := div_range a b h0 h1 h2
  go_enter Try.func23, Try.ntmps23
  go_wp2_with fail
  go_quiet ((go_at_call 28; exact Calls.quiet_of_same (of_any _ _ _ _ (by omega) (by omega))))
  go_wp2
  go_ret3
  exact ⟨rfl, grown_drewN _ _⟩

end Go.Proofs.Ythoolhndhicidaa
