/- Plain facts on what an instruction does: no program is named here. -/
import Derived.Test.YtjmcbohjkdbkbaaDoorCst
namespace Go.Proofs.YtjmcbohjkdbkbaaDoor
open Go.RowKit
set_option linter.unusedVariables false

theorem up_at (r : Nat → Int) (a : Nat) (x : Int) : up r a x a = x := by unfold up; rw [if_pos rfl]
theorem up_off (r : Nat → Int) (a n : Nat) (x : Int) (h : n ≠ a) : up r a x n = r n := by unfold up; rw [if_neg h]
theorem and224 (n : Nat) (h : n % 256 < 32) : n &&& 224 = 0 := by
  have h1 : n &&& 224 = (n % 256) &&& 224 := by
    have e : n % 256 = n &&& 255 := (Nat.and_two_pow_sub_one_eq_mod n 8).symm
    rw [e, Nat.and_assoc]; rfl
  rw [h1]
  have t : ∀ k, k < 32 → k &&& 224 = 0 := by decide
  exact t _ h
theorem subV_self (a : Int) (h0 : 0 ≤ a) (h1 : a < 4294967296) : fl ((a - a) % 4294967296) (decide (a < a)) (subV a a) = 16 := by
  have e : (a - a) % 4294967296 = 0 := by rw [Int.sub_self]; rfl
  have e2 : decide (a < a) = false := by simp
  have e3 : subV a a = false := by unfold subV; simp; rfl
  rw [e, e2, e3]; rfl
theorem do_mov (s : Sta) (ok : s.Ok) (x y : Nat) (hx : x < 8) (hy : y < 8) : doF s 16 x y 0 = (0, 0) ∧ doS s 16 x y 0 0 = (s.go ((s.pc + 2) % 4294967296)).reg x (s.r y) := by
  have hm : mayB (rowOf 16 false) x y 0 = true := by
    have e : rowOf 16 false = 3 := by decide
    rw [e]; simp [mayB, f1, f2, lo, hi]; omega
  have hi : isIns 16 x y 0 = true := by unfold isIns; rw [hm]; rfl
  have eF : doF s 16 x y 0 = (0, 0) := by unfold doF; rw [hi]; rfl
  refine ⟨eF, ?_⟩
  unfold doS; rw [eF]
  rfl
theorem do_sub (s : Sta) (ok : s.Ok) (x : Nat) (hx : x < 8) : doF s 18 x x 0 = (0, 0) ∧ doS s 18 x x 0 0 = ((s.go ((s.pc + 2) % 4294967296)).reg x 0).mark (flgI s.ps 16) := by
  have hm : mayB (rowOf 18 false) x x 0 = true := by
    have e : rowOf 18 false = 3 := by decide
    rw [e]; simp [mayB, f1, f2, lo, hi]; omega
  have hi : isIns 18 x x 0 = true := by unfold isIns; rw [hm]; rfl
  have eF : doF s 18 x x 0 = (0, 0) := by unfold doF; rw [hi]; rfl
  refine ⟨eF, ?_⟩
  unfold doS; rw [eF]
  have h := subV_self (s.r x) (ok.r x).1 (ok.r x).2
  have e : (s.r x - s.r x) % 4294967296 = 0 := by rw [Int.sub_self]; rfl
  have ea : alu 18 ((nextS s 18).r x) (secN (nextS s 18) 18 x 0) = (0, 16) := by
    show ((s.r x - s.r x) % 4294967296, fl ((s.r x - s.r x) % 4294967296) (decide (s.r x < s.r x)) (subV (s.r x) (s.r x))) = (0, 16)
    rw [h, e]
  show reckS (nextS s 18) 18 x x 0 = _
  unfold reckS
  rw [ea]; rfl
theorem flg16 (ps : Int) (h0 : 0 ≤ ps) (h1 : ps < 4294967296) : (bits .and .u32 (flgI ps 16) 16 != 0) = true ∧ bits .and .u32 (flgI ps 16) 224 = 0 ∧ 0 ≤ flgI ps 16 ∧ flgI ps 16 < 4294967296 := by
  have hr : 0 ≤ flgI ps 16 ∧ flgI ps 16 < 4294967296 ∧ flgI ps 16 / 16 % 16 = 1 := by unfold flgI; omega
  refine ⟨?_, ?_, hr.1, hr.2.1⟩
  · rw [and16 _ hr.1 hr.2.1]; unfold bitB; simp; omega
  · obtain ⟨n, hn⟩ : ∃ n : Nat, flgI ps 16 = n := ⟨(flgI ps 16).toNat, by omega⟩
    rw [hn] at hr ⊢
    rw [show (224 : Int) = ((224 : Nat) : Int) from rfl, u32_and_nat n 224 (by omega) (by decide), and224 n (by omega)]
    rfl
end Go.Proofs.YtjmcbohjkdbkbaaDoor
