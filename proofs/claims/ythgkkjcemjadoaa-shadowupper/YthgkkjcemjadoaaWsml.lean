/- The small steps of a walk: parts of an address, a base, a frame's number, what is within. -/
import Derived.Test.YthgkkjcemjadoaaWbit
namespace Go.Proofs.Ythgkkjcemjadoaa
open Go.RowKit
set_option linter.unusedVariables false

theorem dirPart_any (w : World) (va : Nat) (ha : (va : Int) < 4294967296) :
    Calls Try.prog 36 #[.int .u32 va] w fun e w' => e = .returned (.int .i64 ((va / 1024 : Nat) : Int)) ∧ w' = w := by
  go_enter Try.func36, Try.ntmps36
  go_wp2
  go_ret
  exact ⟨ret_int (by omega), rfl⟩

theorem base_any (w : World) (a : Nat) (ha : (a : Int) < 4294967296) :
    Calls Try.prog 38 #[.int .u32 a] w fun e w' => e = .returned (.int .u32 ((a - a % 64 : Nat) : Int)) ∧ w' = w := by
  have hd := down64 a (by omega)
  go_enter Try.func38, Try.ntmps38
  go_wp2
  go_ret
  exact ⟨ret_int (by omega), rfl⟩

theorem framenum_any (w : World) (a : Nat) (ha : (a : Int) < 4294967296) :
    Calls Try.prog 41 #[.int .u32 a] w fun e w' => e = .returned (.int .i64 ((a / 64 : Nat) : Int)) ∧ w' = w := by
  go_enter Try.func41, Try.ntmps41
  go_wp2
  go_ret
  exact ⟨ret_int (by omega), rfl⟩

theorem within_any (w : World) (v : Value) (R : Nat) (ix : List Nat) (h : Ram w v R ix) (hix : (ix.length : Int) ≤ 512) (a : Nat) (ha : (a : Int) < 4294967296) :
    Calls Try.prog 39 #[v, .int .u32 a] w fun e w' => e = .returned (.bool (decide (a < 64 * ix.length))) ∧ w' = w := by
  have hc : Hid (Calls Try.prog 49 #[v] w fun e w' => e = .returned (.int .u32 (64 * ix.length)) ∧ w' = w) := msize_any w v R ix h hix
  clear h
  go_enter Try.func39, Try.ntmps39
  go_wp2_with (go_at_call 49; refine hc.out.mono ?_; rintro e w1 ⟨rfl, rfl⟩)
  go_ret
  exact ⟨ret_bool (decide_eq_decide.2 (by omega)), rfl⟩

theorem size_arr2 : (Try.prog.info? 92).map (·.size) = some 2 := by kernel_rfl

theorem picks_any (w : World) (va : Nat) (ha : (va : Int) < 4294967296) :
    Calls Try.prog 37 #[.int .u32 va] w fun e w' => e = .returned (.agg #[.int .u32 ((va / 1024 : Nat) : Int), .int .u32 ((va / 64 % 16 : Nat) : Int)]) ∧ w' = w.alloc (.cells #[.int .u32 ((va / 1024 : Nat) : Int), .int .u32 ((va / 64 % 16 : Nat) : Int)] 92) := by
  have hc : Hid (∀ w, Calls Try.prog 36 #[.int .u32 va] w fun e w' => e = .returned (.int .i64 ((va / 1024 : Nat) : Int)) ∧ w' = w) := fun w => dirPart_any w va ha
  go_enter Try.func37, Try.ntmps37
  go_wp2_with (go_at_call 36; refine (hc.out _).mono ?_; rintro e w1 ⟨rfl, rfl⟩)
  have e1 : ((va / 1024 : Nat) : Int) = (va : Int) / 1024 := by omega
  have e2 : ((va / 64 % 16 : Nat) : Int) = (va : Int) / 64 % 16 := by omega
  rw [e1, e2]
  exact bodyPost_ret (results1 rfl _ _ w.heap.size 92 #[.int .u32 ((va : Int) / 1024), .int .u32 ((va : Int) / 64 % 16)] (0, 0) _ rfl (hat _ _ _ rfl) Try.underlying92 rfl size_arr2) rfl ⟨rfl, rfl⟩

theorem join2_any (w : World) (b : Nat) (x y : Nat) (hx : x < 4294967296) (hy : y < 4294967296) (c0 : w.cell? ⟨b, 0, none⟩ = some (.int .u32 x)) (c1 : w.cell? ⟨b, 1, none⟩ = some (.int .u32 y)) :
    Calls Try.prog 40 #[.slice (some ⟨b, 0, none⟩) 2 2] w fun e w' => e = .returned (.int .u32 (joinN x y)) ∧ w' = w := by
  have H : Hid (_ = _) := joins32 x y hx hy
  go_enter Try.func40, Try.ntmps40
  go_wp2
  go_rounds 3
  go_ret
  exact ⟨by rw [← H.out]; rfl, rfl⟩
end Go.Proofs.Ythgkkjcemjadoaa
