/- What the document makes of two numbers. -/
import Derived.Test.YtjmcbohjkdbkbaaDoorRsml
import Derived.Test.YtjmcbohjkdbkbaaDoorBits
import Derived.Test.YtjmcbohjkdbkbaaDoorRefsh
namespace Go.Proofs.YtjmcbohjkdbkbaaDoor
open Go.RowKit
set_option linter.unusedVariables false
set_option linter.unusedSimpArgs false

set_option maxHeartbeats 16000000 in
set_option maxRecDepth 100000 in
theorem made_any (op : Int) (hop : 17 ≤ op ∧ op ≤ 31) (x y : Int) (hx : 0 ≤ x ∧ x < 4294967296) (hy : 0 ≤ y ∧ y < 4294967296) (hi : aluIs op y = true) (w : World) :
    Calls Tryd.prog 31 #[.int .u8 op, .int .u32 x, .int .u32 y] w fun e w' => e = .returned (.tuple #[.int .u32 (alu op x y).1, .int .u32 (alu op x y).2, .bool true]) ∧ Kep w w' := by
  obtain ⟨m, rfl⟩ : ∃ m : Nat, x = m := ⟨x.toNat, by omega⟩
  have hk : y % 32 = ((y % 32).toNat : Int) := by omega
  obtain ⟨x1, x2, x3⟩ := and_bits (m : Int) y (by omega) (by omega) (by omega) (by omega)
  obtain ⟨y1, y2, y3⟩ := or_bits (m : Int) y (by omega) (by omega) (by omega) (by omega)
  obtain ⟨z1, z2, z3⟩ := xor_bits (m : Int) y (by omega) (by omega) (by omega) (by omega)
  have ex : low ((m : Int).toNat &&& y.toNat) 32 = bits .and .u32 (m : Int) y := by rw [x1]; exact low_all _ x2
  have ey : low ((m : Int).toNat ||| y.toNat) 32 = bits .or .u32 (m : Int) y := by rw [y1]; exact low_all _ y2
  have ez : low ((m : Int).toNat ^^^ y.toNat) 32 = bits .xor .u32 (m : Int) y := by rw [z1]; exact low_all _ z2
  have LA : Hid (∀ w, Calls Tryd.prog 52 #[.int .i64 0, .int .u32 (m : Int), .int .u32 y] w fun e w' => e = .returned (.tuple #[.int .u32 (bits .and .u32 (m : Int) y), .int .u32 (fl (bits .and .u32 (m : Int) y) false false)]) ∧ w' = w) := fun w => by
    have := logic_any 0 (m : Int) y _ w (by omega) (by omega) (by omega) (by omega) (by omega) x3; rw [ex] at this; exact this
  have LO : Hid (∀ w, Calls Tryd.prog 52 #[.int .i64 1, .int .u32 (m : Int), .int .u32 y] w fun e w' => e = .returned (.tuple #[.int .u32 (bits .or .u32 (m : Int) y), .int .u32 (fl (bits .or .u32 (m : Int) y) false false)]) ∧ w' = w) := fun w => by
    have := logic_any 1 (m : Int) y _ w (by omega) (by omega) (by omega) (by omega) (by omega) y3; rw [ey] at this; exact this
  have LX : Hid (∀ w, Calls Tryd.prog 52 #[.int .i64 2, .int .u32 (m : Int), .int .u32 y] w fun e w' => e = .returned (.tuple #[.int .u32 (bits .xor .u32 (m : Int) y), .int .u32 (fl (bits .xor .u32 (m : Int) y) false false)]) ∧ w' = w) := fun w => by
    have := logic_any 2 (m : Int) y _ w (by omega) (by omega) (by omega) (by omega) (by omega) z3; rw [ez] at this; exact this
  clear x1 x2 x3 y1 y2 y3 z1 z2 z3 ex ey ez
  rcases (by omega : op = 17 ∨ op = 18 ∨ op = 19 ∨ op = 20 ∨ op = 21 ∨ op = 22 ∨ op = 23 ∨ op = 24 ∨ op = 25 ∨ op = 26 ∨ op = 27 ∨ op = 28 ∨ op = 29 ∨ op = 30 ∨ op = 31) with rfl | rfl | rfl | rfl | rfl | rfl | rfl | rfl | rfl | rfl | rfl | rfl | rfl | rfl | rfl
  all_goals
    clear hop
    have hnz : (y = 0 → (25 : Int) ≠ 25) ∨ True := Or.inr trivial
    clear hnz
    go_enter Tryd.func31, Tryd.ntmps31
    go_wp2_with fail
    first
      | (go_at_call 33; with_reducible refine (refAdd_any _ _ _ (by omega) (by omega) (by omega) (by omega)).mono ?_)
      | (go_at_call 51; with_reducible refine (refSub_any _ _ _ (by omega) (by omega) (by omega) (by omega)).mono ?_)
      | (go_at_call 52; with_reducible refine (LA.out _).mono ?_)
      | (go_at_call 52; with_reducible refine (LO.out _).mono ?_)
      | (go_at_call 52; with_reducible refine (LX.out _).mono ?_)
      | (go_at_call 56; with_reducible refine (refShl_any m (y % 32).toNat _ _ (by omega) (by omega) (by omega) hk).mono ?_)
      | (go_at_call 56; with_reducible refine (refShr_any m (y % 32).toNat _ _ (by omega) (by omega) (by omega) hk).mono ?_)
      | (go_at_call 57; with_reducible refine (refMul_any _ _ _ (by omega) (by omega) (by omega) (by omega)).mono ?_)
      | (go_at_call 53; with_reducible refine (refRor_any m (y % 32).toNat _ _ (by omega) (by omega) (by omega) hk).mono ?_)
      | (go_at_call 53; with_reducible refine (refSar_any m (y % 32).toNat _ _ (by omega) (by omega) (by omega) hk).mono ?_)
      | (go_at_call 54; with_reducible refine (refMulh_any _ _ _ (by omega) (by omega) (by omega) (by omega)).mono ?_)
      | (go_at_call 58; with_reducible refine (refDiv_any _ _ _ (by omega) (by omega) (by simp [aluIs] at hi; omega)).mono ?_)
      | (go_at_call 55; with_reducible refine (refRem_any _ _ _ (by omega) (by omega) (by simp [aluIs] at hi; omega)).mono ?_)
    rintro e w1 ⟨rfl, K⟩
    have K' : Hid (Kep w w1) := by first | exact K | (rw [K]; exact Kep.refl _)
    clear K hk hx hy hi LA LO LX
    go_wp2_with fail
    go_ret3
    exact ⟨by rfl, K'.out⟩

set_option maxHeartbeats 16000000 in
theorem made_no (op : Int) (x : Int) (hop : op = 25 ∨ op = 30) (w : World) :
    Calls Tryd.prog 31 #[.int .u8 op, .int .u32 x, .int .u32 0] w fun e w' => e = .returned (.tuple #[.int .u32 0, .int .u32 0, .bool false]) ∧ Kep w w' := by
  rcases hop with rfl | rfl
  all_goals
    go_enter Tryd.func31, Tryd.ntmps31
    go_wp2_with fail
    first
      | refine (refDiv_no _ _).mono ?_
      | refine (refRem_no _ _).mono ?_
    rintro e w1 ⟨rfl, rfl⟩
    go_wp2_with fail
    go_ret3
    exact ⟨by rfl, Kep.refl _⟩
end Go.Proofs.YtjmcbohjkdbkbaaDoor
