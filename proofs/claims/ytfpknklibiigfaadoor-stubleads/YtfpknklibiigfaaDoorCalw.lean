/- What has a result of every two numbers. -/
import Derived.Test.YtfpknklibiigfaaDoorCrule
import Derived.Test.YtfpknklibiigfaaDoorProd
import Derived.Test.YtfpknklibiigfaaDoorTurn
namespace Go.Proofs.YtfpknklibiigfaaDoor
open Go.RowKit
set_option linter.unusedVariables false
set_option linter.unusedSimpArgs false

set_option maxHeartbeats 400000 in
theorem sec_any (x y : Int) (w : World) :
    Calls Tryd.prog 45 #[.int .u32 x, .int .u32 y] w fun e w' => e = .returned (.tuple #[.int .u32 y, .int .u32 0]) ∧ Kep w w' := by
  go_enter Tryd.func45, Tryd.ntmps45
  go_wp2
  go_ret2
  exact ⟨rfl, Kep.refl _⟩

set_option maxHeartbeats 1600000 in
set_option maxRecDepth 100000 in
theorem alw_any (op : Int) (hop : 16 ≤ op ∧ op ≤ 33 ∧ op ≠ 25 ∧ op ≠ 30) (x y : Int) (hx : 0 ≤ x ∧ x < 4294967296) (hy : 0 ≤ y ∧ y < 4294967296) (g : Nat) (w : World) (hc : w.cell? ⟨g, 0, none⟩ = some (fnV (fnOf op))) :
    Calls Tryd.prog 64 #[.int .u32 x, .int .u32 y, .pointer (some ⟨g, 0, none⟩)] w fun e w' => e = .returned (.tuple #[.int .u32 (alu op x y).1, .int .u32 (alu op x y).2, .bool true]) ∧ Kep w w' := by
  obtain ⟨m, rfl⟩ : ∃ m : Nat, x = m := ⟨x.toNat, by omega⟩
  have hk : y % 32 = ((y % 32).toNat : Int) := by omega
  rcases ops16 hop with rfl | rfl | rfl | rfl | rfl | rfl | rfl | rfl | rfl | rfl | rfl | rfl | rfl | rfl | rfl | rfl
  all_goals
    clear hop
    simp [fnOf] at hc
    go_enter Tryd.func64, Tryd.ntmps64
    go_wp2_with fail
    first
      | refine (sec_any _ _ _).mono ?_
      | refine (add_any _ _ _ (by omega) (by omega) (by omega) (by omega)).mono ?_
      | refine (sub_any _ _ _ (by omega) (by omega) (by omega) (by omega)).mono ?_
      | refine (and_any _ _ _).mono ?_
      | refine (or_any _ _ _).mono ?_
      | refine (xor_any _ _ _).mono ?_
      | refine (shl_any m (y % 32).toNat _ _ (by omega) (by omega) (by omega) hk).mono ?_
      | refine (shr_any m (y % 32).toNat _ _ (by omega) (by omega) (by omega) hk).mono ?_
      | refine (mul_any _ _ _ (by omega) (by omega) (by omega) (by omega)).mono ?_
      | refine (ror_any m (y % 32).toNat _ _ (by omega) (by omega) (by omega) hk).mono ?_
      | refine (sar_any m (y % 32).toNat _ _ (by omega) (by omega) (by omega) hk).mono ?_
      | refine (mulh_any _ _ _ (by omega) (by omega) (by omega) (by omega)).mono ?_
    rintro e w1 ⟨rfl, K⟩
    have K' : Hid (Kep w w1) := K
    clear K hc hk hx hy
    go_wp2_with fail
    go_ret3
    exact ⟨by rfl, K'.out⟩
end Go.Proofs.YtfpknklibiigfaaDoor
