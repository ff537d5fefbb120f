/- A return behind a delivery. -/
import Derived.Test.YtaknjceneplonaaDoorNdo
import Derived.Test.YtaknjceneplonaaDoorXent
import Derived.Test.YtaknjceneplonaaDoorCeq
namespace Go.Proofs.YtaknjceneplonaaDoor
open Go.RowKit
set_option linter.unusedVariables false
set_option linter.unusedSimpArgs false

theorem msk_twice (x : Int) (h : 0 ≤ x ∧ x < 4294967296) : mskI (mskI x) = mskI x := by unfold mskI; omega
theorem ent_usr (s : Sta) (ok : s.Ok) (k x back : Int) : usr (entS s k x back) = false := by
  show (lowI2 s.ps % 2 == 1) = false
  have := ok.ps
  rw [beq_eq_false_iff_ne]; unfold lowI2; omega
/-- The state behind the return. -/
def retS (s : Sta) (k x back : Int) : Sta := ((nextS (entS s k x back) 2).go back).mark (mskI s.ps)
theorem ret_of (s : Sta) (ok : s.Ok) (k x back : Int) : sdoS (entS s k x back) 2 (0 : Nat) (0 : Nat) 0 0 = retS s k x back ∧ sdoE (entS s k x back) 2 (0 : Nat) (0 : Nat) 0 = e0 0 := by
  have hi : isS 2 (0 : Nat) (0 : Nat) 0 = true := by decide
  have hu := ent_usr s ok k x back
  have hn : usr (nextS (entS s k x back) 2) = false := hu
  unfold sdoS sdoE
  rw [if_neg (by rw [hi]; decide), if_neg (by rw [hu]; simp), if_neg (by rw [hi]; decide), if_neg (by rw [hu]; simp)]
  constructor
  · rw [show senS (nextS (entS s k x back) 2) 2 0 0 0 = ((nextS (entS s k x back) 2).go ((nextS (entS s k x back) 2).c 2)).mark (mskI ((nextS (entS s k x back) 2).c 3)) by simp [senS, hn]]
    rfl
  · simp [senE]
theorem iret_any (s : Sta) (ok : s.Ok) (k x back : Int) (hx : 0 ≤ x ∧ x < 4294967296) (hb : 0 ≤ back ∧ back < 4294967296) (w : World) (hT : Tabs w) :
    Calls Tryd.prog 10 #[.agg (entS s k x back).v, .agg #[.int .u8 2, .int .u8 0, .int .u8 0, .int .i32 0], .int .u32 0] w fun e w' => e = .returned (.tuple #[.agg (retS s k x back).v, .agg (e0 0).v]) ∧ Kep w w' := by
  have h := sdo_any (entS s k x back) 2 0 0 0 0 w (ent_ok ok k x back hx hb) (by decide) (by decide) (by decide) (by decide) hT
  obtain ⟨r1, r2⟩ := ret_of s ok k x back
  rw [r1, r2] at h
  exact h
theorem EAt_k {w : World} {p : Nat} {e : Eff} (h : w.heap[p]? = some (.cells e.v 33 (0, 0))) : w.cell? ⟨p, 0, none⟩ = some (.int .i64 e.k) := cell_of_block h
theorem At.hl {w : World} {p : Nat} {s : Sta} (h : At w p s) : w.cell? ⟨p, 18, none⟩ = some (.bool s.h) := cell_of_block h
theorem r_same (s : Sta) (w : World) : (Op.equalIn 10000 23 (.agg (crV s.r)) (.agg (crV s.r))).run Tryd.prog w = .ok true w := cr_same ⟨s.r, 0, 0, s.r, false⟩ w
theorem c_same (s : Sta) (w : World) : (Op.equalIn 10000 23 (.agg (crV s.c)) (.agg (crV s.c))).run Tryd.prog w = .ok true w := cr_same s w
end Go.Proofs.YtaknjceneplonaaDoor
