/- What is laid in a control register is read there. -/
import Derived.Test.YtaifildofgeonaaDoorNpure
namespace Go.Proofs.YtaifildofgeonaaDoor
open Go.RowKit
set_option linter.unusedVariables false
set_option linter.unusedSimpArgs false

theorem may_cr : ∀ a : Nat, a < 8 → ∀ b : Nat, b < 8 → isS 99 a b 0 = true ∧ isS 98 a b 0 = true := by decide
theorem Sta.Ok.ctl {s : Sta} (h : s.Ok) (b : Nat) (x : Int) (h0 : 0 ≤ x) (h1 : x < 4294967296) : (s.ctl b x).Ok := by
  refine ⟨h.r, h.pc, h.ps, fun n => ?_⟩
  show 0 ≤ up s.c b x n ∧ up s.c b x n < 4294967296
  unfold up; split
  · exact ⟨h0, h1⟩
  · exact h.c n
theorem lays_of (s : Sta) (a b : Nat) (ha : a < 8) (hb : b < 8) (hu : usr s = false) : sdoS s 99 a b 0 0 = (nextS s 99).ctl b (s.r a) ∧ sdoE s 99 a b 0 = ⟨0, (b : Int) == 0, false, 0, 0⟩ := by
  have hi := (may_cr a ha b hb).1
  unfold sdoS sdoE
  rw [if_neg (by rw [hi]; decide), if_neg (by rw [hu]; decide), if_neg (by rw [hi]; decide), if_neg (by rw [hu]; decide)]
  constructor
  · simp [senS]; rfl
  · simp [senE]
theorem reads_back (s : Sta) (a b : Nat) (ha : a < 8) (hb : b < 8) (hu : usr s = false) : sdoS s 98 a b 0 0 = (nextS s 98).reg a (s.c b) ∧ sdoE s 98 a b 0 = e0 0 := by
  have hi := (may_cr a ha b hb).2
  have hT : usr (nextS s 98) = false := hu
  unfold sdoS sdoE
  rw [if_neg (by rw [hi]; decide), if_neg (by rw [hu]; decide), if_neg (by rw [hi]; decide), if_neg (by rw [hu]; decide)]
  constructor
  · simp [senS, hT]; rfl
  · simp [senE]
theorem up_same (r : Nat → Int) (a : Nat) (x : Int) : up r a x a = x := by unfold up; rw [if_pos rfl]
theorem up_back (r : Nat → Int) (a : Nat) (x : Int) : up (up r a x) a (r a) = r := by
  funext n; unfold up; by_cases h : n = a
  · rw [if_pos h, h]
  · rw [if_neg h, if_neg h]
theorem At.setCr {w : World} {p : Nat} {s : Sta} (h : At w p s) (b : Nat) (hb : b < 8) (x : Int) : At (w.setCell ⟨p, 10 + b, none⟩ (.int .u32 x)) p (s.ctl b x) := by
  unfold At; rw [heap_setCell_row h, eight (p := fun b => s.v.setIfInBounds (10 + b) (.int .u32 x) = (s.ctl b x).v) ⟨rfl, rfl, rfl, rfl, rfl, rfl, rfl, rfl⟩ b hb]
theorem At.ctl {w : World} {p : Nat} {s : Sta} (h : At w p s) (b : Nat) (hb : b < 8) : w.cell? ⟨p, 10 + b, none⟩ = some (.int .u32 (s.c b)) :=
  (cell_of_block h).trans (eight (p := fun b => s.v[10 + b]? = some (.int .u32 (s.c b))) ⟨rfl, rfl, rfl, rfl, rfl, rfl, rfl, rfl⟩ b hb)
def u0 : Sta := ⟨fun _ => 0, 40, 2, fun _ => 0, false⟩
end Go.Proofs.YtaifildofgeonaaDoor
