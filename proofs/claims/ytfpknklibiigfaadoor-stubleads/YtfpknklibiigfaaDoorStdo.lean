/- What core.Do answers for a jump, where it stands. -/
import Derived.Test.YtfpknklibiigfaaDoorCdo1
import Derived.Test.YtfpknklibiigfaaDoorCjmps
namespace Go.Proofs.YtfpknklibiigfaaDoor
open Go.RowKit
set_option linter.unusedVariables false
set_option linter.unusedSimpArgs false

def sJ (a : Int) : Sta := ⟨fun _ => 0, a, 0, fun _ => 0, false⟩
theorem sJ_ok (a : Int) (h : 0 ≤ a ∧ a < 4294967296) : (sJ a).Ok := ⟨fun _ => by show (0 : Int) ≤ 0 ∧ (0 : Int) < 4294967296; decide, h, by show (0 : Int) ≤ 0 ∧ (0 : Int) < 4294967296; decide, fun _ => by show (0 : Int) ≤ 0 ∧ (0 : Int) < 4294967296; decide⟩
theorem stdo (a f t : Int) (h0 : 0 ≤ a) (h1 : a ≤ 32767) (h2 : -32768 ≤ f) (h3 : f ≤ 32767) (h4 : 0 ≤ t) (ht : t = a + 3 + f) (w : World) (hT : Tabs w) :
    Calls Tryd.prog 16 #[.agg (sJ a).v, .agg (insA 64 0 0 f), .int .u32 0] w fun e w' => ∃ S : Sta, S.pc = t ∧ e = .returned (.tuple #[.agg S.v, .agg (fltV (0, 0))]) ∧ Kep w w' := by
  have ok := sJ_ok a ⟨h0, by omega⟩
  have okn : (nextS (sJ a) 64).Ok := ok.go _ (by omega) (by omega)
  have hn : isIns 64 0 0 f = true := by
    have : mayB (rowOf 64 false) 0 0 f = true := by
      rw [show rowOf 64 false = 7 from rfl]
      simp [mayB, f1, f2, lo, hi]; omega
    unfold isIns; rw [this]; rfl
  have hpc : (jmpS (nextS (sJ a) 64) 64 0 f).pc = t := by
    have e1 : jgoes 64 (nextS (sJ a) 64).ps = true := by show jgoes 64 0 = true; decide
    unfold jmpS; rw [if_pos e1]
    show (((a + 3) % 4294967296) + f % 4294967296) % 4294967296 = t
    omega
  refine (do_K 36 (fun _ _ => by kernel_rfl) (sJ a) 64 0 0 f 0 w ok (by decide) (by decide) (by omega) (by omega) (0, 0) (jmpS (nextS (sJ a) 64) 64 0 f) (by decide) hn hT ?_ (jmpS (nextS (sJ a) 64) 64 0 f) (fun _ => rfl) (fun h => absurd rfl h) (fun _ => rfl)).mono ?_
  · intro p w hA hT
    refine (jump_any _ 64 0 0 f 0 p w hA okn (by decide) (by decide) (by omega) (by omega)).mono ?_
    rintro x w' ⟨rfl, K, h⟩
    exact ⟨rfl, K, fun _ => h⟩
  · rintro e w' ⟨rfl, K⟩
    exact ⟨_, hpc, rfl, K⟩
end Go.Proofs.YtfpknklibiigfaaDoor
