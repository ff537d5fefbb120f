/- One step, whatever it is. -/
import Derived.Test.YtiegihaagolmdaaMstepb
import Derived.Test.YtiegihaagolmdaaMstepc
import Derived.Test.YtiegihaagolmdaaMstepd
import Derived.Test.YtiegihaagolmdaaMstepe
namespace Go.Proofs.Ytiegihaagolmdaa
open Go.RowKit
set_option linter.unusedVariables false

theorem step_any (w : World) (v : Value) (R n : Nat) (x : Option Addr) (Rb : Nat) (B : List Int) (h : Two w v R n x Rb B) (kd a z m : Int) (a0 : 0 ≤ a) (a1 : a < 4294967296) (z0 : 0 ≤ z) (z1 : z < 4294967296) (sx : Option Addr) (sl sc : Nat) (zs : List Int) (hzl : zs.length = sl) (hzc : sl ≤ sc) (hzm : (sc : Int) ≤ 9223372036854775807) (S : Src w sx zs [R, Rb]) (hzb : Byts zs) :
    Calls Try.prog 14 #[v, refV x B.length, .agg (stepV kd a z sx sl sc m)] w fun e w' => e = .returned (.bool true) ∧ ∃ C, Two w' v R n x Rb C ∧ Put [R, Rb] w w' := by
  obtain ⟨a, rfl⟩ : ∃ k : Nat, a = k := ⟨a.toNat, by omega⟩
  have quiet : ∀ {e : Ending} {w' : World}, (e = .returned (.bool true) ∧ Kep w w') → e = .returned (.bool true) ∧ ∃ C, Two w' v R n x Rb C ∧ Put [R, Rb] w w' := fun hh => ⟨hh.1, B, h.kep hh.2, Put.of_kep hh.2⟩
  rcases (by omega : kd = 0 ∨ kd = 1 ∨ kd = 2 ∨ kd = 3 ∨ kd = 4 ∨ kd = 5 ∨ (kd < 0 ∨ 5 < kd)) with rfl | rfl | rfl | rfl | rfl | rfl | hk
  · exact (step0 w v R n x Rb B h a a1 z m sx sl sc).mono fun _ _ => quiet
  · exact step1 w v R n x Rb B h a a1 z m z0 z1 sx sl sc
  · exact (step2 w v R n x Rb B h a a1 z m sx sl sc).mono fun _ _ => quiet
  · exact step3 w v R n x Rb B h a a1 z m z0 z1 sx sl sc
  · exact step4 w v R n x Rb B h a a1 z m sx sl sc zs hzl hzc hzm S hzb
  · exact (step5 w v R n x Rb B h a a1 z m sx sl sc).mono fun _ _ => quiet
  · exact (step6 w v x B.length a a1 kd z m hk sx sl sc).mono fun _ _ => quiet
end Go.Proofs.Ytiegihaagolmdaa
