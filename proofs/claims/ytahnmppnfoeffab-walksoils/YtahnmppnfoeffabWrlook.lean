/- The document's Look: where a virtual address leads. -/
import Derived.Test.YtahnmppnfoeffabWto
import Derived.Deep.CutRange
namespace Go.Proofs.Ytahnmppnfoeffab
open Go.RowKit
set_option linter.unusedVariables false

theorem rhas_any (w : World) (x b : Nat) (hx : (x : Int) < 4294967296) (hb : (0 : Int) < b) (hb2 : (b : Int) < 4294967296) :
    Calls Try.prog 26 #[.int .u32 x, .int .u32 b] w fun e w' => e = .returned (.bool (x / b % 2 == 1)) ∧ w' = w := by
  have hq : ((x : Int).tdiv (b : Int)) % 4294967296 = ((x / b : Nat) : Int) := by
    rw [Int.tdiv_eq_ediv_of_nonneg (by omega), ← Int.natCast_ediv]
    have : x / b ≤ x := Nat.div_le_self _ _
    generalize x / b = q at this
    omega
  have h0 : ((b : Int) == 0) = false := by simp; omega
  go_enter Try.func26, Try.ntmps26
  go_wp2
  go_ret
  refine ⟨ret_bool ?_, rfl⟩
  rw [Bool.eq_iff_iff]
  simp
  omega

end Go.Proofs.Ytahnmppnfoeffab
