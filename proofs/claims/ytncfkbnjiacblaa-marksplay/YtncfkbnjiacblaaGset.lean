/- Sets of numbers: map[int]struct{}. -/
import Derived.Test.YtncfkbnjiacblaaPutl
import Derived.Maps.Own
import Derived.Maps.OwnSet
import Derived.Maps.Views
import Derived.MapKept
import Derived.Carry
namespace Go.Proofs.Ytncfkbnjiacblaa
open Go.RowKit Go.ChangeMaps Go.MapKept
set_option linter.unusedVariables false
set_option linter.unusedSimpArgs false

def I6 (k : Int) : Prop := -9223372036854775808 ≤ k ∧ k ≤ 9223372036854775807
theorem keyed6 : Maps.Keyed Try.prog 3 := Maps.int_keyed Try.underlying3
theorem keyI6 (k : Int) (h : I6 k) : keyOf Try.prog 3 (.int .i64 k) = some (.int .i64 k) := Maps.keyOf_int_mk Try.underlying3 (by unfold I6 at h; simp [Lit.wf, IntKind.min, IntKind.max, IntKind.signed, IntKind.bits]; omega)

end Go.Proofs.Ytncfkbnjiacblaa
