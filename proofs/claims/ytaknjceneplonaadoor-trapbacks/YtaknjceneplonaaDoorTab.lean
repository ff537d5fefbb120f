/- The two tables of forms: what the row lists of them is what Tabs says; a slice of numbers that came in. -/
import Derived.Test.YtaknjceneplonaaDoorRows
import Derived.Test.YtaknjceneplonaaDoorFormm
namespace Go.Proofs.YtaknjceneplonaaDoor
open Go.RowKit

/-- A slice of numbers that came in: nil; or a row of 'cap' cells, the numbers zs, of which the first 'len' are its elements. -/
def IsRow (k : IntKind) (w : World) (a : Option Addr) (len cap : Nat) (zs : List Int) : Prop :=
  (a = none ∧ len = 0 ∧ cap = 0 ∧ zs = []) ∨
  ∃ x, a = some x ∧ len ≤ cap ∧ cap ≤ maxLen ∧ zs.length = cap ∧ (∀ i, i < zs.length → w.cell? (x.add i) = some (.int k (zs.getD i 0))) ∧ ∀ n ∈ zs, (Lit.int k n).wf = true

theorem tabs_of_laid {W : World} (h : laidMetH Tryd.prog [("mummer/isa.forms", Rows.laid_mummer_isa_forms), ("mummer/isa.spans", Rows.laid_mummer_isa_spans)] W) : Tabs W := by
  rw [MakeChecks.laidMetH_plain _ _ _ (by kernel_rfl)] at h
  refine ⟨laid_block 4 formsC (show Tryd.prog.globalNamed "mummer/isa.forms" = some 0 by kernel_rfl) (show (Tryd.prog.globals[0]?).map (·.type) = some 56 by kernel_rfl) (by kernel_rfl) (by kernel_rfl) (by rw [show formsC.size = 50 from by kernel_rfl]; decide) h,
    laid_block 4 spansC (show Tryd.prog.globalNamed "mummer/isa.spans" = some 1 by kernel_rfl) (show (Tryd.prog.globals[1]?).map (·.type) = some 61 by kernel_rfl) (by kernel_rfl) (by kernel_rfl) (by rw [show spansC.size = 56 from by kernel_rfl]; decide) (laid_rest h)⟩
end Go.Proofs.YtaknjceneplonaaDoor
