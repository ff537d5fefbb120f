/- The two tables of forms: what the row lists of them is what Tabs says; a slice of numbers that came in. -/
import Derived.Test.YtpalbpjmjbcelaaDoorRows
import Derived.Test.YtpalbpjmjbcelaaDoorFormm
import Derived.Test.YtpalbpjmjbcelaaDoorIrow
namespace Go.Proofs.YtpalbpjmjbcelaaDoor
open Go.RowKit

theorem tabs_of_laid {W : World} (h : laidMetH Tryd.prog [("mummer/isa.forms", Rows.laid_mummer_isa_forms), ("mummer/isa.spans", Rows.laid_mummer_isa_spans)] W) : Tabs W := by
  rw [MakeChecks.laidMetH_plain _ _ _ (by kernel_rfl)] at h
  refine ⟨laid_block 4 formsC (show Tryd.prog.globalNamed "mummer/isa.forms" = some 0 by kernel_rfl) (show (Tryd.prog.globals[0]?).map (·.type) = some 77 by kernel_rfl) (by kernel_rfl) (by kernel_rfl) (by rw [show formsC.size = 50 from by kernel_rfl]; decide) h,
    laid_block 4 spansC (show Tryd.prog.globalNamed "mummer/isa.spans" = some 1 by kernel_rfl) (show (Tryd.prog.globals[1]?).map (·.type) = some 123 by kernel_rfl) (by kernel_rfl) (by kernel_rfl) (by rw [show spansC.size = 56 from by kernel_rfl]; decide) (laid_rest h)⟩
end Go.Proofs.YtpalbpjmjbcelaaDoor
