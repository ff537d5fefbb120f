/- Part of a proof. -/
import Derived.Test.YtpalbpjmjbcelaaDoorJ18
namespace Go.Proofs.YtpalbpjmjbcelaaDoor
open Go.RowKit
set_option linter.unusedVariables false
set_option linter.unusedSimpArgs false
end Go.Proofs.YtpalbpjmjbcelaaDoor
