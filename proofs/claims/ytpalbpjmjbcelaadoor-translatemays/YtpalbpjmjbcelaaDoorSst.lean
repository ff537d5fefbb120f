/- The state of a processor, as a row of cells. -/
import Derived.Test.YtpalbpjmjbcelaaDoorPutl
namespace Go.Proofs.YtpalbpjmjbcelaaDoor
open Go.RowKit
set_option linter.unusedVariables false

end Go.Proofs.YtpalbpjmjbcelaaDoor
