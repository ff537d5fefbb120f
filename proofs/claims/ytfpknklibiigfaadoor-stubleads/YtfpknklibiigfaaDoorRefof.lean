/- What the document's own table of forms answers. -/
import Derived.Test.YtfpknklibiigfaaDoorSize
namespace Go.Proofs.YtfpknklibiigfaaDoor
open Go.RowKit

end Go.Proofs.YtfpknklibiigfaaDoor
