/- The document's Floor, Ceil, over. -/
import Derived.Test.YtlcbcanlehackaaDoorQuo
set_option linter.unusedVariables false
set_option linter.unusedSimpArgs false
namespace Go.Proofs.YtlcbcanlehackaaDoor
open Go.RowKit
end Go.Proofs.YtlcbcanlehackaaDoor
