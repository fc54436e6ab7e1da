/- The document's division, bit by bit: the loops (1). -/
import Derived.Test.YtlcbcanlehackaaDoorDiv
set_option linter.unusedVariables false
set_option linter.unusedSimpArgs false
namespace Go.Proofs.YtlcbcanlehackaaDoor
open Go.RowKit
end Go.Proofs.YtlcbcanlehackaaDoor
