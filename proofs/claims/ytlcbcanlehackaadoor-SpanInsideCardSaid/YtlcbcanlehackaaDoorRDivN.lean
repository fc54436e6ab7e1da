/- Quotients of spans: the document's. -/
import Derived.Test.YtlcbcanlehackaaDoorRMul2
import Derived.Test.YtlcbcanlehackaaDoorQG
import Derived.Test.YtlcbcanlehackaaDoorMakes
import Derived.Test.YtlcbcanlehackaaDoorRDivM
set_option linter.unusedVariables false
set_option linter.unusedSimpArgs false
namespace Go.Proofs.YtlcbcanlehackaaDoor
open Go.RowKit
end Go.Proofs.YtlcbcanlehackaaDoor
