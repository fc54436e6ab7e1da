/- The document's division, bit by bit: the loops (1). -/
import Derived.Test.YtbfbnmmgmkbieabDoorDiv
set_option linter.unusedVariables false
set_option linter.unusedSimpArgs false
namespace Go.Proofs.YtbfbnmmgmkbieabDoor
open Go.RowKit
end Go.Proofs.YtbfbnmmgmkbieabDoor
