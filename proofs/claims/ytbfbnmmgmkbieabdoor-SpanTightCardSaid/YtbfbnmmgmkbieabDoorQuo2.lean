/- The document's Floor, Ceil, over. -/
import Derived.Test.YtbfbnmmgmkbieabDoorQuo
set_option linter.unusedVariables false
set_option linter.unusedSimpArgs false
namespace Go.Proofs.YtbfbnmmgmkbieabDoor
open Go.RowKit
end Go.Proofs.YtbfbnmmgmkbieabDoor
