/- Packed: RLook. -/
import Derived.OwnWalk
import Derived.Test.YtkkanjeamngdiaaDoorP7
import Derived.Test.YtkkanjeamngdiaaDoorP8
set_option linter.unusedVariables false
set_option linter.unusedSimpArgs false
namespace Go.Proofs.YtkkanjeamngdiaaDoor
section
open Go.RowKit
end
end Go.Proofs.YtkkanjeamngdiaaDoor
