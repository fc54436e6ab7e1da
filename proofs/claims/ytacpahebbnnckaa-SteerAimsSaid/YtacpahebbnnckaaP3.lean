/- Packed: FoldP. -/
import Derived.RangeFuncNested
import Derived.RangeFuncBound
import Derived.RangeFuncCalls
import Derived.RangeFuncLeaves
import Derived.RangeFuncBox
import Derived.Shelf.Abstract
import Derived.Shelf.RegionOpen
import Derived.WalkKit
import Derived.OwnWalkIn
import Derived.TacticsInMore
import Derived.LoopNIn
import Derived.LoopIn
import Derived.Lib.Hide
import Derived.Test.YtacpahebbnnckaaProg
import Derived.Test.YtacpahebbnnckaaP1
import Derived.Test.YtacpahebbnnckaaP2
set_option linter.unusedVariables false
set_option linter.unusedSimpArgs false
namespace Go.Proofs.Ytacpahebbnnckaa
section
attribute [local go_sem] Oper.semAt_some
end
end Go.Proofs.Ytacpahebbnnckaa
