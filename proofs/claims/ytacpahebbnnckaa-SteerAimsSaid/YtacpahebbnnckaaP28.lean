/- Packed: RDivAny. -/
import Derived.ProofKit
import Derived.Lib.SmallJoins
import Derived.Test.YtacpahebbnnckaaP19
import Derived.Test.YtacpahebbnnckaaP21
set_option linter.unusedVariables false
set_option linter.unusedSimpArgs false
namespace Go.Proofs.Ytacpahebbnnckaa
section
namespace lawSpanProducts
end lawSpanProducts
end
end Go.Proofs.Ytacpahebbnnckaa
