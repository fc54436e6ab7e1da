/- Packed: SwJ. -/
import Derived.Test.YtacpahebbnnckaaP11
import Derived.Test.YtacpahebbnnckaaP26
set_option linter.unusedVariables false
set_option linter.unusedSimpArgs false
namespace Go.Proofs.Ytacpahebbnnckaa
section
namespace Sw
end Sw
end
end Go.Proofs.Ytacpahebbnnckaa
