/- Packed: LcD. -/
import Derived.KernelRfl
import Derived.Test.YtacpahebbnnckaaP3
import Derived.Test.YtacpahebbnnckaaP24
set_option linter.unusedVariables false
set_option linter.unusedSimpArgs false
namespace Go.Proofs.Ytacpahebbnnckaa
section
set_option maxRecDepth 1000000

end
end Go.Proofs.Ytacpahebbnnckaa
