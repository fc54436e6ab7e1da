/- Packed: SxE SxF. -/
import Derived.Laws.StructEq
import Derived.Test.YtacpahebbnnckaaP13
set_option linter.unusedVariables false
set_option linter.unusedSimpArgs false
namespace Go.Proofs.Ytacpahebbnnckaa
section

end
section

end
end Go.Proofs.Ytacpahebbnnckaa
