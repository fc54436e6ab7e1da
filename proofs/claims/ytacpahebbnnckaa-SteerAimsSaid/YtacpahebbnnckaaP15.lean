/- Packed: SxG. -/
import Derived.Laws.Externs
import Derived.Test.YtacpahebbnnckaaP14
set_option linter.unusedVariables false
set_option linter.unusedSimpArgs false
namespace Go.Proofs.Ytacpahebbnnckaa
section

end
end Go.Proofs.Ytacpahebbnnckaa
