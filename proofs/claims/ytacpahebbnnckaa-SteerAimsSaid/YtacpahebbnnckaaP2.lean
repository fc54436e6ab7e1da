/- Packed: QTIn. -/
import Derived.Sort.QuietTacIn
import Derived.Sort.BigQuietIn
import Derived.StillTail
import Derived.TacticsIn
set_option linter.unusedVariables false
set_option linter.unusedSimpArgs false
namespace Go.Proofs.Ytacpahebbnnckaa
section

end
end Go.Proofs.Ytacpahebbnnckaa
