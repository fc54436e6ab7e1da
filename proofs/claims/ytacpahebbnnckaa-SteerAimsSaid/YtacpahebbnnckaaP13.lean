/- Packed: SxO SxP SxM. -/
import Derived.Laws.Sem
import Derived.Laws.Cells
import Derived.Laws.World
import Derived.Laws.NewBlocks
import Derived.Test.YtacpahebbnnckaaP12
set_option linter.unusedVariables false
set_option linter.unusedSimpArgs false
namespace Go.Proofs.Ytacpahebbnnckaa
section

end
section

end
section

end
end Go.Proofs.Ytacpahebbnnckaa
