/- Packed: Sx SxD. -/
import Derived.Orders
import Derived.Scope
import Derived.Below
import Derived.KernelRfl
set_option linter.unusedVariables false
set_option linter.unusedSimpArgs false
namespace Go.Proofs.Ytacpahebbnnckaa
section

end
section

end
end Go.Proofs.Ytacpahebbnnckaa
