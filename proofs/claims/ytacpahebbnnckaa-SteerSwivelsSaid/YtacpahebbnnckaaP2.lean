/- Packed: QTIn. -/
import Derived.Sort.QuietTacIn
import Derived.Sort.BigQuietIn
import Derived.StillTail
import Derived.TacticsIn
set_option linter.unusedVariables false
set_option linter.unusedSimpArgs false
namespace Go.Proofs.Ytacpahebbnnckaa
section
namespace QTI
section
variable {F : Fence} {m : Nat} {P : Program} {ops : Array Oper} {md : Region.Mode} {C : World → Prop}
end
end QTI
end
end Go.Proofs.Ytacpahebbnnckaa
