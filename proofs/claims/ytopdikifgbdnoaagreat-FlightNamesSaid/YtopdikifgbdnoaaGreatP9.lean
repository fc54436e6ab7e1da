/- Packed: QT. -/
import Derived.Deep.Quiet
import Derived.StillTail
import Derived.Below
set_option linter.unusedVariables false
set_option linter.unusedSimpArgs false
namespace Go.Proofs.YtopdikifgbdnoaaGreat
section
namespace QT
section
variable {P : Program} {ops : Array Oper} {md : Region.Mode} {C : World → Prop}








end
end QT
end
end Go.Proofs.YtopdikifgbdnoaaGreat
