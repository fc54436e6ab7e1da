/- Packed: SxE SxF. -/
import Derived.Laws.StructEq
import Derived.Test.YtacpahebbnnckaaP13
set_option linter.unusedVariables false
set_option linter.unusedSimpArgs false
namespace Go.Proofs.Ytacpahebbnnckaa
section
namespace SX
open Go.RowKit
variable {P : Program} {ε : Env} {ρ : Nat → Nat}
section
variable {o : Oper} {a : Act} {w w' : World} {v : Value}
end
section
variable {w : World}
end
end SX
end
section
namespace SX
open Go.RowKit
variable {P : Program} {ε : Env} {ρ : Nat → Nat}
end SX
end
end Go.Proofs.Ytacpahebbnnckaa
