/- Packed: SxO SxP SxM. -/
import Derived.Laws.Sem
import Derived.Laws.Cells
import Derived.Laws.World
import Derived.Laws.NewBlocks
import Derived.Test.YtacpahebbnnckaaP12
set_option linter.unusedVariables false
set_option linter.unusedSimpArgs false
namespace Go.Proofs.Ytacpahebbnnckaa
section
namespace SX
open Go.RowKit
variable {P : Program} {ε : Env} {ρ ρ' : Nat → Nat}
section
variable {o : Oper} {a : Act} {w w' : World} {R : Value → World → Prop} {v : Value}
end
section
variable {ε : Env}
end
end SX
end
section
namespace SX
open Go.RowKit
variable {P : Program} {ε : Env} {ρ : Nat → Nat}
section
variable {w : World}
end
end SX
end
section
namespace SX
open Go.RowKit
variable {P : Program} {ε : Env} {ρ : Nat → Nat}
end SX
end
end Go.Proofs.Ytacpahebbnnckaa
