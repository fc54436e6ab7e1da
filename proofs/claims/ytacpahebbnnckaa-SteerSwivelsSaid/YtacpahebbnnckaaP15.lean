/- Packed: SxG. -/
import Derived.Laws.Externs
import Derived.Test.YtacpahebbnnckaaP14
set_option linter.unusedVariables false
set_option linter.unusedSimpArgs false
namespace Go.Proofs.Ytacpahebbnnckaa
section
namespace SX
open Go.RowKit
variable {P : Program} {ε : Env} {ρ : Nat → Nat}
section
variable {sub : Sub} {sp id : Nat} {pc : E} {look : Nat → LV} {mem : Nat → Option Cells} {nv base : Nat} {dec : List (E × Bool)} {o : Oper} {a : Act} {w w0 : World} {r : Op1}
end
end SX
end
end Go.Proofs.Ytacpahebbnnckaa
