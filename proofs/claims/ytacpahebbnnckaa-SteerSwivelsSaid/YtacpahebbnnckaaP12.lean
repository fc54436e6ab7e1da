/- Packed: Sx SxD. -/
import Derived.Orders
import Derived.Scope
import Derived.Below
import Derived.KernelRfl
set_option linter.unusedVariables false
set_option linter.unusedSimpArgs false
namespace Go.Proofs.Ytacpahebbnnckaa
section
namespace SX
section
variable (P : Program) (sub : Sub) (sp : Nat) (id : Nat) (pc : E) (look : Nat → LV) (mem : Nat → Option Cells) (nv : Nat)
end
mutual
end
end SX
end
section
namespace SX
variable {ε : Env} {ρ ρ' : Nat → Nat}
section
variable {β : Type}
end
end SX
end
end Go.Proofs.Ytacpahebbnnckaa
