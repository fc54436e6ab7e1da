/- Packed: SxB SxH SxR SxS SxT SxU SxV SxW SxX SxY SxI SxC SxJ SxQ SxL SxK SxN SxA. -/
import Derived.Laws.Append
import Derived.Laws.MakeOwn
import Derived.Test.YtacpahebbnnckaaP15
set_option linter.unusedVariables false
set_option linter.unusedSimpArgs false
namespace Go.Proofs.Ytacpahebbnnckaa
section
namespace SX
open Go.RowKit
variable {P : Program} {ε : Env} {ρ : Nat → Nat}
section
variable {sp id nv base : Nat} {w : World}
end
end SX
end
section
namespace SX
open Go.RowKit
variable {P : Program} {ε : Env} {ρ : Nat → Nat}
section
variable {sub : Sub} {sp id : Nat} {pc : E} {look : Nat → LV} {mem : Nat → Option Cells} {nv : Nat} {dec : List (E × Bool)} {o : Oper} {a : Act} {w w0 : World} {r : Op1}
end
end SX
end
section
namespace SX
open Go.RowKit
variable {P : Program} {ε : Env}
section
variable (recs : List Rec) (st : St) (D : Nat → Prop) [DecidablePred D]
end
end SX
end
section
namespace SX
open Go.RowKit
variable {P : Program} {ε : Env}
section
variable {ops : Array Oper} {recs : List Rec} {bs : List Nat} {st : St} {nid sp : Nat}
end
end SX
end
section
namespace SX
open Go.RowKit
variable {P : Program} {ε : Env}
section
variable {ops : Array Oper} {recs : List Rec} {bs : List Nat} {st : St} {nid sp : Nat} {w0 w1 w w' : World} {d : List Deferred} {ρ0 ρ ρ' : Nat → Nat} {D : Nat → Prop} [DecidablePred D] {a : Act} {i : Nat} {o : Oper} {r : Rec} {v : Value}
end
end SX
end
section
namespace SX
open Go.RowKit
variable {P : Program} {ε : Env}
section
variable {sub : Sub} {ops : Array Oper} {pc : E} {dec : List (E × Bool)} {recs : List Rec} {bs : List Nat} {obs : List Ob} {st : St} {nid sp : Nat} {w0 w1 : World} {d : List Deferred} {ρ0 : Nat → Nat}
end
end SX
end
section
namespace SX
open Go.RowKit
variable {P : Program} {ε : Env}
end SX
end
section
namespace SX
open Go.RowKit
variable {P : Program} {ε : Env}
end SX
end
section
namespace SX
open Go.RowKit
variable {P : Program} {ε : Env}
end SX
end
section
namespace SX
open Go.RowKit
variable {P : Program}
def R64 (n : Int) : Prop := -9223372036854775808 ≤ n ∧ n ≤ 9223372036854775807
end SX
end
section
namespace SX
open Go.RowKit
variable {P : Program}
theorem R64_0 : R64 0 := by unfold R64; omega
def clampI (n : Int) : Int := if -9223372036854775808 ≤ n ∧ n ≤ 9223372036854775807 then n else 0
theorem clampI_R64 (n : Int) : R64 (clampI n) := by unfold clampI R64; split <;> omega
theorem clampI_eq {n : Int} (h : R64 n) : clampI n = n := if_pos h
end SX
end
section
namespace SX
open Go.RowKit
variable {P : Program}
end SX
end
section
namespace SX
open Go.RowKit
variable {P : Program}
end SX
end
section
namespace SX
open Go.RowKit
variable {P : Program}
end SX
end
section
namespace SX
open Go.RowKit
variable {P : Program}
section
variable {ε ε' : Env} {ρ : Nat → Nat}
end
end SX
end
section
namespace SX
open Go.RowKit
variable {P : Program}
end SX
end
section
namespace SX
open Go.RowKit
variable {P : Program}
end SX
end
section
namespace SX
open Go.RowKit
variable {P : Program}
end SX
end
end Go.Proofs.Ytacpahebbnnckaa
