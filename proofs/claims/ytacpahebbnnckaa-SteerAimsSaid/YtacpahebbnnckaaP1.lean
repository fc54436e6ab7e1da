/- Packed: Fold FoldA. -/
import Derived.RangeFuncNested
import Derived.RangeFuncBound
import Derived.RangeFuncCalls
import Derived.RangeFuncLeaves
import Derived.RangeFuncBox
import Derived.Shelf.Abstract
import Derived.Shelf.RegionOpen
import Derived.WalkKit
import Derived.OwnWalkIn
import Derived.TacticsInMore
import Derived.LoopNIn
import Derived.LoopIn
import Derived.Lib.Hide
import Derived.Test.YtacpahebbnnckaaProg
set_option linter.unusedVariables false
set_option linter.unusedSimpArgs false
namespace Go.Proofs.Ytacpahebbnnckaa
section
open Go.RowKit Go.Shelf
namespace FD
attribute [local go_sem] Oper.semAt_some
def In64 (n : Int) : Prop := -9223372036854775808 ≤ n ∧ n ≤ 9223372036854775807
structure Sp where
  lo : Int
  hi : Int
  ok : In64 lo ∧ In64 hi
def Sp.zero : Sp := ⟨0, 0, ⟨⟨by decide, by decide⟩, by decide, by decide⟩⟩
abbrev spv (x : Sp) : Value := .agg #[.int .i64 x.lo, .int .i64 x.hi]
section
variable {A B : World} {row : Option Nat} {b : Nat}
end
end FD
end
section
attribute [local go_sem] Oper.semAt_some
end
end Go.Proofs.Ytacpahebbnnckaa
