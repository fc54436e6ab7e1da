/- Packed: SxB SxH SxR SxS SxT SxU SxV SxW SxX SxY SxI SxC SxJ SxQ SxL SxK SxN SxA. -/
import Derived.Laws.Append
import Derived.Laws.MakeOwn
import Derived.Test.YtacpahebbnnckaaP15
set_option linter.unusedVariables false
set_option linter.unusedSimpArgs false
namespace Go.Proofs.Ytacpahebbnnckaa
section

end
section

end
section

end
section

end
section

end
section

end
section

end
section

end
section

end
section
namespace SX
open Go.RowKit
variable {P : Program}
def R64 (n : Int) : Prop := -9223372036854775808 ≤ n ∧ n ≤ 9223372036854775807
end SX
end
section
namespace SX
open Go.RowKit
variable {P : Program}
theorem R64_0 : R64 0 := by unfold R64; omega
def clampI (n : Int) : Int := if -9223372036854775808 ≤ n ∧ n ≤ 9223372036854775807 then n else 0
theorem clampI_R64 (n : Int) : R64 (clampI n) := by unfold clampI R64; split <;> omega
theorem clampI_eq {n : Int} (h : R64 n) : clampI n = n := if_pos h
end SX
end
section

end
section

end
section

end
section

end
section

end
section

end
section

end
end Go.Proofs.Ytacpahebbnnckaa
