/- Packed: LcS. -/
import Derived.Test.YtacpahebbnnckaaProg
import Derived.Test.YtacpahebbnnckaaP5
import Derived.Test.YtacpahebbnnckaaP16
import Derived.Test.YtacpahebbnnckaaP20
import Derived.Test.YtacpahebbnnckaaP21
set_option linter.unusedVariables false
set_option linter.unusedSimpArgs false
namespace Go.Proofs.Ytacpahebbnnckaa
section
set_option maxRecDepth 1000000
open Go.RowKit
namespace SX
theorem okI_R64 {v : Bool} {x : Int} (h : R64 x) : R64 (okI v x) := by unfold okI; split <;> first | assumption | exact R64_0
theorem oLo_R64 (a b : Int) : R64 (oLo a b) := by unfold oLo fits R64; split <;> simp_all <;> omega
theorem oHi_R64 (a b : Int) : R64 (oHi a b) := by unfold oHi fits R64; split <;> simp_all <;> omega
theorem zero1 {v : Bool} {a b : Int} (h : errE v (oE a b) ≠ 0) : okI v (oLo a b) = 0 ∧ okI v (oHi a b) = 0 := by
 unfold errE oE at h; unfold okI oLo oHi
 cases v <;> simp at h ⊢
 cases hf : fits a b <;> simp_all
end SX
end
end Go.Proofs.Ytacpahebbnnckaa
