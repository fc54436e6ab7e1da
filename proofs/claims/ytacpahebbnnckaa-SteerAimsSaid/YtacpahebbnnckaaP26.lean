/- Packed: LiB LiN. -/
import Derived.BigQuiet
import Derived.Test.YtacpahebbnnckaaP1
import Derived.Test.YtacpahebbnnckaaP9
import Derived.Test.YtacpahebbnnckaaP25
set_option linter.unusedVariables false
set_option linter.unusedSimpArgs false
namespace Go.Proofs.Ytacpahebbnnckaa
section
set_option maxRecDepth 100000
open Go.RowKit
open FP
def stepA (s x : FD.Sp) : FD.Sp × Int :=
 (⟨okI (vB s.lo s.hi && vB x.lo x.hi) (oLo (s.lo + x.lo) (s.hi + x.hi)), okI (vB s.lo s.hi && vB x.lo x.hi) (oHi (s.lo + x.lo) (s.hi + x.hi)), SX.okI_R64 (SX.oLo_R64 _ _), SX.okI_R64 (SX.oHi_R64 _ _)⟩, errE (vB s.lo s.hi && vB x.lo x.hi) (oE (s.lo + x.lo) (s.hi + x.hi)))
theorem stepA_in (s x : FD.Sp) (W : World) : Calls Try.prog 94 #[FD.spv s, FD.spv x] W fun e W' => e = .returned (.tuple #[FD.spv (stepA s x).1, .int .i64 (stepA s x).2]) ∧ Below W.heap.size W W' :=
 add_any s.lo s.hi x.lo x.hi s.ok.1 s.ok.2 x.ok.1 x.ok.2 W
theorem rstepA_in (s x : FD.Sp) (W : World) : Calls Try.prog 71 #[FD.spv s, FD.spv x] W fun e W' => e = .returned (.tuple #[FD.spv (stepA s x).1, .int .i64 (stepA s x).2]) ∧ Below W.heap.size W W' :=
 radd_any s.lo s.hi x.lo x.hi s.ok.1 s.ok.2 x.ok.1 x.ok.2 W
end
section
set_option maxRecDepth 100000

end
end Go.Proofs.Ytacpahebbnnckaa
