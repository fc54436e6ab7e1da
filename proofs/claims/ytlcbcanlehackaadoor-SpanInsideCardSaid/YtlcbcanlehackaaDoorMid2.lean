/- Middles, halves and widths, and 'same': the document's, and the law's own. -/
import Derived.Test.YtlcbcanlehackaaDoorMid
import Derived.Test.YtlcbcanlehackaaDoorQF
set_option linter.unusedVariables false
set_option linter.unusedSimpArgs false
namespace Go.Proofs.YtlcbcanlehackaaDoor
open Go.RowKit
/-- The width, if it is a number. -/
def wdB (lo hi : Int) : Bool := decide (hi - lo ≤ 9223372036854775807)
def wdI (lo hi : Int) : Int := if wdB lo hi then hi - lo else 0
def wdE (lo hi : Int) : Int := if wdB lo hi then 0 else 4
theorem same_any (x y e : Int) (w : World) :
    Calls Tryd.prog 12 #[.agg #[.int .i64 (x), .int .i64 (y)], .int .i64 e, .agg #[.int .i64 (x), .int .i64 (y)], .int .i64 e] w fun r w' => r = .returned (.bool true) ∧ Below w.heap.size w w' := by
  go_enter Tryd.func12, Tryd.ntmps12
  go_wp2
  go_ret
  exact ⟨rfl, (by repeat (first | with_reducible exact Below.refl _ _ | with_reducible refine bdrew ?_ | ((with_reducible first | refine bset ?_ ?_ | refine ball ?_ ?_ | refine bth (by assumption) ?_ ?_); first | omega | (simp <;> omega))))⟩
end Go.Proofs.YtlcbcanlehackaaDoor
