/- The loop of the document's quotients: its runs. -/
import Derived.Test.YtlcbcanlehackaaDoorRMul2
namespace Go.Proofs.YtlcbcanlehackaaDoor
open Go.RowKit
def RunD (p0 p1 p2 p3 q0 q1 q2 q3 k l h : Int) : Prop :=
  (k = 0 ∧ l = 0 ∧ h = 0) ∨ (k = 1 ∧ l = p0 ∧ h = q0) ∨ (k = 2 ∧ l = mi p0 p1 ∧ h = mx q0 q1) ∨ (k = 3 ∧ l = mi (mi p0 p1) p2 ∧ h = mx (mx q0 q1) q2) ∨ (k = 4 ∧ l = mi (mi (mi p0 p1) p2) p3 ∧ h = mx (mx (mx q0 q1) q2) q3)
end Go.Proofs.YtlcbcanlehackaaDoor
