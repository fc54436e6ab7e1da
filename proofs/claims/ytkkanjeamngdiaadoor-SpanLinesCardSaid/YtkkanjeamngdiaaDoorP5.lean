/- Packed: Quo Quo2 Mid Mid2. -/
import Derived.Deep.RegionHeld3
import Derived.Test.YtkkanjeamngdiaaDoorP2
set_option linter.unusedVariables false
set_option linter.unusedSimpArgs false
namespace Go.Proofs.YtkkanjeamngdiaaDoor
section
open Go.RowKit
def cdiv (a b : Int) : Int := -((-a) / b)
theorem cdiv_pos {a b : Int} (hb : 0 < b) (h : ¬ a % b = 0) : cdiv a b = a / b + 1 := by
 unfold cdiv
 rw [Int.neg_ediv, if_neg (by rw [Int.dvd_iff_emod_eq_zero]; exact h), Int.sign_eq_one_of_pos hb]
 omega
theorem cdiv_zero {a b : Int} (h : a % b = 0) : cdiv a b = a / b := by
 unfold cdiv
 rw [Int.neg_ediv, if_pos (by rw [Int.dvd_iff_emod_eq_zero]; exact h)]
 omega
end
section
open Go.RowKit
end
section
open Go.RowKit
end
section
open Go.RowKit
end
end Go.Proofs.YtkkanjeamngdiaaDoor
