/- Packed: MtA MtB MtC. -/
import Derived.Deep.CutBlock
import Derived.Deep.CutRange
import Derived.Test.YtfgfnjckklldbaaP2
import Derived.Test.YtfgfnjckklldbaaP3
set_option linter.unusedVariables false
set_option linter.unusedSimpArgs false
namespace Go.Proofs.Ytfgfnjckklldbaa
section
open Go.RowKit
theorem wrapSmall {x : Int} (h : -9223372036854775808 ≤ x ∧ x ≤ 9223372036854775807) : wrap64 x = x := by unfold wrap64; omega
end
section
open Go.RowKit
theorem rest_eq {n m : Int} (hm : 0 < m) (hb : m ≤ 4611686018427387904) : (n.tmod m < 0 → wrap64 (n.tmod m + m) = n % m) ∧ (¬ n.tmod m < 0 → n.tmod m = n % m) := by
 have h0 := Int.emod_nonneg n (show m ≠ 0 by omega)
 have h1 := Int.emod_lt_of_pos n hm
 have e := Int.tmod_eq_emod (a := n) (b := m)
 refine ⟨fun h => ?_, fun h => ?_⟩
 ·rw [wrapSmall] <;> (split at e <;> omega)
 ·split at e <;> omega
end
section
open Go.RowKit
end
end Go.Proofs.Ytfgfnjckklldbaa
