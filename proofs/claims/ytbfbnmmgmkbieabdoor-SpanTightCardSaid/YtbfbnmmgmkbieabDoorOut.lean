/- What fits: the document's out; sums, negative numbers, differences, and spans that grow, on both sides. -/
import Derived.Test.YtbfbnmmgmkbieabDoorWide
import Derived.Test.YtbfbnmmgmkbieabDoorAsk2
set_option linter.unusedVariables false
set_option linter.unusedSimpArgs false
namespace Go.Proofs.YtbfbnmmgmkbieabDoor
open Go.RowKit
/-- Both are valid numbers of 64 bits. -/
def fits (lo hi : Int) : Bool := decide (-9223372036854775807 ≤ lo ∧ lo ≤ 9223372036854775807 ∧ -9223372036854775807 ≤ hi ∧ hi ≤ 9223372036854775807)
def oLo (lo hi : Int) : Int := if fits lo hi then lo else 0
def oHi (lo hi : Int) : Int := if fits lo hi then hi else 0
def oE (lo hi : Int) : Int := if fits lo hi then 0 else 4
def okI (v : Bool) (x : Int) : Int := if v then x else 0
def errE (v : Bool) (e : Int) : Int := if v then e else 2
theorem out_t {lo hi : Int} (h : fits lo hi = true) : oLo lo hi = lo ∧ oHi lo hi = hi ∧ oE lo hi = 0 := by simp [oLo, oHi, oE, h]
theorem out_f {lo hi : Int} (h : fits lo hi = false) : oLo lo hi = 0 ∧ oHi lo hi = 0 ∧ oE lo hi = 4 := by simp [oLo, oHi, oE, h]
theorem ok_t (x : Int) : okI true x = x := rfl
theorem ok_f (x : Int) : okI false x = 0 := rfl
theorem err_t (x : Int) : errE true x = x := rfl
theorem err_f (x : Int) : errE false x = 2 := rfl

theorem i64_lo : I64 (-9223372036854775807) := by constructor <;> omega
theorem i64_hi : I64 9223372036854775807 := by constructor <;> omega
theorem rless_r (x y : Int) (r : Bool) (hr : decide (x < y) = r) (w : World) :
    Calls Tryd.prog 14 #[.agg #[.int .i64 (wH (x)), .int .u64 (wL (x))], .agg #[.int .i64 (wH (y)), .int .u64 (wL (y))]] w fun e w' => e = .returned (.bool r) ∧ Below w.heap.size w w' := by
  subst hr; exact rless x y w
theorem w64L {x : Int} (h : I64 x) : wrap64 (wL x) = x := by obtain ⟨_, _⟩ := h; unfold wrap64 wL; omega

end Go.Proofs.YtbfbnmmgmkbieabDoor
