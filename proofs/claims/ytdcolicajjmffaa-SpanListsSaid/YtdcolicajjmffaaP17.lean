/- Packed: Quo Quo2 Mid Mid2. -/
import Derived.Deep.RegionHeld3
import Derived.Test.YtdcolicajjmffaaP5
set_option linter.unusedVariables false
set_option linter.unusedSimpArgs false
namespace Go.Proofs.Ytdcolicajjmffaa
section
open Go.RowKit
def cdiv (a b : Int) : Int := -((-a) / b)
theorem cdiv_pos {a b : Int} (hb : 0 < b) (h : ¬ a % b = 0) : cdiv a b = a / b + 1 := by
 unfold cdiv
 rw [Int.neg_ediv, if_neg (by rw [Int.dvd_iff_emod_eq_zero]; exact h), Int.sign_eq_one_of_pos hb]
 omega
theorem cdiv_zero {a b : Int} (h : a % b = 0) : cdiv a b = a / b := by
 unfold cdiv
 rw [Int.neg_ediv, if_pos (by rw [Int.dvd_iff_emod_eq_zero]; exact h)]
 omega
end
section
open Go.RowKit
end
section
open Go.RowKit
end
section
open Go.RowKit
theorem same_any (x y e : Int) (w : World) :
  Calls Try.prog 10 #[.agg #[.int .i64 (x), .int .i64 (y)], .int .i64 e, .agg #[.int .i64 (x), .int .i64 (y)], .int .i64 e] w fun r w' => r = .returned (.bool true) ∧ Below w.heap.size w w' := by
 go_enter Try.func10, Try.ntmps10
 go_wp2
 go_ret
 exact ⟨rfl, blw_⟩
end
end Go.Proofs.Ytdcolicajjmffaa
