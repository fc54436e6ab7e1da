/- The document's quotients of integers of 128 bits: divide, Quotient, Floor, Ceil, over. -/
import Derived.Test.YtlcbcanlehackaaDoorDivA
import Derived.Test.YtlcbcanlehackaaDoorDivB
import Derived.Deep.RegionHeld3
set_option linter.unusedVariables false
set_option linter.unusedSimpArgs false
namespace Go.Proofs.YtlcbcanlehackaaDoor
open Go.RowKit
/-- A quotient rounded up. -/
def cdiv (a b : Int) : Int := -((-a) / b)
theorem cdiv_pos {a b : Int} (hb : 0 < b) (h : ¬ a % b = 0) : cdiv a b = a / b + 1 := by
  unfold cdiv
  rw [Int.neg_ediv, if_neg (by rw [Int.dvd_iff_emod_eq_zero]; exact h), Int.sign_eq_one_of_pos hb]
  omega
theorem cdiv_zero {a b : Int} (h : a % b = 0) : cdiv a b = a / b := by
  unfold cdiv
  rw [Int.neg_ediv, if_pos (by rw [Int.dvd_iff_emod_eq_zero]; exact h)]
  omega
theorem below_of_drew {W w1 : World} (h : Below W.drew.heap.size W.drew w1) : Below W.heap.size W w1 := (Below.drew (Below.refl _ _)).trans h
theorem wH_neg {a : Int} (h : a < 0) : wH a < 0 := by unfold wH; omega
theorem wH_pos {a : Int} (h : 0 ≤ a) : ¬ wH a < 0 := by unfold wH; omega
theorem quo_bd {a b : Int} (ha : 0 ≤ a) (hb : 0 < b) : 0 ≤ a / b ∧ a / b ≤ a := ⟨Int.ediv_nonneg ha (Int.le_of_lt hb), Int.ediv_le_self b ha⟩
theorem neg_div_z {a b : Int} (h : (-a) % b = 0) : a / b = -((-a) / b) ∧ cdiv a b = -((-a) / b) := by
  have h2 := cdiv_zero h
  unfold cdiv at *
  rw [Int.neg_neg] at h2
  exact ⟨by omega, by omega⟩
theorem neg_div_n {a b : Int} (hb : 0 < b) (h : ¬ (-a) % b = 0) : a / b = -((-a) / b + 1) ∧ cdiv a b = -((-a) / b) := by
  have h2 := cdiv_pos hb h
  unfold cdiv at *
  rw [Int.neg_neg] at h2
  exact ⟨by omega, by omega⟩
end Go.Proofs.YtlcbcanlehackaaDoor
