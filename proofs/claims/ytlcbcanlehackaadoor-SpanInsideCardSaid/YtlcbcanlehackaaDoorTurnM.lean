/- Directions, as integers: what both sides say, and how it rises and falls. -/
import Derived.Test.YtlcbcanlehackaaDoorSquare
set_option linter.unusedVariables false
set_option linter.unusedSimpArgs false
namespace Go.Proofs.YtlcbcanlehackaaDoor
open Go.RowKit
theorem div_cross {a b c d : Int} (hc : 0 < c) (hd : 0 < d) (h : a * d ≤ b * c) : a / c ≤ b / d := by
  apply Int.le_ediv_of_mul_le hd
  have h1 : a / c * c ≤ a := Int.ediv_mul_le a (by omega)
  have h2 : a / c * c * d ≤ a * d := Int.mul_le_mul_of_nonneg_right h1 (by omega)
  have h3 : a / c * d * c ≤ b * c := by rw [Int.mul_right_comm]; omega
  exact Int.le_of_mul_le_mul_right h3 hc
theorem cdiv_cross {a b c d : Int} (hc : 0 < c) (hd : 0 < d) (h : a * d ≤ b * c) : cdiv a c ≤ cdiv b d := by
  have := div_cross (a := -b) (b := -a) (c := d) (d := c) hd hc (by rw [Int.neg_mul, Int.neg_mul]; omega)
  unfold cdiv
  omega
theorem tdiv_sub {a b c : Int} (hc : 0 < c) : (a - b * c) / c = a / c - b := by
  have := Int.add_mul_ediv_right a (-b) (c := c) (by omega)
  rw [Int.neg_mul] at this
  rw [Int.sub_eq_add_neg, this]; omega
theorem tcdiv_sub {a b c : Int} (hc : 0 < c) : cdiv (a - b * c) c = cdiv a c - b := by
  have := Int.add_mul_ediv_right (-a) b (c := c) (by omega)
  unfold cdiv
  rw [show -(a - b * c) = -a + b * c by omega, this]; omega
/-- The divisor. -/
def tuD (t : Int) : Int := 18446744073709551616 + t * t
def tuL (x t : Int) : Int := x * 36893488147419103232 / tuD t
def tuH (x t : Int) : Int := cdiv (x * 36893488147419103232) (tuD t)
/-- A number from -1 to 1. -/
def Unit1 (t : Int) : Prop := -4294967296 ≤ t ∧ t ≤ 4294967296
theorem sq_bd {t : Int} (h : Unit1 t) : 0 ≤ t * t ∧ t * t ≤ 18446744073709551616 := by
  obtain ⟨h1, h2⟩ := h
  by_cases c : 0 ≤ t
  · exact ⟨Int.mul_nonneg c c, (Int.mul_le_mul h2 h2 c (by omega) : t * t ≤ 4294967296 * 4294967296)⟩
  · have e : t * t = -t * -t := by rw [Int.neg_mul_neg]
    rw [e]
    exact ⟨Int.mul_nonneg (by omega) (by omega), (Int.mul_le_mul (by omega) (by omega) (by omega) (by omega) : -t * -t ≤ 4294967296 * 4294967296)⟩
theorem tuD_bd {t : Int} (h : Unit1 t) : 18446744073709551616 ≤ tuD t ∧ tuD t ≤ 36893488147419103232 := by
  have := sq_bd h
  unfold tuD
  omega
/-- The first direction, by the document's fraction. -/
theorem cos_ref {t : Int} (h : Unit1 t) : (18446744073709551616 - t * t) * 4294967296 / tuD t = tuL 4294967296 t - 4294967296 ∧ cdiv ((18446744073709551616 - t * t) * 4294967296) (tuD t) = tuH 4294967296 t - 4294967296 := by
  have hb := tuD_bd h
  have e : (18446744073709551616 - t * t) * 4294967296 = 4294967296 * 36893488147419103232 - 4294967296 * tuD t := by unfold tuD; omega
  unfold tuL tuH
  rw [e]
  exact ⟨tdiv_sub (by omega), tcdiv_sub (by omega)⟩
theorem cos_anti {s t : Int} (h0 : 0 ≤ s) (h : s ≤ t) (ht : t ≤ 4294967296) : tuL 4294967296 t ≤ tuL 4294967296 s ∧ tuH 4294967296 t ≤ tuH 4294967296 s := by
  have hs := tuD_bd (t := s) ⟨by omega, by omega⟩
  have htt := tuD_bd (t := t) ⟨by omega, by omega⟩
  have hm : tuD s ≤ tuD t := by
    have : s * s ≤ t * t := Int.mul_le_mul h h h0 (by omega)
    unfold tuD; omega
  have hc : (4294967296 * 36893488147419103232 : Int) * tuD s ≤ 4294967296 * 36893488147419103232 * tuD t := Int.mul_le_mul_of_nonneg_left hm (by omega)
  exact ⟨div_cross (by omega) (by omega) hc, cdiv_cross (by omega) (by omega) hc⟩
theorem sin_mono {s t : Int} (hs : Unit1 s) (ht : Unit1 t) (h : s ≤ t) : tuL s s ≤ tuL t t ∧ tuH s s ≤ tuH t t := by
  have h1 := tuD_bd hs
  have h2 := tuD_bd ht
  have q : s * t ≤ 18446744073709551616 := by
    have e1 : 0 ≤ (s - t) * (s - t) := by
      by_cases c : s - t ≤ 0
      · exact Int.mul_nonneg_of_nonpos_of_nonpos c c
      · exact Int.mul_nonneg (by omega) (by omega)
    have e2 : (s - t) * (s - t) = s * s - 2 * (s * t) + t * t := by rw [Int.sub_mul, Int.mul_sub, Int.mul_sub, Int.mul_comm t s]; omega
    have := sq_bd hs
    have := sq_bd ht
    omega
  have hc : s * 36893488147419103232 * tuD t ≤ t * 36893488147419103232 * tuD s := by
    have p : 0 ≤ (t - s) * (18446744073709551616 - s * t) := Int.mul_nonneg (by omega) (by omega)
    have e3 : (t - s) * (18446744073709551616 - s * t) = t * 18446744073709551616 - s * 18446744073709551616 - t * (s * t) + s * (s * t) := by rw [Int.sub_mul, Int.mul_sub, Int.mul_sub]; omega
    have e4 : s * tuD t = s * 18446744073709551616 + s * (t * t) := by unfold tuD; rw [Int.mul_add]
    have e5 : t * tuD s = t * 18446744073709551616 + t * (s * s) := by unfold tuD; rw [Int.mul_add]
    have e6 : t * (s * t) = s * (t * t) := by rw [← Int.mul_assoc, Int.mul_comm t s, Int.mul_assoc]
    have e7 : s * (s * t) = t * (s * s) := by rw [← Int.mul_assoc, Int.mul_comm t (s * s)]
    have e8 : s * tuD t ≤ t * tuD s := by rw [e4, e5]; rw [e3, e6, e7] at p; omega
    rw [Int.mul_right_comm s, Int.mul_right_comm t]
    exact Int.mul_le_mul_of_nonneg_right e8 (by omega)
  exact ⟨div_cross (by omega) (by omega) hc, cdiv_cross (by omega) (by omega) hc⟩
/-- How great they are. -/
theorem tu_bd {x t : Int} (hx : Unit1 x) (ht : Unit1 t) : -8589934592 ≤ tuL x t ∧ tuL x t ≤ tuH x t ∧ tuH x t ≤ 8589934592 := by
  have hb := tuD_bd ht
  obtain ⟨x0, x1⟩ := hx
  have u : x * 36893488147419103232 ≤ 8589934592 * tuD t := by
    have : (8589934592 : Int) * 18446744073709551616 ≤ 8589934592 * tuD t := Int.mul_le_mul_of_nonneg_left hb.1 (by omega)
    omega
  have l : -8589934592 * tuD t ≤ x * 36893488147419103232 := by
    have : (8589934592 : Int) * 18446744073709551616 ≤ 8589934592 * tuD t := Int.mul_le_mul_of_nonneg_left hb.1 (by omega)
    omega
  refine ⟨Int.le_ediv_of_mul_le (by omega) l, ?_, ?_⟩
  · unfold tuL tuH
    by_cases z : x * 36893488147419103232 % tuD t = 0
    · rw [cdiv_zero z]; omega
    · rw [cdiv_pos (by omega) z]; omega
  · have := Int.le_ediv_of_mul_le (a := -8589934592) (b := -(x * 36893488147419103232)) (c := tuD t) (by omega) (by omega)
    unfold tuH cdiv
    omega
end Go.Proofs.YtlcbcanlehackaaDoor
