/- Products of spans: both sides say the same. -/
import Derived.Test.YtlcbcanlehackaaDoorRMul
set_option linter.unusedVariables false
set_option linter.unusedSimpArgs false
namespace Go.Proofs.YtlcbcanlehackaaDoor
open Go.RowKit
theorem share_b (x y : Int) : sL x y 4294967296 = x * y / 4294967296 ∧ sH x y 4294967296 = cdiv (x * y) 4294967296 := by
  have e : sN x y 4294967296 = x * y := by unfold sN; rw [if_neg (by omega)]
  have e2 : ab 4294967296 = 4294967296 := by unfold ab; rw [if_neg (by omega)]
  unfold sL sH
  rw [e, e2]
  exact ⟨rfl, rfl⟩
theorem mul_bd {x y : Int} (hx : I64 x) (hy : I64 y) : R126 (x * y) := by
  obtain ⟨a0, a1⟩ := ab_bd hx
  obtain ⟨b0, b1⟩ := ab_bd hy
  have h := ab_mul x y
  have m0 := Int.mul_nonneg a0 b0
  have m1 : ab x * ab y ≤ 9223372036854775808 * 9223372036854775808 := Int.mul_le_mul a1 b1 b0 (by omega)
  generalize ab x * ab y = M at *
  cases hs : (decide (x < 0) != decide (y < 0)) <;> rw [hs] at h <;> simp at h <;> exact ⟨by omega, by omega⟩
theorem mi_bd {x y : Int} (hx : R126 x) (hy : R126 y) : R126 (mi x y) := by unfold mi; split <;> assumption
theorem mx_bd {x y : Int} (hx : R126 x) (hy : R126 y) : R126 (mx x y) := by unfold mx; split <;> assumption
theorem mi_div (p q : Int) : mi p q / 4294967296 = mi (p / 4294967296) (q / 4294967296) := by unfold mi; split <;> split <;> omega
theorem mx_cdiv (p q : Int) : cdiv (mx p q) 4294967296 = mx (cdiv p 4294967296) (cdiv q 4294967296) := by unfold mx cdiv; split <;> split <;> omega
theorem mi_asc (a b c d : Int) : mi (mi (mi a b) c) d = mi (mi a b) (mi c d) := by unfold mi; (repeat split) <;> omega
theorem mx_asc (a b c d : Int) : mx (mx (mx a b) c) d = mx (mx a b) (mx c d) := by unfold mx; (repeat split) <;> omega
end Go.Proofs.YtlcbcanlehackaaDoor
