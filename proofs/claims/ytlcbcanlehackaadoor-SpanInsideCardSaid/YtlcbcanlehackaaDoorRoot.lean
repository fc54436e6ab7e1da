/- The document's roots of whole numbers. -/
import Derived.Test.YtlcbcanlehackaaDoorTimes
set_option linter.unusedVariables false
set_option linter.unusedSimpArgs false
namespace Go.Proofs.YtlcbcanlehackaaDoor
open Go.RowKit
theorem sq_le {a b : Int} (h0 : 0 ≤ a) (h : a ≤ b) : a * a ≤ b * b := Int.mul_le_mul h h h0 (by omega)
theorem root_lt {a b : Int} (h0 : 0 ≤ b) (h : a * a < b * b) : a < b := by
  by_cases c : a < b
  · exact c
  · have := sq_le h0 (show b ≤ a by omega)
    omega
theorem root_one {a n m : Int} (hn : 0 ≤ n) (hm : 0 ≤ m) (h1 : n * n ≤ a) (h2 : a < (n + 1) * (n + 1)) (k1 : m * m ≤ a) (k2 : a < (m + 1) * (m + 1)) : n = m := by
  have a1 := root_lt (a := n) (b := m + 1) (by omega) (by omega)
  have a2 := root_lt (a := m) (b := n + 1) (by omega) (by omega)
  omega
theorem root_is (a : Nat) : ∃ n : Nat, n * n ≤ a ∧ a < (n + 1) * (n + 1) := by
  induction a with
  | zero => exact ⟨0, by omega, by omega⟩
  | succ a ih =>
    obtain ⟨n, h1, h2⟩ := ih
    by_cases c : a + 1 < (n + 1) * (n + 1)
    · exact ⟨n, by omega, c⟩
    · refine ⟨n + 1, by omega, ?_⟩
      have : (n + 1 + 1) * (n + 1 + 1) = (n + 1) * (n + 1) + 2 * (n + 1) + 1 := by
        rw [Nat.add_mul, Nat.mul_add, Nat.mul_add]; omega
      omega
theorem sq_128 : (0 : Int) ≤ 562949953421312 := by omega
/-- The search's bounds: what is found, and twice the bit that is tried next. -/
structure RootInv (a n c : Int) : Prop where
  n0 : 0 ≤ n
  c1 : 1 ≤ c
  pow : ∃ j : Nat, j ≤ 49 ∧ c = 2 ^ j
  le : n * n ≤ a
  lt : a < (n + c) * (n + c)
theorem RootInv.half {a n c : Int} (h : RootInv a n c) (hc : ¬ c = 1) : ∃ d, c = 2 * d ∧ 1 ≤ d ∧ d ≤ 281474976710656 ∧ ∃ j : Nat, j ≤ 49 ∧ d = 2 ^ j := by
  obtain ⟨j, hj, rfl⟩ := h.pow
  cases j with
  | zero => exact absurd rfl hc
  | succ k =>
    refine ⟨2 ^ k, by rw [Int.pow_succ]; omega, ?_, ?_, k, by omega, rfl⟩
    · have : 0 < (2 : Int) ^ k := Int.pow_pos (by omega)
      omega
    · have h1 : (2 : Nat) ^ k ≤ 2 ^ 48 := Nat.pow_le_pow_right (by omega) (by omega)
      have h2 : (((2 : Nat) ^ k : Nat) : Int) ≤ ((2 ^ 48 : Nat) : Int) := by exact_mod_cast h1
      rw [Int.natCast_pow] at h2
      exact h2
end Go.Proofs.YtlcbcanlehackaaDoor
