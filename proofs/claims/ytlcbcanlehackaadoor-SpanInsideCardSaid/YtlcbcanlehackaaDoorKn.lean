/- The arithmetic of the long division of 128 by 64 bits. -/
import Derived.Test.YtlcbcanlehackaaDoorLib64
set_option linter.unusedVariables false
set_option linter.unusedSimpArgs false
namespace Go.Proofs.YtlcbcanlehackaaDoor
open Go.RowKit
/-- One digit's search: the guess is not too small, and what is left with it. -/
structure KInv (V U u q r : Int) : Prop where
  q0 : 0 ≤ q
  qB : q ≤ 4294967297
  r0 : 0 ≤ r
  rB : r < 4294967296
  eq : q * (V / 4294967296) + r = U
  ge : (U * 4294967296 + u) / V ≤ q
structure KNum (V U u : Int) : Prop where
  v0 : 9223372036854775808 ≤ V
  v1 : V < 18446744073709551616
  U0 : 0 ≤ U
  U1 : U < V
  u0 : 0 ≤ u
  u1 : u < 4294967296
theorem split_v (V q : Int) : q * V = q * (V / 4294967296) * 4294967296 + q * (V % 4294967296) := by
  have h : V = V / 4294967296 * 4294967296 + V % 4294967296 := by omega
  calc q * V = q * (V / 4294967296 * 4294967296 + V % 4294967296) := by rw [← h]
    _ = _ := by rw [Int.mul_add, Int.mul_assoc]
theorem digit_lt {V U u : Int} (K : KNum V U u) : (U * 4294967296 + u) / V < 4294967296 := by
  obtain ⟨a, b, c, d, e, f⟩ := K
  apply Int.ediv_lt_of_lt_mul (by omega)
  omega
theorem kinv_start {V U u : Int} (K : KNum V U u) : KInv V U u (U / (V / 4294967296)) (U % (V / 4294967296)) := by
  obtain ⟨a, b, c, d, e, f⟩ := K
  have p1 : 2147483648 ≤ V / 4294967296 := by omega
  have p2 : V / 4294967296 < 4294967296 := by omega
  have m0 := Int.emod_nonneg U (b := V / 4294967296) (by omega)
  have m1 := Int.emod_lt_of_pos U (b := V / 4294967296) (by omega)
  have m2 := Int.mul_ediv_add_emod U (V / 4294967296)
  have d0 : 0 ≤ U / (V / 4294967296) := Int.ediv_nonneg c (by omega)
  refine ⟨d0, ?_, m0, by omega, by rw [Int.mul_comm]; exact m2, ?_⟩
  · have : U / (V / 4294967296) < 4294967298 := by
      apply Int.ediv_lt_of_lt_mul (by omega)
      omega
    omega
  · apply (Int.le_ediv_iff_mul_le (by omega)).2
    have q0 : 0 ≤ (U * 4294967296 + u) / V := Int.ediv_nonneg (by omega) (by omega)
    have h1 : (U * 4294967296 + u) / V * V ≤ U * 4294967296 + u := Int.ediv_mul_le _ (by omega)
    rw [split_v] at h1
    have h2 : 0 ≤ (U * 4294967296 + u) / V * (V % 4294967296) := Int.mul_nonneg q0 (by omega)
    omega
theorem kinv_over {V U u q r : Int} (K : KNum V U u) (h : KInv V U u q r) (c : 4294967296 ≤ q ∨ 4294967296 * r + u < q * (V % 4294967296)) : (U * 4294967296 + u) / V ≤ q - 1 ∧ 1 ≤ q := by
  have lt := digit_lt K
  have q00 : 0 ≤ (U * 4294967296 + u) / V := Int.ediv_nonneg (by have := K.U0; have := K.u0; omega) (by have := K.v0; omega)
  obtain ⟨q0, qB, r0, rB, eq, ge⟩ := h
  rcases c with c | c
  · omega
  · have : (U * 4294967296 + u) / V < q := by
      apply Int.ediv_lt_of_lt_mul (by have := K.v0; omega)
      rw [split_v V q]
      omega
    omega
theorem kinv_next {V U u q r : Int} (K : KNum V U u) (h : KInv V U u q r) (c : 4294967296 ≤ q ∨ 4294967296 * r + u < q * (V % 4294967296)) (hr : r + V / 4294967296 < 4294967296) : KInv V U u (q - 1) (r + V / 4294967296) := by
  obtain ⟨o, o1⟩ := kinv_over K h c
  obtain ⟨q0, qB, r0, rB, eq, ge⟩ := h
  obtain ⟨a, b, c, d, e, f⟩ := K
  refine ⟨by omega, by omega, by omega, hr, ?_, o⟩
  rw [Int.sub_mul]
  omega
theorem kinv_last {V U u q r : Int} (K : KNum V U u) (h : KInv V U u q r) (c : 4294967296 ≤ q ∨ 4294967296 * r + u < q * (V % 4294967296)) (hr : 4294967296 ≤ r + V / 4294967296) : q - 1 = (U * 4294967296 + u) / V := by
  obtain ⟨o, o1⟩ := kinv_over K h c
  obtain ⟨q0, qB, r0, rB, eq, ge⟩ := h
  obtain ⟨a, b, c, d, e, f⟩ := K
  have : q - 1 ≤ (U * 4294967296 + u) / V := by
    apply (Int.le_ediv_iff_mul_le (by omega)).2
    rw [split_v, Int.sub_mul]
    have h1 : (q - 1) * (V % 4294967296) ≤ 4294967296 * 4294967296 := Int.mul_le_mul (by omega) (by omega) (by omega) (by omega)
    omega
  omega
theorem kinv_done {V U u q r : Int} (K : KNum V U u) (h : KInv V U u q r) (c : q * (V % 4294967296) ≤ 4294967296 * r + u) : q = (U * 4294967296 + u) / V := by
  obtain ⟨q0, qB, r0, rB, eq, ge⟩ := h
  obtain ⟨a, b, c, d, e, f⟩ := K
  have : q ≤ (U * 4294967296 + u) / V := by
    apply (Int.le_ediv_iff_mul_le (by omega)).2
    rw [split_v]
    omega
  omega
/-- Both digits together, and the scale taken away. -/
theorem two_digits (N y p V U u1 u0 : Int) (hp : 0 < p) (hy : 0 < y) (hV : V = y * p) (hN : N * p = (U * 4294967296 + u1) * 4294967296 + u0) :
    (U * 4294967296 + u1) / V * 4294967296 + (((U * 4294967296 + u1) % V) * 4294967296 + u0) / V = N / y ∧ ((((U * 4294967296 + u1) % V) * 4294967296 + u0) % V) / p = N % y := by
  have hV0 : 0 < V := by rw [hV]; exact Int.mul_pos hy hp
  have e1 := Int.mul_ediv_add_emod (U * 4294967296 + u1) V
  have e2 := Int.mul_ediv_add_emod (((U * 4294967296 + u1) % V) * 4294967296 + u0) V
  have b1 := Int.emod_nonneg (((U * 4294967296 + u1) % V) * 4294967296 + u0) (b := V) (by omega)
  have b2 := Int.emod_lt_of_pos (((U * 4294967296 + u1) % V) * 4294967296 + u0) hV0
  generalize (U * 4294967296 + u1) / V = Q1 at *
  generalize (U * 4294967296 + u1) % V = R1 at *
  generalize (R1 * 4294967296 + u0) / V = Q0 at *
  generalize (R1 * 4294967296 + u0) % V = R0 at *
  have hN2 : N * p = V * (Q1 * 4294967296 + Q0) + R0 := by
    rw [hN, ← e1, Int.mul_add, ← Int.mul_assoc]
    omega
  have f1 : N * p / V = Q1 * 4294967296 + Q0 := by
    rw [hN2, Int.add_comm, Int.add_mul_ediv_left _ _ (by omega), Int.ediv_eq_zero_of_lt b1 b2]; omega
  have f2 : N * p % V = R0 := by
    rw [hN2, Int.add_comm, Int.add_mul_emod_self_left, Int.emod_eq_of_lt b1 b2]
  rw [hV] at f1 f2
  rw [Int.mul_ediv_mul_of_pos_left _ _ hp] at f1
  rw [Int.mul_comm N p, Int.mul_comm y p, Int.mul_emod_mul_of_pos _ _ hp] at f2
  refine ⟨f1.symm, ?_⟩
  rw [← f2]
  exact Int.mul_ediv_cancel_left _ (by omega)
end Go.Proofs.YtlcbcanlehackaaDoor
