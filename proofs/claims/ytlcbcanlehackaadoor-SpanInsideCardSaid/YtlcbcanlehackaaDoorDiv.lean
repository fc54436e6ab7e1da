/- The document's division of integers of 128 bits, bit by bit: divide. -/
import Derived.Test.YtlcbcanlehackaaDoorBits
set_option linter.unusedVariables false
set_option linter.unusedSimpArgs false
namespace Go.Proofs.YtlcbcanlehackaaDoor
open Go.RowKit
theorem quo_u64 {a b : Int} (ha : 0 ≤ a ∧ a < 18446744073709551616) (hb : 0 < b) : IntKind.u64.wrap (a.tdiv b) = a / b ∧ a.tmod b = a % b := by
  have h1 := Int.ediv_nonneg ha.1 (Int.le_of_lt hb)
  have h2 := Int.ediv_le_self b ha.1
  have h3 := Int.emod_nonneg a (show b ≠ 0 by omega)
  have h4 : a % b ≤ a := by
    have := Int.emod_add_mul_ediv a b
    have := Int.mul_nonneg (Int.le_of_lt hb) h1
    omega
  rw [Int.tdiv_eq_ediv_of_nonneg ha.1, Int.tmod_eq_emod_of_nonneg ha.1, u64w]
  generalize a / b = x at *
  exact ⟨by omega, rfl⟩
theorem wsmall {n : Int} (h : 0 ≤ n) (h2 : n < 18446744073709551616) : wH n = 0 ∧ wL n = n := by unfold wH wL; omega
/-- What stays while the division runs: both numbers, and the room for the results. -/
structure DivInv (w wr : World) (n d : Int) : Prop where
  below : Below w.heap.size w wr
  size : w.heap.size + 1 + 1 + 1 < wr.heap.size
  n0 : wr.cell? ⟨w.heap.size, 0, none⟩ = some (.int .i64 (wH n))
  n1 : wr.cell? ⟨w.heap.size, 1, none⟩ = some (.int .u64 (wL n))
  d0 : wr.cell? ⟨w.heap.size + 1, 0, none⟩ = some (.int .i64 (wH d))
  d1 : wr.cell? ⟨w.heap.size + 1, 1, none⟩ = some (.int .u64 (wL d))
  q0 : wr.cell? ⟨w.heap.size + 1 + 1, 0, none⟩ = some (.int .i64 0)
  q1 : wr.cell? ⟨w.heap.size + 1 + 1, 1, none⟩ = some (.int .u64 0)
  r0 : wr.cell? ⟨w.heap.size + 1 + 1 + 1, 0, none⟩ = some (.int .i64 0)
  r1 : wr.cell? ⟨w.heap.size + 1 + 1 + 1, 1, none⟩ = some (.int .u64 0)
  qf0 : wr.frozen? ⟨w.heap.size + 1 + 1, 0, none⟩ = false
  qf1 : wr.frozen? ⟨w.heap.size + 1 + 1, 1, none⟩ = false
  rf0 : wr.frozen? ⟨w.heap.size + 1 + 1 + 1, 0, none⟩ = false
  rf1 : wr.frozen? ⟨w.heap.size + 1 + 1 + 1, 1, none⟩ = false
theorem DivInv.next {w wr w' : World} {n d : Int} (h : DivInv w wr n d) (hb : Below (w.heap.size + 1 + 1 + 1 + 1) wr w') : DivInv w w' n d := by
  have hs := hb.size
  have c : ∀ b o, b < w.heap.size + 1 + 1 + 1 + 1 → w'.cell? ⟨b, o, none⟩ = wr.cell? ⟨b, o, none⟩ := fun b o hlt => hb.cell (p := ⟨b, o, none⟩) hlt
  have f : ∀ b o, b < w.heap.size + 1 + 1 + 1 + 1 → w'.frozen? ⟨b, o, none⟩ = wr.frozen? ⟨b, o, none⟩ := fun b o hlt => hb.frozen (p := ⟨b, o, none⟩) hlt
  exact ⟨h.below.trans (hb.mono (by omega)), by have := h.size; omega, (c _ _ (by omega)).trans h.n0, (c _ _ (by omega)).trans h.n1, (c _ _ (by omega)).trans h.d0, (c _ _ (by omega)).trans h.d1,
    (c _ _ (by omega)).trans h.q0, (c _ _ (by omega)).trans h.q1, (c _ _ (by omega)).trans h.r0, (c _ _ (by omega)).trans h.r1,
    (f _ _ (by omega)).trans h.qf0, (f _ _ (by omega)).trans h.qf1, (f _ _ (by omega)).trans h.rf0, (f _ _ (by omega)).trans h.rf1⟩
theorem tb_step (n t : Nat) (h : n < 2 ^ (t + 1)) (hb : bitB n t = false) : n < 2 ^ t := by
  unfold bitB at hb
  rw [Nat.testBit_eq_decide_div_mod_eq, decide_eq_false_iff_not] at hb
  have h1 : n / 2 ^ t < 2 := by rw [Nat.div_lt_iff_lt_mul (Nat.two_pow_pos t)]; rw [Nat.pow_succ] at h; omega
  have h2 : n / 2 ^ t = 0 := by generalize n / 2 ^ t = m at *; omega
  exact (Nat.div_eq_zero_iff_lt (Nat.two_pow_pos t)).1 h2
/-- The second half: the quotient and the rest, bit by bit. -/
structure Div2 (w wr : World) (n d : Int) (bq br : Nat) (q r : Int) : Prop where
  inv : DivInv w wr n d
  lo : w.heap.size + 1 + 1 + 1 < bq
  lt : bq < br
  sz : br < wr.heap.size
  q0 : wr.cell? ⟨bq, 0, none⟩ = some (.int .i64 (wH q))
  q1 : wr.cell? ⟨bq, 1, none⟩ = some (.int .u64 (wL q))
  r0 : wr.cell? ⟨br, 0, none⟩ = some (.int .i64 (wH r))
  r1 : wr.cell? ⟨br, 1, none⟩ = some (.int .u64 (wL r))
  qf0 : wr.frozen? ⟨bq, 0, none⟩ = false
  qf1 : wr.frozen? ⟨bq, 1, none⟩ = false
  rf0 : wr.frozen? ⟨br, 0, none⟩ = false
  rf1 : wr.frozen? ⟨br, 1, none⟩ = false
theorem rplus1 (x : Int) (h : R127 x) (h2 : R127 (x + 1)) (w : World) :
    Calls Tryd.prog 23 #[.agg #[.int .i64 (wH (x)), .int .u64 (wL (x))], .agg #[.int .i64 0, .int .u64 1]] w fun e w' => e = .returned (.agg #[.int .i64 (wH (x + 1)), .int .u64 (wL (x + 1))]) ∧ Below w.heap.size w w' :=
  rplus x 1 h (by constructor <;> omega) h2 w
theorem bit_split (n k : Nat) : n / 2 ^ k = 2 * (n / 2 ^ (k + 1)) + (if bitB n k then 1 else 0) := by
  have h1 : n / 2 ^ (k + 1) = n / 2 ^ k / 2 := by rw [Nat.pow_succ, Nat.div_div_eq_div_mul]
  unfold bitB
  rw [h1, Nat.testBit_eq_decide_div_mod_eq]
  generalize n / 2 ^ k = m
  by_cases h : m % 2 = 1
  · simp [h]; omega
  · simp [h]; omega
/-- What stands behind the bits from number m + 1 on. -/
def DivEq (n : Nat) (d : Int) (m q r : Int) : Prop := ((n / 2 ^ (m + 1).toNat : Nat) : Int) = q * d + r
theorem div_top {n : Nat} {d : Int} {t : Nat} (h : n < 2 ^ (t + 1)) : DivEq n d t 0 0 := by
  unfold DivEq
  rw [show ((t : Int) + 1).toNat = t + 1 by omega, Nat.div_eq_of_lt h]
  simp
theorem div_low {n : Nat} {d m q r : Int} (hm : 0 ≤ m) (h : DivEq n d m q r) : ((n / 2 ^ (m - 1 + 1).toNat : Nat) : Int) = 2 * (q * d + r) + (if bitB n m.toNat then 1 else 0) := by
  unfold DivEq at h
  rw [show (m - 1 + 1).toNat = m.toNat by omega, bit_split, ← h, show (m + 1).toNat = m.toNat + 1 by omega]
  split <;> simp
theorem div_same {n : Nat} {d m q r : Int} (b : Int) (hm : 0 ≤ m) (h : DivEq n d m q r) (hb : (if bitB n m.toNat then (1 : Int) else 0) = b) : DivEq n d (m - 1) (q + q) (r + r + b) := by
  unfold DivEq
  have := div_low hm h
  rw [hb] at this
  rw [this, Int.add_mul]
  generalize q * d = x
  omega
theorem div_sub {n : Nat} {d m q r : Int} (b : Int) (hm : 0 ≤ m) (h : DivEq n d m q r) (hb : (if bitB n m.toNat then (1 : Int) else 0) = b) : DivEq n d (m - 1) (q + q + 1) (r + r + b + -d) := by
  unfold DivEq
  have := div_low hm h
  rw [hb] at this
  rw [this, Int.add_mul, Int.add_mul, Int.one_mul]
  generalize q * d = x
  omega
/-- No quotient is greater than the number. -/
theorem div_bd {n : Nat} {d m q r : Int} (h : DivEq n d m q r) (hn : n < 2 ^ 127) (hd : 0 < d) (hq : 0 ≤ q) (hr : 0 ≤ r) : q < 170141183460469231731687303715884105728 := by
  unfold DivEq at h
  have h1 : n / 2 ^ (m + 1).toNat ≤ n := Nat.div_le_self _ _
  generalize n / 2 ^ (m + 1).toNat = A at *
  have h2 : q ≤ q * d := by
    have := Int.mul_le_mul_of_nonneg_left (show (1 : Int) ≤ d by omega) hq
    rw [Int.mul_one] at this
    exact this
  generalize q * d = x at *
  omega
theorem div_end {n : Nat} {d q r : Int} (h : DivEq n d (-1) q r) (h0 : 0 ≤ r) (h1 : r < d) : (n : Int) / d = q ∧ (n : Int) % d = r := by
  have h : (n : Int) = q * d + r := by unfold DivEq at h; simpa using h
  have hd : 0 < d := by omega
  rw [Int.ediv_emod_unique hd]
  refine ⟨?_, h0, h1⟩
  rw [h, Int.mul_comm]; omega
theorem ite_t {b : Bool} (h : b = true) : (if b then (1 : Int) else 0) = 1 := by simp [h]
theorem ite_f {b : Bool} (h : b = false) : (if b then (1 : Int) else 0) = 0 := by simp [h]
end Go.Proofs.YtlcbcanlehackaaDoor
