/- Packed: Lib64 Kn Kn2. -/
import Derived.Shelf.Bits.Mul64
import Derived.Shelf.Small.Bits
import Derived.Lib.ItoaNum
import Derived.Test.YtacpahebbnnckaaP5
set_option linter.unusedVariables false
set_option linter.unusedSimpArgs false
namespace Go.Proofs.Ytacpahebbnnckaa
section
open Go.RowKit
def ren64 : Go.Shelf.Ren where
 f := fun n => match n with
  | 264 => 138
  | 129 => 148
  | 134 => 147
  | n => n
 t := fun n => match n with
  | 3 => 3
  | 4 => 4
  | 5 => 5
  | 9 => 9
  | 46 => 144
  | 53 => 105
  | n => n
 g := fun n => n
theorem lays264 : Lays.n264 Try.prog ren64 where
 mixed := by kernel_rfl
 f264 := by kernel_rfl
 t46 := Try.underlying144
 a46 := Try.isAgg144
 z46 := Try.sizeOf144
 v46 := Try.zeroValue144
 t53 := Try.underlying105
 a53 := Try.isAgg105
 z53 := Try.sizeOf105
 v53 := Try.zeroValue105
theorem lays134 : Lays.n134 Try.prog ren64 where
 mixed := by kernel_rfl
 f129 := by kernel_rfl
 f134 := by kernel_rfl
 t3 := Try.underlying3
 a3 := Try.isAgg3
 z3 := Try.sizeOf3
 v3 := Try.zeroValue3
 t4 := Try.underlying4
 a4 := Try.isAgg4
 z4 := Try.sizeOf4
 v4 := Try.zeroValue4
 t5 := Try.underlying5
 a5 := Try.isAgg5
 z5 := Try.sizeOf5
 v5 := Try.zeroValue5
 t9 := Try.underlying9
 a9 := Try.isAgg9
 z9 := Try.sizeOf9
 v9 := Try.zeroValue9
 t46 := Try.underlying144
 a46 := Try.isAgg144
 z46 := Try.sizeOf144
 v46 := Try.zeroValue144
 t53 := Try.underlying105
 a53 := Try.isAgg105
 z53 := Try.sizeOf105
 v53 := Try.zeroValue105
theorem mul64 (x y : Int) (hx : 0 ≤ x ∧ x < 18446744073709551616) (hy : 0 ≤ y ∧ y < 18446744073709551616) (w : World) :
  Calls Try.prog 138 #[.int .u64 x, .int .u64 y] w fun e w' => e = .returned (.tuple #[.int .u64 (x * y / 18446744073709551616), .int .u64 (x * y % 18446744073709551616)]) ∧ w' = w := by
 obtain ⟨a, rfl⟩ : ∃ a : Nat, x = a := ⟨x.toNat, by omega⟩
 obtain ⟨b, rfl⟩ : ∃ b : Nat, y = b := ⟨y.toNat, by omega⟩
 have h := Any.bits_Mul64 lays264 a b (by omega) (by omega) w
 rw [Int.natCast_ediv, Int.natCast_emod, Int.natCast_mul] at h
 exact h
def lz (x : Int) : Nat := 64 - Go.Lib.bitLen x.toNat
theorem clz64 (x : Int) (hx : 0 ≤ x ∧ x < 18446744073709551616) (w : World) :
  Calls Try.prog 147 #[.int .u64 x] w fun e w' => e = .returned (.int .i64 (lz x)) ∧ w' = w := by
 have h := Any.bits_LeadingZeros64 lays134 x w hx.1 (by omega)
 have e : (64 - (Go.Lib.bitLen x.toNat : Int)) = (lz x : Int) := by have := Any.bitLen_le64 x hx.1 (by omega); unfold lz; omega
 rw [e] at h
 exact h
theorem lz_spec (x : Int) (h0 : 0 < x) (h1 : x < 18446744073709551616) : lz x < 64 ∧ 9223372036854775808 ≤ x * 2 ^ lz x ∧ x * 2 ^ lz x < 18446744073709551616 := by
 obtain ⟨a, rfl⟩ : ∃ a : Nat, x = a := ⟨x.toNat, by omega⟩
 have ha : a < 2 ^ 64 := by omega
 obtain ⟨b1, b2, b3⟩ := Go.Lib.bitLenAux_bounds 64 a ha (by omega)
 have le : Go.Lib.bitLen a ≤ 64 := Go.Lib.bitLen_le a 64 (by omega) ha
 have e : lz (a : Int) = 64 - Go.Lib.bitLen a := by unfold lz; rw [Int.toNat_natCast]
 rw [e]
 change 1 ≤ Go.Lib.bitLen a at b1
 change 2 ^ (Go.Lib.bitLen a - 1) ≤ a at b2
 change a < 2 ^ Go.Lib.bitLen a at b3
 generalize Go.Lib.bitLen a = k at *
 have p1 : 2 ^ (k - 1) * 2 ^ (64 - k) = 2 ^ 63 := by rw [← Nat.pow_add]; congr 1; omega
 have p2 : 2 ^ k * 2 ^ (64 - k) = 2 ^ 64 := by rw [← Nat.pow_add]; congr 1; omega
 have q1 := Nat.mul_le_mul_right (2 ^ (64 - k)) b2
 have q2 := Nat.mul_lt_mul_of_pos_right b3 (Nat.two_pow_pos (64 - k))
 rw [p1] at q1
 rw [p2] at q2
 refine ⟨by omega, ?_, ?_⟩
 ·have : ((2 ^ 63 : Nat) : Int) ≤ ((a * 2 ^ (64 - k) : Nat) : Int) := by exact_mod_cast q1
  rw [Int.natCast_mul, Int.natCast_pow] at this
  exact this
 ·have : ((a * 2 ^ (64 - k) : Nat) : Int) < ((2 ^ 64 : Nat) : Int) := by exact_mod_cast q2
  rw [Int.natCast_mul, Int.natCast_pow] at this
  exact this
end
section
open Go.RowKit
structure KInv (V U u q r : Int) : Prop where
 q0 : 0 ≤ q
 qB : q ≤ 4294967297
 r0 : 0 ≤ r
 rB : r < 4294967296
 eq : q * (V / 4294967296) + r = U
 ge : (U * 4294967296 + u) / V ≤ q
structure KNum (V U u : Int) : Prop where
 v0 : 9223372036854775808 ≤ V
 v1 : V < 18446744073709551616
 U0 : 0 ≤ U
 U1 : U < V
 u0 : 0 ≤ u
 u1 : u < 4294967296
theorem split_v (V q : Int) : q * V = q * (V / 4294967296) * 4294967296 + q * (V % 4294967296) := by
 have h : V = V / 4294967296 * 4294967296 + V % 4294967296 := by omega
 calc q * V = q * (V / 4294967296 * 4294967296 + V % 4294967296) := by rw [← h]
  _ = _ := by rw [Int.mul_add, Int.mul_assoc]
theorem digit_lt {V U u : Int} (K : KNum V U u) : (U * 4294967296 + u) / V < 4294967296 := by
 obtain ⟨a, b, c, d, e, f⟩ := K
 apply Int.ediv_lt_of_lt_mul (by omega)
 omega
theorem kinv_start {V U u : Int} (K : KNum V U u) : KInv V U u (U / (V / 4294967296)) (U % (V / 4294967296)) := by
 obtain ⟨a, b, c, d, e, f⟩ := K
 have p1 : 2147483648 ≤ V / 4294967296 := by omega
 have p2 : V / 4294967296 < 4294967296 := by omega
 have m0 := Int.emod_nonneg U (b := V / 4294967296) (by omega)
 have m1 := Int.emod_lt_of_pos U (b := V / 4294967296) (by omega)
 have m2 := Int.mul_ediv_add_emod U (V / 4294967296)
 have d0 : 0 ≤ U / (V / 4294967296) := Int.ediv_nonneg c (by omega)
 refine ⟨d0, ?_, m0, by omega, by rw [Int.mul_comm]; exact m2, ?_⟩
 ·have : U / (V / 4294967296) < 4294967298 := by
   apply Int.ediv_lt_of_lt_mul (by omega)
   omega
  omega
 ·apply (Int.le_ediv_iff_mul_le (by omega)).2
  have q0 : 0 ≤ (U * 4294967296 + u) / V := Int.ediv_nonneg (by omega) (by omega)
  have h1 : (U * 4294967296 + u) / V * V ≤ U * 4294967296 + u := Int.ediv_mul_le _ (by omega)
  rw [split_v] at h1
  have h2 : 0 ≤ (U * 4294967296 + u) / V * (V % 4294967296) := Int.mul_nonneg q0 (by omega)
  omega
theorem kinv_over {V U u q r : Int} (K : KNum V U u) (h : KInv V U u q r) (c : 4294967296 ≤ q ∨ 4294967296 * r + u < q * (V % 4294967296)) : (U * 4294967296 + u) / V ≤ q - 1 ∧ 1 ≤ q := by
 have lt := digit_lt K
 have q00 : 0 ≤ (U * 4294967296 + u) / V := Int.ediv_nonneg (by have := K.U0; have := K.u0; omega) (by have := K.v0; omega)
 obtain ⟨q0, qB, r0, rB, eq, ge⟩ := h
 rcases c with c | c
 ·omega
 ·have : (U * 4294967296 + u) / V < q := by
   apply Int.ediv_lt_of_lt_mul (by have := K.v0; omega)
   rw [split_v V q]
   omega
  omega
theorem kinv_next {V U u q r : Int} (K : KNum V U u) (h : KInv V U u q r) (c : 4294967296 ≤ q ∨ 4294967296 * r + u < q * (V % 4294967296)) (hr : r + V / 4294967296 < 4294967296) : KInv V U u (q - 1) (r + V / 4294967296) := by
 obtain ⟨o, o1⟩ := kinv_over K h c
 obtain ⟨q0, qB, r0, rB, eq, ge⟩ := h
 obtain ⟨a, b, c, d, e, f⟩ := K
 refine ⟨by omega, by omega, by omega, hr, ?_, o⟩
 rw [Int.sub_mul]
 omega
theorem kinv_last {V U u q r : Int} (K : KNum V U u) (h : KInv V U u q r) (c : 4294967296 ≤ q ∨ 4294967296 * r + u < q * (V % 4294967296)) (hr : 4294967296 ≤ r + V / 4294967296) : q - 1 = (U * 4294967296 + u) / V := by
 obtain ⟨o, o1⟩ := kinv_over K h c
 obtain ⟨q0, qB, r0, rB, eq, ge⟩ := h
 obtain ⟨a, b, c, d, e, f⟩ := K
 have : q - 1 ≤ (U * 4294967296 + u) / V := by
  apply (Int.le_ediv_iff_mul_le (by omega)).2
  rw [split_v, Int.sub_mul]
  have h1 : (q - 1) * (V % 4294967296) ≤ 4294967296 * 4294967296 := Int.mul_le_mul (by omega) (by omega) (by omega) (by omega)
  omega
 omega
theorem kinv_done {V U u q r : Int} (K : KNum V U u) (h : KInv V U u q r) (c : q * (V % 4294967296) ≤ 4294967296 * r + u) : q = (U * 4294967296 + u) / V := by
 obtain ⟨q0, qB, r0, rB, eq, ge⟩ := h
 obtain ⟨a, b, c, d, e, f⟩ := K
 have : q ≤ (U * 4294967296 + u) / V := by
  apply (Int.le_ediv_iff_mul_le (by omega)).2
  rw [split_v]
  omega
 omega
theorem two_digits (N y p V U u1 u0 : Int) (hp : 0 < p) (hy : 0 < y) (hV : V = y * p) (hN : N * p = (U * 4294967296 + u1) * 4294967296 + u0) :
  (U * 4294967296 + u1) / V * 4294967296 + (((U * 4294967296 + u1) % V) * 4294967296 + u0) / V = N / y ∧ ((((U * 4294967296 + u1) % V) * 4294967296 + u0) % V) / p = N % y := by
 have hV0 : 0 < V := by rw [hV]; exact Int.mul_pos hy hp
 have e1 := Int.mul_ediv_add_emod (U * 4294967296 + u1) V
 have e2 := Int.mul_ediv_add_emod (((U * 4294967296 + u1) % V) * 4294967296 + u0) V
 have b1 := Int.emod_nonneg (((U * 4294967296 + u1) % V) * 4294967296 + u0) (b := V) (by omega)
 have b2 := Int.emod_lt_of_pos (((U * 4294967296 + u1) % V) * 4294967296 + u0) hV0
 generalize (U * 4294967296 + u1) / V = Q1 at *
 generalize (U * 4294967296 + u1) % V = R1 at *
 generalize (R1 * 4294967296 + u0) / V = Q0 at *
 generalize (R1 * 4294967296 + u0) % V = R0 at *
 have hN2 : N * p = V * (Q1 * 4294967296 + Q0) + R0 := by
  rw [hN, ← e1, Int.mul_add, ← Int.mul_assoc]
  omega
 have f1 : N * p / V = Q1 * 4294967296 + Q0 := by
  rw [hN2, Int.add_comm, Int.add_mul_ediv_left _ _ (by omega), Int.ediv_eq_zero_of_lt b1 b2]; omega
 have f2 : N * p % V = R0 := by
  rw [hN2, Int.add_comm, Int.add_mul_emod_self_left, Int.emod_eq_of_lt b1 b2]
 rw [hV] at f1 f2
 rw [Int.mul_ediv_mul_of_pos_left _ _ hp] at f1
 rw [Int.mul_comm N p, Int.mul_comm y p, Int.mul_emod_mul_of_pos _ _ hp] at f2
 refine ⟨f1.symm, ?_⟩
 rw [← f2]
 exact Int.mul_ediv_cancel_left _ (by omega)
end
section
open Go.RowKit
theorem andB (a : Int) (h : 0 ≤ a ∧ a < 18446744073709551616) : bits .and .u64 a 4294967295 = a % 4294967296 := by
 obtain ⟨n, rfl⟩ : ∃ n : Nat, a = n := ⟨a.toNat, by omega⟩
 rw [Mul64.maskN n (by omega)]
 rfl
theorem orP (h l s : Nat) (hl : l < 2 ^ s) (hh : h * 2 ^ s + l < 18446744073709551616) : bits .or .u64 ((h * 2 ^ s : Nat) : Int) (l : Int) = ((h * 2 ^ s + l : Nat) : Int) := by
 rw [bits_or_u64_nat _ _ (by omega) (by omega)]
 congr 1
 rw [Nat.mul_comm h, Nat.two_pow_add_eq_or_of_lt hl]
theorem shifted (hi lo y : Int) (s : Nat) (hh : 0 ≤ hi ∧ hi < y) (hl : 0 ≤ lo ∧ lo < 18446744073709551616) (hs : s < 64) (hy0 : 9223372036854775808 ≤ y * 2 ^ s) (hy : y * 2 ^ s < 18446744073709551616) :
  ∃ V U L : Int, V = y * 2 ^ s ∧ IntKind.u64.wrap (y * 2 ^ s) = V ∧ IntKind.u64.wrap (lo * 2 ^ s) = L ∧ bits .or .u64 (IntKind.u64.wrap (hi * 2 ^ s)) (lo / 2 ^ (64 - s)) = U ∧
   0 ≤ L ∧ L < 18446744073709551616 ∧ 0 ≤ U ∧ U < V ∧ (hi * 18446744073709551616 + lo) * 2 ^ s = U * 18446744073709551616 + L := by
 obtain ⟨h, rfl⟩ : ∃ n : Nat, hi = n := ⟨hi.toNat, by omega⟩
 obtain ⟨l, rfl⟩ : ∃ n : Nat, lo = n := ⟨lo.toNat, by omega⟩
 obtain ⟨d, rfl⟩ : ∃ n : Nat, y = n := ⟨y.toNat, by omega⟩
 have pw : (2 : Nat) ^ (64 - s) * 2 ^ s = 18446744073709551616 := by rw [← Nat.pow_add, show 64 - s + s = 64 by omega]
 have hl2 : l < 18446744073709551616 := by omega
 have hq : l / 2 ^ (64 - s) < 2 ^ s := by
  apply Nat.div_lt_of_lt_mul
  rw [pw]; exact hl2
 have hy1 : d * 2 ^ s < 18446744073709551616 := by
  have : ((d * 2 ^ s : Nat) : Int) < 18446744073709551616 := by rw [Int.natCast_mul, Int.natCast_pow]; exact hy
  omega
 have hd : h + 1 ≤ d := by omega
 have hm : (h + 1) * 2 ^ s ≤ d * 2 ^ s := Nat.mul_le_mul_right _ hd
 rw [Nat.add_mul, Nat.one_mul] at hm
 have e1 : ((l : Int) * 2 ^ s) = ((l * 2 ^ s : Nat) : Int) := by rw [Int.natCast_mul, Int.natCast_pow]; rfl
 have e2 : ((h : Int) * 2 ^ s) = ((h * 2 ^ s : Nat) : Int) := by rw [Int.natCast_mul, Int.natCast_pow]; rfl
 have e3 : ((d : Int) * 2 ^ s) = ((d * 2 ^ s : Nat) : Int) := by rw [Int.natCast_mul, Int.natCast_pow]; rfl
 have e4 : ((l : Int) / 2 ^ (64 - s)) = ((l / 2 ^ (64 - s) : Nat) : Int) := by rw [Int.natCast_ediv, Int.natCast_pow]; rfl
 have dm : l / 2 ^ (64 - s) * 18446744073709551616 + l * 2 ^ s % 18446744073709551616 = l * 2 ^ s := by
  have a1 : l * 2 ^ s / 18446744073709551616 = l / 2 ^ (64 - s) := by rw [← pw, Nat.mul_div_mul_right _ _ (Nat.two_pow_pos s)]
  have := Nat.div_add_mod (l * 2 ^ s) 18446744073709551616
  rw [a1] at this
  omega
 have hU : h * 2 ^ s + l / 2 ^ (64 - s) < d * 2 ^ s := by omega
 refine ⟨_, _, _, rfl, ?_, rfl, rfl, ?_, ?_, ?_, ?_, ?_⟩
 ·rw [e3, IntKind.wrap_u64]; omega
 ·rw [IntKind.wrap_u64]; omega
 ·rw [IntKind.wrap_u64]; omega
 ·exact bits_lo_u64 _ _ _
 ·rw [e2, e4, Mul64.wrapN _ (by omega), orP _ _ _ hq (by omega), e3]; omega
 ·rw [e2, e4, Mul64.wrapN _ (by omega), orP _ _ _ hq (by omega), Int.add_mul, e1, IntKind.wrap_u64]
  have : (h : Int) * 18446744073709551616 * 2 ^ s = ((h * 2 ^ s : Nat) : Int) * 18446744073709551616 := by rw [← e2, Int.mul_right_comm]
  rw [this]
  omega
end
end Go.Proofs.Ytacpahebbnnckaa
