/- math/bits' products and leading zeros at this program's numbers. -/
import Derived.Test.YtlcbcanlehackaaDoorBits
import Derived.Shelf.Bits.Mul64
import Derived.Shelf.Small.Bits
import Derived.Lib.ItoaNum
set_option linter.unusedVariables false
set_option linter.unusedSimpArgs false
namespace Go.Proofs.YtlcbcanlehackaaDoor
open Go.RowKit
def ren64 : Go.Shelf.Ren where
  f := fun n => match n with
    | 264 => 76
    | 129 => 102
    | 134 => 89
    | n => n
  t := fun n => match n with
    | 3 => 3
    | 4 => 4
    | 5 => 5
    | 9 => 9
    | 46 => 72
    | 53 => 33
    | n => n
  g := fun n => n
theorem lays264 : Lays.n264 Tryd.prog ren64 where
  mixed := by kernel_rfl
  f264 := by kernel_rfl
  t46 := Tryd.underlying72
  a46 := Tryd.isAgg72
  z46 := Tryd.sizeOf72
  v46 := Tryd.zeroValue72
  t53 := Tryd.underlying33
  a53 := Tryd.isAgg33
  z53 := Tryd.sizeOf33
  v53 := Tryd.zeroValue33
theorem lays134 : Lays.n134 Tryd.prog ren64 where
  mixed := by kernel_rfl
  f129 := by kernel_rfl
  f134 := by kernel_rfl
  t3 := Tryd.underlying3
  a3 := Tryd.isAgg3
  z3 := Tryd.sizeOf3
  v3 := Tryd.zeroValue3
  t4 := Tryd.underlying4
  a4 := Tryd.isAgg4
  z4 := Tryd.sizeOf4
  v4 := Tryd.zeroValue4
  t5 := Tryd.underlying5
  a5 := Tryd.isAgg5
  z5 := Tryd.sizeOf5
  v5 := Tryd.zeroValue5
  t9 := Tryd.underlying9
  a9 := Tryd.isAgg9
  z9 := Tryd.sizeOf9
  v9 := Tryd.zeroValue9
  t46 := Tryd.underlying72
  a46 := Tryd.isAgg72
  z46 := Tryd.sizeOf72
  v46 := Tryd.zeroValue72
  t53 := Tryd.underlying33
  a53 := Tryd.isAgg33
  z53 := Tryd.sizeOf33
  v53 := Tryd.zeroValue33
/-- The product of two numbers of 64 bits. -/
theorem mul64 (x y : Int) (hx : 0 ≤ x ∧ x < 18446744073709551616) (hy : 0 ≤ y ∧ y < 18446744073709551616) (w : World) :
    Calls Tryd.prog 76 #[.int .u64 x, .int .u64 y] w fun e w' => e = .returned (.tuple #[.int .u64 (x * y / 18446744073709551616), .int .u64 (x * y % 18446744073709551616)]) ∧ w' = w := by
  obtain ⟨a, rfl⟩ : ∃ a : Nat, x = a := ⟨x.toNat, by omega⟩
  obtain ⟨b, rfl⟩ : ∃ b : Nat, y = b := ⟨y.toNat, by omega⟩
  have h := Any.bits_Mul64 lays264 a b (by omega) (by omega) w
  rw [Int.natCast_ediv, Int.natCast_emod, Int.natCast_mul] at h
  exact h
/-- How far a number is below the highest bit. -/
def lz (x : Int) : Nat := 64 - Go.Lib.bitLen x.toNat
theorem clz64 (x : Int) (hx : 0 ≤ x ∧ x < 18446744073709551616) (w : World) :
    Calls Tryd.prog 89 #[.int .u64 x] w fun e w' => e = .returned (.int .i64 (lz x)) ∧ w' = w := by
  have h := Any.bits_LeadingZeros64 lays134 x w hx.1 (by omega)
  have e : (64 - (Go.Lib.bitLen x.toNat : Int)) = (lz x : Int) := by have := Any.bitLen_le64 x hx.1 (by omega); unfold lz; omega
  rw [e] at h
  exact h
theorem lz_spec (x : Int) (h0 : 0 < x) (h1 : x < 18446744073709551616) : lz x < 64 ∧ 9223372036854775808 ≤ x * 2 ^ lz x ∧ x * 2 ^ lz x < 18446744073709551616 := by
  obtain ⟨a, rfl⟩ : ∃ a : Nat, x = a := ⟨x.toNat, by omega⟩
  have ha : a < 2 ^ 64 := by omega
  obtain ⟨b1, b2, b3⟩ := Go.Lib.bitLenAux_bounds 64 a ha (by omega)
  have le : Go.Lib.bitLen a ≤ 64 := Go.Lib.bitLen_le a 64 (by omega) ha
  have e : lz (a : Int) = 64 - Go.Lib.bitLen a := by unfold lz; rw [Int.toNat_natCast]
  rw [e]
  change 1 ≤ Go.Lib.bitLen a at b1
  change 2 ^ (Go.Lib.bitLen a - 1) ≤ a at b2
  change a < 2 ^ Go.Lib.bitLen a at b3
  generalize Go.Lib.bitLen a = k at *
  have p1 : 2 ^ (k - 1) * 2 ^ (64 - k) = 2 ^ 63 := by rw [← Nat.pow_add]; congr 1; omega
  have p2 : 2 ^ k * 2 ^ (64 - k) = 2 ^ 64 := by rw [← Nat.pow_add]; congr 1; omega
  have q1 := Nat.mul_le_mul_right (2 ^ (64 - k)) b2
  have q2 := Nat.mul_lt_mul_of_pos_right b3 (Nat.two_pow_pos (64 - k))
  rw [p1] at q1
  rw [p2] at q2
  refine ⟨by omega, ?_, ?_⟩
  · have : ((2 ^ 63 : Nat) : Int) ≤ ((a * 2 ^ (64 - k) : Nat) : Int) := by exact_mod_cast q1
    rw [Int.natCast_mul, Int.natCast_pow] at this
    exact this
  · have : ((a * 2 ^ (64 - k) : Nat) : Int) < ((2 ^ 64 : Nat) : Int) := by exact_mod_cast q2
    rw [Int.natCast_mul, Int.natCast_pow] at this
    exact this
end Go.Proofs.YtlcbcanlehackaaDoor
