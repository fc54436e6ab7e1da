/- The numbers of the long division, as the code makes them. -/
import Derived.Test.YtlcbcanlehackaaDoorKn
import Derived.Test.YtlcbcanlehackaaDoorDiv
set_option linter.unusedVariables false
set_option linter.unusedSimpArgs false
namespace Go.Proofs.YtlcbcanlehackaaDoor
open Go.RowKit
theorem andB (a : Int) (h : 0 ≤ a ∧ a < 18446744073709551616) : bits .and .u64 a 4294967295 = a % 4294967296 := by
  obtain ⟨n, rfl⟩ : ∃ n : Nat, a = n := ⟨a.toNat, by omega⟩
  rw [Mul64.maskN n (by omega)]
  rfl
theorem orP (h l s : Nat) (hl : l < 2 ^ s) (hh : h * 2 ^ s + l < 18446744073709551616) : bits .or .u64 ((h * 2 ^ s : Nat) : Int) (l : Int) = ((h * 2 ^ s + l : Nat) : Int) := by
  rw [bits_or_u64_nat _ _ (by omega) (by omega)]
  congr 1
  rw [Nat.mul_comm h, Nat.two_pow_add_eq_or_of_lt hl]
/-- What the shifts make: the divisor with its highest bit set, and the dividend by the same power. -/
theorem shifted (hi lo y : Int) (s : Nat) (hh : 0 ≤ hi ∧ hi < y) (hl : 0 ≤ lo ∧ lo < 18446744073709551616) (hs : s < 64) (hy0 : 9223372036854775808 ≤ y * 2 ^ s) (hy : y * 2 ^ s < 18446744073709551616) :
    ∃ V U L : Int, V = y * 2 ^ s ∧ IntKind.u64.wrap (y * 2 ^ s) = V ∧ IntKind.u64.wrap (lo * 2 ^ s) = L ∧ bits .or .u64 (IntKind.u64.wrap (hi * 2 ^ s)) (lo / 2 ^ (64 - s)) = U ∧
      0 ≤ L ∧ L < 18446744073709551616 ∧ 0 ≤ U ∧ U < V ∧ (hi * 18446744073709551616 + lo) * 2 ^ s = U * 18446744073709551616 + L := by
  obtain ⟨h, rfl⟩ : ∃ n : Nat, hi = n := ⟨hi.toNat, by omega⟩
  obtain ⟨l, rfl⟩ : ∃ n : Nat, lo = n := ⟨lo.toNat, by omega⟩
  obtain ⟨d, rfl⟩ : ∃ n : Nat, y = n := ⟨y.toNat, by omega⟩
  have pw : (2 : Nat) ^ (64 - s) * 2 ^ s = 18446744073709551616 := by rw [← Nat.pow_add, show 64 - s + s = 64 by omega]
  have hl2 : l < 18446744073709551616 := by omega
  have hq : l / 2 ^ (64 - s) < 2 ^ s := by
    apply Nat.div_lt_of_lt_mul
    rw [pw]; exact hl2
  have hy1 : d * 2 ^ s < 18446744073709551616 := by
    have : ((d * 2 ^ s : Nat) : Int) < 18446744073709551616 := by rw [Int.natCast_mul, Int.natCast_pow]; exact hy
    omega
  have hd : h + 1 ≤ d := by omega
  have hm : (h + 1) * 2 ^ s ≤ d * 2 ^ s := Nat.mul_le_mul_right _ hd
  rw [Nat.add_mul, Nat.one_mul] at hm
  have e1 : ((l : Int) * 2 ^ s) = ((l * 2 ^ s : Nat) : Int) := by rw [Int.natCast_mul, Int.natCast_pow]; rfl
  have e2 : ((h : Int) * 2 ^ s) = ((h * 2 ^ s : Nat) : Int) := by rw [Int.natCast_mul, Int.natCast_pow]; rfl
  have e3 : ((d : Int) * 2 ^ s) = ((d * 2 ^ s : Nat) : Int) := by rw [Int.natCast_mul, Int.natCast_pow]; rfl
  have e4 : ((l : Int) / 2 ^ (64 - s)) = ((l / 2 ^ (64 - s) : Nat) : Int) := by rw [Int.natCast_ediv, Int.natCast_pow]; rfl
  have dm : l / 2 ^ (64 - s) * 18446744073709551616 + l * 2 ^ s % 18446744073709551616 = l * 2 ^ s := by
    have a1 : l * 2 ^ s / 18446744073709551616 = l / 2 ^ (64 - s) := by rw [← pw, Nat.mul_div_mul_right _ _ (Nat.two_pow_pos s)]
    have := Nat.div_add_mod (l * 2 ^ s) 18446744073709551616
    rw [a1] at this
    omega
  have hU : h * 2 ^ s + l / 2 ^ (64 - s) < d * 2 ^ s := by omega
  refine ⟨_, _, _, rfl, ?_, rfl, rfl, ?_, ?_, ?_, ?_, ?_⟩
  · rw [e3, IntKind.wrap_u64]; omega
  · rw [IntKind.wrap_u64]; omega
  · rw [IntKind.wrap_u64]; omega
  · exact bits_lo_u64 _ _ _
  · rw [e2, e4, Mul64.wrapN _ (by omega), orP _ _ _ hq (by omega), e3]; omega
  · rw [e2, e4, Mul64.wrapN _ (by omega), orP _ _ _ hq (by omega), Int.add_mul, e1, IntKind.wrap_u64]
    have : (h : Int) * 18446744073709551616 * 2 ^ s = ((h * 2 ^ s : Nat) : Int) * 18446744073709551616 := by rw [← e2, Int.mul_right_comm]
    rw [this]
    omega
end Go.Proofs.YtlcbcanlehackaaDoor
