/- Packed: Quo Quo2 Mid Mid2. -/
import Derived.Deep.RegionHeld3
import Derived.Test.YtdoigcpcponnhaaP8
import Derived.Test.YtdoigcpcponnhaaP9
set_option linter.unusedVariables false
set_option linter.unusedSimpArgs false
section
namespace Go.Proofs.Ytdoigcpcponnhaa
open Go.RowKit
def cdiv (a b : Int) : Int := -((-a) / b)
theorem cdiv_pos {a b : Int} (hb : 0 < b) (h : ¬ a % b = 0) : cdiv a b = a / b + 1 := by
 unfold cdiv
 rw [Int.neg_ediv, if_neg (by rw [Int.dvd_iff_emod_eq_zero]; exact h), Int.sign_eq_one_of_pos hb]
 omega
theorem cdiv_zero {a b : Int} (h : a % b = 0) : cdiv a b = a / b := by
 unfold cdiv
 rw [Int.neg_ediv, if_pos (by rw [Int.dvd_iff_emod_eq_zero]; exact h)]
 omega
theorem below_of_drew {W w1 : World} (h : Below W.drew.heap.size W.drew w1) : Below W.heap.size W w1 := (Below.drew (Below.refl _ _)).trans h
theorem wH_neg {a : Int} (h : a < 0) : wH a < 0 := by unfold wH; omega
theorem wH_pos {a : Int} (h : 0 ≤ a) : ¬ wH a < 0 := by unfold wH; omega
theorem quo_bd {a b : Int} (ha : 0 ≤ a) (hb : 0 < b) : 0 ≤ a / b ∧ a / b ≤ a := ⟨Int.ediv_nonneg ha (Int.le_of_lt hb), Int.ediv_le_self b ha⟩
theorem neg_div_z {a b : Int} (h : (-a) % b = 0) : a / b = -((-a) / b) ∧ cdiv a b = -((-a) / b) := by
 have h2 := cdiv_zero h
 unfold cdiv at *
 rw [Int.neg_neg] at h2
 exact ⟨by omega, by omega⟩
theorem neg_div_n {a b : Int} (hb : 0 < b) (h : ¬ (-a) % b = 0) : a / b = -((-a) / b + 1) ∧ cdiv a b = -((-a) / b) := by
 have h2 := cdiv_pos hb h
 unfold cdiv at *
 rw [Int.neg_neg] at h2
 exact ⟨by omega, by omega⟩
end Go.Proofs.Ytdoigcpcponnhaa
end
section
namespace Go.Proofs.Ytdoigcpcponnhaa
open Go.RowKit
end Go.Proofs.Ytdoigcpcponnhaa
end
section
namespace Go.Proofs.Ytdoigcpcponnhaa
open Go.RowKit
theorem and_xor_half (k : Nat) : ∀ a b : Nat, a < 2 ^ k → b < 2 ^ k → a + b = 2 * (a &&& b) + (a ^^^ b) := by
 induction k with
 | zero => intro a b ha hb; have : a = 0 := by omega
           have : b = 0 := by omega
           subst_vars; rfl
 | succ k ih =>
  intro a b ha hb
  have h := ih (a / 2) (b / 2) (by rw [Nat.pow_succ] at ha; omega) (by rw [Nat.pow_succ] at hb; omega)
  have e1 : (a &&& b) / 2 = a / 2 &&& b / 2 := Nat.and_div_two
  have e2 : (a ^^^ b) / 2 = a / 2 ^^^ b / 2 := Nat.xor_div_two
  have e3 : (a &&& b) % 2 = (a % 2) &&& (b % 2) := by
   have := @Nat.and_mod_two_pow a b 1
   simpa using this
  have e4 : (a ^^^ b) % 2 = (a % 2) ^^^ (b % 2) := by
   have := @Nat.xor_mod_two_pow a b 1
   simpa using this
  rw [← e1, ← e2] at h
  have ha2 : a % 2 = 0 ∨ a % 2 = 1 := by omega
  have hb2 : b % 2 = 0 ∨ b % 2 = 1 := by omega
  rcases ha2 with p | p <;> rcases hb2 with q | q <;> rw [p, q] at e3 e4 <;> (try simp only [Nat.and_self, Nat.zero_and, Nat.and_zero, Nat.xor_self, Nat.xor_zero, Nat.zero_xor] at e3 e4) <;> omega
theorem top_and (a b : Nat) : (a &&& b) / 2 ^ 63 = a / 2 ^ 63 &&& b / 2 ^ 63 := by
 have h := @Nat.shiftRight_and_distrib 63 a b
 simpa [Nat.shiftRight_eq_div_pow] using h
theorem top_xor (a b : Nat) : (a ^^^ b) / 2 ^ 63 = a / 2 ^ 63 ^^^ b / 2 ^ 63 := by
 have h := @Nat.shiftRight_xor_distrib 63 a b
 simpa [Nat.shiftRight_eq_div_pow] using h
theorem wrapS (n : Nat) (h : n < 18446744073709551616) : IntKind.i64.wrap (n : Int) = (n : Int) - 18446744073709551616 * ((n / 2 ^ 63 : Nat) : Int) := by
 rw [IntKind.wrap_i64]; omega
theorem ofI (x : Int) (hx : I64 x) : ((BitVec.ofInt 64 x).toNat : Int) = x + 18446744073709551616 * (((BitVec.ofInt 64 x).toNat / 2 ^ 63 : Nat) : Int) ∧ (BitVec.ofInt 64 x).toNat < 18446744073709551616 := by
 obtain ⟨_, _⟩ := hx
 have e : ((BitVec.ofInt 64 x).toNat : Int) = x % 18446744073709551616 := by rw [BitVec.toNat_ofInt]; omega
 generalize (BitVec.ofInt 64 x).toNat = a at *
 constructor <;> omega
theorem sum_bits (a b c d : Nat) (h2 : c / 2 ^ 63 = a / 2 ^ 63 &&& b / 2 ^ 63) (h3 : d / 2 ^ 63 = a / 2 ^ 63 ^^^ b / 2 ^ 63) (ha : a / 2 ^ 63 ≤ 1) (hb : b / 2 ^ 63 ≤ 1) : 2 * (c / 2 ^ 63) + d / 2 ^ 63 = a / 2 ^ 63 + b / 2 ^ 63 := by
 rw [h2, h3]
 generalize a / 2 ^ 63 = p at *
 generalize b / 2 ^ 63 = q at *
 have hp : p = 0 ∨ p = 1 := by omega
 have hq : q = 0 ∨ q = 1 := by omega
 rcases hp with rfl | rfl <;> rcases hq with rfl | rfl <;> rfl
theorem mid_bits (x y : Int) (hx : I64 x) (hy : I64 y) : wrap64 (bits .and .i64 x y + bits .xor .i64 x y / 2) = (x + y) / 2 ∧ I64 ((x + y) / 2) := by
 obtain ⟨a1, a2⟩ := ofI x hx
 obtain ⟨b1, b2⟩ := ofI y hy
 have ea : bits .and .i64 x y = IntKind.i64.wrap (((BitVec.ofInt 64 x).toNat &&& (BitVec.ofInt 64 y).toNat : Nat) : Int) := by
  show IntKind.i64.wrap ((BitVec.ofInt 64 x &&& BitVec.ofInt 64 y).toNat : Int) = _
  rw [BitVec.toNat_and]
 have eo : bits .xor .i64 x y = IntKind.i64.wrap (((BitVec.ofInt 64 x).toNat ^^^ (BitVec.ofInt 64 y).toNat : Nat) : Int) := by
  show IntKind.i64.wrap ((BitVec.ofInt 64 x ^^^ BitVec.ofInt 64 y).toNat : Int) = _
  rw [BitVec.toNat_xor]
 rw [ea, eo]
 generalize (BitVec.ofInt 64 x).toNat = a at *
 generalize (BitVec.ofInt 64 y).toNat = b at *
 have h1 := and_xor_half 64 a b (by omega) (by omega)
 have h4 := sum_bits a b _ _ (top_and a b) (top_xor a b) (by omega) (by omega)
 have hc : a &&& b < 2 ^ 64 := Nat.and_lt_two_pow a (by omega)
 have hd : a ^^^ b < 2 ^ 64 := Nat.xor_lt_two_pow (by omega) (by omega)
 generalize a &&& b = c at *
 generalize a ^^^ b = d at *
 rw [wrapS c (by omega), wrapS d (by omega)]
 obtain ⟨x0, x1⟩ := hx
 obtain ⟨y0, y1⟩ := hy
 generalize a / 2 ^ 63 = pa at *
 generalize b / 2 ^ 63 = pb at *
 generalize c / 2 ^ 63 = pc at *
 generalize d / 2 ^ 63 = pd at *
 have e : x + y = 2 * ((c : Int) - 18446744073709551616 * (pc : Int)) + ((d : Int) - 18446744073709551616 * (pd : Int)) := by omega
 generalize (c : Int) - 18446744073709551616 * (pc : Int) = u at *
 generalize (d : Int) - 18446744073709551616 * (pd : Int) = v at *
 clear h1 h4 hc hd a1 a2 b1 b2 ea eo
 unfold wrap64 I64
 constructor
 ·omega
 ·constructor <;> omega
theorem i64_2 : I64 2 := by constructor <;> omega
theorem two_pos : (0 : Int) < 2 := by omega
theorem two_lt : (2 : Int) < 85070591730234615865843651857942052864 := by omega
theorem add_bd {x y : Int} (h : I64 x) (k : I64 y) : -85070591730234615865843651857942052864 < x + y ∧ x + y < 85070591730234615865843651857942052864 := by
 obtain ⟨_, _⟩ := h; obtain ⟨_, _⟩ := k; constructor <;> omega
def midI (lo hi : Int) : Int := (lo + hi) / 2
end Go.Proofs.Ytdoigcpcponnhaa
end
section
namespace Go.Proofs.Ytdoigcpcponnhaa
open Go.RowKit
def wdB (lo hi : Int) : Bool := decide (hi - lo ≤ 9223372036854775807)
def wdI (lo hi : Int) : Int := if wdB lo hi then hi - lo else 0
def wdE (lo hi : Int) : Int := if wdB lo hi then 0 else 4
end Go.Proofs.Ytdoigcpcponnhaa
end
