/- Packed: Meet WnA. -/
set_option linter.unusedVariables false
set_option linter.unusedSimpArgs false
namespace Go.Proofs.Ytfgfnjckklldbaa
section
namespace Meet
theorem mod_eq_iff {m x y : Int} : x % m = y % m ↔ m ∣ x - y := by
 rw [Int.emod_eq_emod_iff_emod_sub_eq_zero]; exact ⟨Int.dvd_of_emod_eq_zero, Int.emod_eq_zero_of_dvd⟩
def hs (p : Int) (l : Nat) (f t : Int) : Bool := decide ((t - f) % p < l)
end Meet
end
section
namespace Wn
def sl (p l : Nat) (a b : Int) : Nat → Int → List (Int × Int)
 | 0, _ => []
 | k + 1, s => if s < b then (if max s a < min (s + l) b then [(max s a, min (s + l) b)] else []) ++ sl p l a b k (s + p) else []
theorem sl_fuel {p l : Nat} {a b : Int} (hp : 0 < p) : ∀ (k k' : Nat) (s : Int), (b - s).toNat < k → (b - s).toNat < k' → sl p l a b k s = sl p l a b k' s := by
 intro k
 induction k with
 | zero => intro k' s h; omega
 | succ k ih =>
  intro k' s h1 h2
  match k', h2 with
  | k' + 1, h2 =>
   unfold sl
   by_cases h : s < b
   ·rw [if_pos h, if_pos h, ih k' (s + p) (by omega) (by omega)]
   ·rw [if_neg h, if_neg h]
def rem (p l : Nat) (a b s : Int) : List (Int × Int) := sl p l a b ((b - s).toNat + 1) s
theorem rem_step {p l : Nat} {a b s : Int} (hp : 0 < p) (h : s < b) : rem p l a b s = (if max s a < min (s + l) b then [(max s a, min (s + l) b)] else []) ++ rem p l a b (s + p) := by
 unfold rem
 rw [sl, if_pos h, sl_fuel hp _ ((b - (s + p)).toNat + 1) (s + p) (by omega) (by omega)]
theorem rem_end {p l : Nat} {a b s : Int} (h : ¬ s < b) : rem p l a b s = [] := by
 unfold rem
 rw [sl, if_neg h]
theorem sl_from {p l : Nat} {a a' b : Int} : ∀ (k : Nat) (s : Int), a ≤ s → a' ≤ s → sl p l a b k s = sl p l a' b k s := by
 intro k
 induction k with
 | zero => intro s _ _; rfl
 | succ k ih =>
  intro s h1 h2
  unfold sl
  rw [Int.max_eq_left h1, Int.max_eq_left h2, ih (s + p) (by omega) (by omega)]
theorem rem_from {p l : Nat} {a a' b s : Int} (h1 : a ≤ s) (h2 : a' ≤ s) : rem p l a b s = rem p l a' b s := sl_from _ _ h1 h2
def R (p l : Nat) (f b t : Int) : List (Int × Int) := rem p l t b (t - (t - f) % p)
theorem R_end {p l : Nat} {f b : Int} (hp : 0 < p) : R p l f b b = [] := by
 unfold R
 have a0 := Int.emod_nonneg (b - f) (show (p : Int) ≠ 0 by omega)
 have a1 := Int.emod_lt_of_pos (b - f) (show (0 : Int) < p by omega)
 generalize (b - f) % (p : Int) = at_ at *
 by_cases h : b - at_ < b
 ·rw [rem_step hp h, if_neg (by omega), rem_end (by omega)]; rfl
 ·rw [rem_end h]
theorem add_at {p : Nat} {t f : Int} {c : Int} (hp : 0 < p) (h0 : 0 ≤ (t - f) % p + c) (h1 : (t - f) % p + c < p) : (t + c - f) % p = (t - f) % p + c := by
 have : (t + c - f) % p = ((t - f) % p + c) % p := by rw [Int.emod_add_emod]; congr 1; omega
 rw [this, Int.emod_eq_of_lt h0 h1]
theorem ref_in {p l : Nat} {f b t : Int} (hp : 0 < p) (hl : l < p) (h : t < b) (hat : (t - f) % p < l) :
  R p l f b t = (t, min (t + (l - (t - f) % p)) b) :: R p l f b (min (t + (l - (t - f) % p)) b) := by
 have a0 := Int.emod_nonneg (t - f) (show (p : Int) ≠ 0 by omega)
 have hc := add_at (t := t) (f := f) (c := l - (t - f) % p) hp (by omega) (by omega)
 unfold R
 generalize (t - f) % (p : Int) = at_ at *
 rw [rem_step hp (show t - at_ < b by omega), Int.max_eq_right (show t - at_ ≤ t by omega), show t - at_ + l = t + (l - at_) by omega, if_pos (by omega)]
 rw [List.singleton_append]
 congr 1
 by_cases he : t + (l - at_) < b
 ·rw [Int.min_eq_left (Int.le_of_lt he), hc, show t + (l - at_) - (at_ + (l - at_)) = t - at_ by omega, rem_step hp (show t - at_ < b by omega), if_neg (by omega), List.nil_append]
  exact rem_from (by omega) (by omega)
 ·rw [Int.min_eq_right (by omega), rem_end (by omega)]
  exact (R_end hp).symm
theorem ref_out {p l : Nat} {f b t : Int} (hp : 0 < p) (h : t < b) (hat : ¬ (t - f) % p < l) :
  R p l f b t = R p l f b (min (t + (p - (t - f) % p)) b) := by
 have a0 := Int.emod_nonneg (t - f) (show (p : Int) ≠ 0 by omega)
 have a1 := Int.emod_lt_of_pos (t - f) (show (0 : Int) < p by omega)
 have hc : (t + (p - (t - f) % p) - f) % p = 0 := by
  have : (t + (p - (t - f) % p) - f) % p = (t - f - (t - f) % p) % p := by
   rw [show t + (p - (t - f) % p) - f = t - f - (t - f) % p + p by omega, Int.add_emod_right]
  rw [this, Int.sub_emod, Int.emod_emod, Int.sub_self, Int.zero_emod]
 unfold R
 generalize (t - f) % (p : Int) = at_ at *
 rw [rem_step hp (show t - at_ < b by omega), if_neg (by omega), List.nil_append]
 by_cases he : t + (p - at_) < b
 ·rw [Int.min_eq_left (Int.le_of_lt he), hc, show t + (p - at_) - 0 = t - at_ + p by omega]
  exact rem_from (by omega) (by omega)
 ·rw [Int.min_eq_right (by omega), rem_end (by omega)]
  exact (R_end hp).symm
def tot (p l : Nat) (f a b : Int) : List (Int × Int) := if l = 0 ∨ a = b then [] else if l = p then [(a, b)] else R p l f b a
end Wn
end
end Go.Proofs.Ytfgfnjckklldbaa
