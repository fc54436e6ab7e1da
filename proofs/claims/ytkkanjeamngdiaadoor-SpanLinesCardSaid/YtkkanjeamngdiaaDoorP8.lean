/- Packed: LineM RLine Places. -/
import Derived.Test.YtkkanjeamngdiaaDoorP2
import Derived.Test.YtkkanjeamngdiaaDoorP6
import Derived.Test.YtkkanjeamngdiaaDoorP7
set_option linter.unusedVariables false
set_option linter.unusedSimpArgs false
namespace Go.Proofs.YtkkanjeamngdiaaDoor
section
open Go.RowKit
def tabB (n : Nat) (at_ lo hi : Nat → Int) : Bool := decide (0 < n) && decide (n ≤ 64) && (List.range n).all (ptB at_ lo hi)
theorem tab_pt {n : Nat} {at_ lo hi : Nat → Int} (h : tabB n at_ lo hi = true) : 0 < n ∧ n ≤ 64 ∧ ∀ i, i < n → ptB at_ lo hi i = true := by
 simp only [tabB, Bool.and_eq_true, decide_eq_true_eq, List.all_eq_true, List.mem_range] at h
 exact ⟨h.1.1, h.1.2, h.2⟩
theorem small_bd {x : Int} (h : smallB x = true) : -2305843009213693952 ≤ x ∧ x ≤ 2305843009213693952 := of_decide_eq_true h
theorem pt_bd {at_ lo hi : Nat → Int} {i : Nat} (h : ptB at_ lo hi i = true) : smallB (at_ i) = true ∧ smallB (lo i) = true ∧ smallB (hi i) = true ∧ lo i ≤ hi i ∧ (i = 0 ∨ at_ (i - 1) < at_ i) := by
 simp only [ptB, Bool.and_eq_true, Bool.or_eq_true, decide_eq_true_eq, beq_iff_eq] at h
 exact ⟨h.1.1, h.1.2.1.1, h.1.2.1.2, h.1.2.2, h.2⟩
structure Right (n : Nat) (at_ lo hi : Nat → Int) : Prop where
 pos : 0 < n
 few : n ≤ 64
 a : ∀ i, i < n → -2305843009213693952 ≤ at_ i ∧ at_ i ≤ 2305843009213693952
 l : ∀ i, i < n → -2305843009213693952 ≤ lo i ∧ lo i ≤ 2305843009213693952
 h : ∀ i, i < n → -2305843009213693952 ≤ hi i ∧ hi i ≤ 2305843009213693952
 lh : ∀ i, i < n → lo i ≤ hi i
 up : ∀ i, i + 1 < n → at_ i < at_ (i + 1)
theorem right_of {n : Nat} {at_ lo hi : Nat → Int} (h : tabB n at_ lo hi = true) : Right n at_ lo hi := by
 obtain ⟨h0, h1, h2⟩ := tab_pt h
 exact ⟨h0, h1, fun i hi' => small_bd (pt_bd (h2 i hi')).1, fun i hi' => small_bd (pt_bd (h2 i hi')).2.1, fun i hi' => small_bd (pt_bd (h2 i hi')).2.2.1, fun i hi' => (pt_bd (h2 i hi')).2.2.2.1, fun i hi' => by
  rcases (pt_bd (h2 (i + 1) hi')).2.2.2.2 with h | h
  ·omega
  ·rwa [Nat.add_sub_cancel] at h⟩
structure Next (at_ : Nat → Int) (n : Nat) (x : Int) (m : Nat) : Prop where
 le : m ≤ n
 before : ∀ i, i < m → at_ i < x
 stop : m = n ∨ ¬ at_ m < x
theorem next_ex (at_ : Nat → Int) (n : Nat) (x : Int) : ∃ m, Next at_ n x m := by
 induction n with
 | zero => exact ⟨0, Nat.le_refl _, fun i h => absurd h (by omega), .inl rfl⟩
 | succ n ih =>
  obtain ⟨m, h1, h2, h3⟩ := ih
  rcases h3 with rfl | h3
  ·by_cases c : at_ m < x
   ·refine ⟨m + 1, Nat.le_refl _, fun i hi => ?_, .inl rfl⟩
    rcases Nat.lt_or_ge i m with h | h
    ·exact h2 i h
    ·have : i = m := by omega
     rw [this]; exact c
   ·exact ⟨m, by omega, h2, .inr c⟩
  ·exact ⟨m, by omega, h2, .inr h3⟩
def lnL (v at_ : Nat → Int) (n m : Nat) (x : Int) : Int := if m = n then v (n - 1) else if m = 0 then v 0 else v (m - 1) + (v m - v (m - 1)) * (x - at_ (m - 1)) / (at_ m - at_ (m - 1))
def lnH (v at_ : Nat → Int) (n m : Nat) (x : Int) : Int := if m = n then v (n - 1) else if m = 0 then v 0 else v (m - 1) + cdiv ((v m - v (m - 1)) * (x - at_ (m - 1))) (at_ m - at_ (m - 1))
theorem way_bd {c a d : Int} (ha : 0 ≤ a) (had : a ≤ d) (hd : 0 < d) : (0 ≤ c → 0 ≤ c * a / d ∧ c * a / d ≤ c ∧ 0 ≤ cdiv (c * a) d ∧ cdiv (c * a) d ≤ c) ∧ (c ≤ 0 → c ≤ c * a / d ∧ c * a / d ≤ 0 ∧ c ≤ cdiv (c * a) d ∧ cdiv (c * a) d ≤ 0) := by
 have up {x y : Int} (h : x ≤ y * d) : x / d ≤ y := by
  have := Int.ediv_le_ediv hd h
  rwa [Int.mul_ediv_cancel _ (by omega)] at this
 have lo {x y : Int} (h : y * d ≤ x) : y ≤ x / d := Int.le_ediv_of_mul_le hd h
 constructor
 ·intro hc
  have h1 : 0 ≤ c * a := Int.mul_nonneg hc ha
  have h2 : c * a ≤ c * d := Int.mul_le_mul_of_nonneg_left had hc
  refine ⟨lo (by omega), up h2, ?_, ?_⟩
  ·have := up (x := -(c * a)) (y := 0) (by omega)
   unfold cdiv; omega
  ·have := lo (x := -(c * a)) (y := -c) (by rw [Int.neg_mul]; omega)
   unfold cdiv; omega
 ·intro hc
  have h1 : c * a ≤ 0 := Int.mul_nonpos_of_nonpos_of_nonneg hc ha
  have h2 : c * d ≤ c * a := Int.mul_le_mul_of_nonpos_left hc had
  refine ⟨lo h2, up (by omega), ?_, ?_⟩
  ·have := up (x := -(c * a)) (y := -c) (by rw [Int.neg_mul]; omega)
   unfold cdiv; omega
  ·have := lo (x := -(c * a)) (y := 0) (by omega)
   unfold cdiv; omega
theorem share_pos {x y d : Int} (hd : 0 < d) : sL x y d = x * y / d ∧ sH x y d = cdiv (x * y) d := by
 have e : sN x y d = x * y := by unfold sN; rw [if_neg (by omega)]
 have e2 : ab d = d := by unfold ab; rw [if_neg (by omega)]
 unfold sL sH
 rw [e, e2]
 exact ⟨rfl, rfl⟩
end
section
open Go.RowKit
end
section
open Go.RowKit
noncomputable def nxt (at_ : Nat → Int) (n : Nat) (x : Int) : Nat := Classical.choose (next_ex at_ n x)
theorem nxt_is (at_ : Nat → Int) (n : Nat) (x : Int) : Next at_ n x (nxt at_ n x) := Classical.choose_spec (next_ex at_ n x)
theorem Next.uniq {at_ : Nat → Int} {n : Nat} {x : Int} {m m' : Nat} (h : Next at_ n x m) (h' : Next at_ n x m') : m = m' := by
 rcases Nat.lt_trichotomy m m' with c | c | c
 ·have := h'.before m c
  rcases h.stop with e | e
  ·have := h'.le; omega
  ·exact absurd this e
 ·exact c
 ·have := h.before m' c
  rcases h'.stop with e | e
  ·have := h.le; omega
  ·exact absurd this e
theorem rises {n : Nat} {at_ lo hi : Nat → Int} (hR : Right n at_ lo hi) : ∀ (d i : Nat), i + d + 1 < n → at_ i < at_ (i + d + 1) := by
 intro d
 induction d with
 | zero => intro i h; exact hR.up i h
 | succ d ih => intro i h; have := ih i (by omega); have h3 := hR.up (i + d + 1) h; exact Int.lt_trans this h3
theorem next_at {n : Nat} {at_ lo hi : Nat → Int} (hR : Right n at_ lo hi) {i : Nat} (hi' : i < n) : Next at_ n (at_ i) i :=
 ⟨by omega, fun j hj => by
  have := rises hR (i - j - 1) j (by omega)
  rwa [show j + (i - j - 1) + 1 = i by omega] at this, .inr (by omega)⟩
theorem ln_at {n : Nat} {at_ lo hi : Nat → Int} (hR : Right n at_ lo hi) (V : Nat → Int) {i : Nat} (hi' : i < n) : lnL V at_ n i (at_ i) = V i ∧ lnH V at_ n i (at_ i) = V i := by
 unfold lnL lnH
 have hin : ¬ i = n := by omega
 rw [if_neg hin, if_neg hin]
 by_cases h0 : i = 0
 ·rw [if_pos h0, if_pos h0, h0]; exact ⟨rfl, rfl⟩
 ·obtain ⟨j, rfl⟩ : ∃ j, i = j + 1 := ⟨i - 1, by omega⟩
  rw [if_neg h0, if_neg h0, Nat.add_sub_cancel]
  clear hin
  have hup := hR.up j hi'
  have e1 : (V (j + 1) - V j) * (at_ (j + 1) - at_ j) / (at_ (j + 1) - at_ j) = V (j + 1) - V j := Int.mul_ediv_cancel _ (by omega)
  have e2 : cdiv ((V (j + 1) - V j) * (at_ (j + 1) - at_ j)) (at_ (j + 1) - at_ j) = V (j + 1) - V j := by
   unfold cdiv
   rw [← Int.neg_mul, Int.mul_ediv_cancel _ (by omega)]; omega
  rw [e1, e2]
  constructor <;> omega
end
end Go.Proofs.YtkkanjeamngdiaaDoor
