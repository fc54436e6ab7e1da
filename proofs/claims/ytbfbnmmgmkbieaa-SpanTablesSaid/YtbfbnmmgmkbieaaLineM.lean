/- The lines of a table, as integers. -/
import Derived.Test.YtbfbnmmgmkbieaaRMul2
import Derived.Test.YtbfbnmmgmkbieaaTab
set_option linter.unusedVariables false
set_option linter.unusedSimpArgs false
namespace Go.Proofs.Ytbfbnmmgmkbieaa
open Go.RowKit
def tabB (n : Nat) (at_ lo hi : Nat → Int) : Bool := decide (0 < n) && decide (n ≤ 64) && (List.range n).all (ptB at_ lo hi)
theorem tab_pt {n : Nat} {at_ lo hi : Nat → Int} (h : tabB n at_ lo hi = true) : 0 < n ∧ n ≤ 64 ∧ ∀ i, i < n → ptB at_ lo hi i = true := by
  simp only [tabB, Bool.and_eq_true, decide_eq_true_eq, List.all_eq_true, List.mem_range] at h
  exact ⟨h.1.1, h.1.2, h.2⟩
theorem small_bd {x : Int} (h : smallB x = true) : -2305843009213693952 ≤ x ∧ x ≤ 2305843009213693952 := of_decide_eq_true h
theorem pt_bd {at_ lo hi : Nat → Int} {i : Nat} (h : ptB at_ lo hi i = true) : smallB (at_ i) = true ∧ smallB (lo i) = true ∧ smallB (hi i) = true ∧ lo i ≤ hi i ∧ (i = 0 ∨ at_ (i - 1) < at_ i) := by
  simp only [ptB, Bool.and_eq_true, Bool.or_eq_true, decide_eq_true_eq, beq_iff_eq] at h
  exact ⟨h.1.1, h.1.2.1.1, h.1.2.1.2, h.1.2.2, h.2⟩
/-- A table that is right: its numbers, and that it rises. -/
structure Right (n : Nat) (at_ lo hi : Nat → Int) : Prop where
  pos : 0 < n
  few : n ≤ 64
  a : ∀ i, i < n → -2305843009213693952 ≤ at_ i ∧ at_ i ≤ 2305843009213693952
  l : ∀ i, i < n → -2305843009213693952 ≤ lo i ∧ lo i ≤ 2305843009213693952
  h : ∀ i, i < n → -2305843009213693952 ≤ hi i ∧ hi i ≤ 2305843009213693952
  lh : ∀ i, i < n → lo i ≤ hi i
  up : ∀ i, i + 1 < n → at_ i < at_ (i + 1)
theorem right_of {n : Nat} {at_ lo hi : Nat → Int} (h : tabB n at_ lo hi = true) : Right n at_ lo hi := by
  obtain ⟨h0, h1, h2⟩ := tab_pt h
  exact ⟨h0, h1, fun i hi' => small_bd (pt_bd (h2 i hi')).1, fun i hi' => small_bd (pt_bd (h2 i hi')).2.1, fun i hi' => small_bd (pt_bd (h2 i hi')).2.2.1, fun i hi' => (pt_bd (h2 i hi')).2.2.2.1, fun i hi' => by
    rcases (pt_bd (h2 (i + 1) hi')).2.2.2.2 with h | h
    · omega
    · rwa [Nat.add_sub_cancel] at h⟩
/-- The first point that is not before x (n, if there is none). -/
structure Next (at_ : Nat → Int) (n : Nat) (x : Int) (m : Nat) : Prop where
  le : m ≤ n
  before : ∀ i, i < m → at_ i < x
  stop : m = n ∨ ¬ at_ m < x
theorem next_ex (at_ : Nat → Int) (n : Nat) (x : Int) : ∃ m, Next at_ n x m := by
  induction n with
  | zero => exact ⟨0, Nat.le_refl _, fun i h => absurd h (by omega), .inl rfl⟩
  | succ n ih =>
    obtain ⟨m, h1, h2, h3⟩ := ih
    rcases h3 with rfl | h3
    · by_cases c : at_ m < x
      · refine ⟨m + 1, Nat.le_refl _, fun i hi => ?_, .inl rfl⟩
        rcases Nat.lt_or_ge i m with h | h
        · exact h2 i h
        · have : i = m := by omega
          rw [this]; exact c
      · exact ⟨m, by omega, h2, .inr c⟩
    · exact ⟨m, by omega, h2, .inr h3⟩
def lnL (v at_ : Nat → Int) (n m : Nat) (x : Int) : Int := if m = n then v (n - 1) else if m = 0 then v 0 else v (m - 1) + (v m - v (m - 1)) * (x - at_ (m - 1)) / (at_ m - at_ (m - 1))
def lnH (v at_ : Nat → Int) (n m : Nat) (x : Int) : Int := if m = n then v (n - 1) else if m = 0 then v 0 else v (m - 1) + cdiv ((v m - v (m - 1)) * (x - at_ (m - 1))) (at_ m - at_ (m - 1))
/-- A part of a way. -/
theorem way_bd {c a d : Int} (ha : 0 ≤ a) (had : a ≤ d) (hd : 0 < d) : (0 ≤ c → 0 ≤ c * a / d ∧ c * a / d ≤ c ∧ 0 ≤ cdiv (c * a) d ∧ cdiv (c * a) d ≤ c) ∧ (c ≤ 0 → c ≤ c * a / d ∧ c * a / d ≤ 0 ∧ c ≤ cdiv (c * a) d ∧ cdiv (c * a) d ≤ 0) := by
  have up {x y : Int} (h : x ≤ y * d) : x / d ≤ y := by
    have := Int.ediv_le_ediv hd h
    rwa [Int.mul_ediv_cancel _ (by omega)] at this
  have lo {x y : Int} (h : y * d ≤ x) : y ≤ x / d := Int.le_ediv_of_mul_le hd h
  constructor
  · intro hc
    have h1 : 0 ≤ c * a := Int.mul_nonneg hc ha
    have h2 : c * a ≤ c * d := Int.mul_le_mul_of_nonneg_left had hc
    refine ⟨lo (by omega), up h2, ?_, ?_⟩
    · have := up (x := -(c * a)) (y := 0) (by omega)
      unfold cdiv; omega
    · have := lo (x := -(c * a)) (y := -c) (by rw [Int.neg_mul]; omega)
      unfold cdiv; omega
  · intro hc
    have h1 : c * a ≤ 0 := Int.mul_nonpos_of_nonpos_of_nonneg hc ha
    have h2 : c * d ≤ c * a := Int.mul_le_mul_of_nonpos_left hc had
    refine ⟨lo h2, up (by omega), ?_, ?_⟩
    · have := up (x := -(c * a)) (y := -c) (by rw [Int.neg_mul]; omega)
      unfold cdiv; omega
    · have := lo (x := -(c * a)) (y := 0) (by omega)
      unfold cdiv; omega
theorem share_pos {x y d : Int} (hd : 0 < d) : sL x y d = x * y / d ∧ sH x y d = cdiv (x * y) d := by
  have e : sN x y d = x * y := by unfold sN; rw [if_neg (by omega)]
  have e2 : ab d = d := by unfold ab; rw [if_neg (by omega)]
  unfold sL sH
  rw [e, e2]
  exact ⟨rfl, rfl⟩
theorem mul_nonpos' : True := trivial
end Go.Proofs.Ytbfbnmmgmkbieaa
