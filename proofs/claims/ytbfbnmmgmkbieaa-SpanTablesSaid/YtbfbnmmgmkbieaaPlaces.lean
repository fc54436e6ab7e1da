/- The places that the document looks up in a table. -/
import Derived.Test.YtbfbnmmgmkbieaaLineM
set_option linter.unusedVariables false
namespace Go.Proofs.Ytbfbnmmgmkbieaa
open Go.RowKit
/-- The places: the ends of the span, and the points within it of the first k. -/
def pls (at_ : Nat → Int) (xl xh : Int) : Nat → List Int
  | 0 => [xl, xh]
  | k + 1 => if xl ≤ at_ k ∧ at_ k ≤ xh then pls at_ xl xh k ++ [at_ k] else pls at_ xl xh k
theorem pls_len (at_ : Nat → Int) (xl xh : Int) (k : Nat) : 2 ≤ (pls at_ xl xh k).length ∧ (pls at_ xl xh k).length ≤ 2 + k := by
  induction k with
  | zero => simp [pls]
  | succ k ih =>
    simp only [pls]
    split
    · rw [List.length_append]; simp; omega
    · omega
theorem pls_mem {at_ : Nat → Int} {xl xh : Int} {P : Int → Prop} (h1 : P xl) (h2 : P xh) : ∀ k, (∀ i, i < k → P (at_ i)) → ∀ p, p ∈ pls at_ xl xh k → P p := by
  intro k
  induction k with
  | zero => intro _ p hp; simp only [pls, List.mem_cons, List.mem_nil_iff, or_false] at hp; rcases hp with rfl | rfl <;> assumption
  | succ k ih =>
    intro h p hp
    simp only [pls] at hp
    split at hp
    · rcases List.mem_append.1 hp with hp | hp
      · exact ih (fun i hi => h i (by omega)) p hp
      · simp only [List.mem_cons, List.mem_nil_iff, or_false] at hp; subst hp; exact h k (by omega)
    · exact ih (fun i hi => h i (by omega)) p hp
theorem take_next {l : List Int} {j : Nat} (h : j < l.length) : l.take (j + 1) = l.take j ++ [l[j]] := by rw [List.take_succ_eq_append_getElem h]
/-- Where a place stands. -/
noncomputable def nxt (at_ : Nat → Int) (n : Nat) (x : Int) : Nat := Classical.choose (next_ex at_ n x)
theorem nxt_is (at_ : Nat → Int) (n : Nat) (x : Int) : Next at_ n x (nxt at_ n x) := Classical.choose_spec (next_ex at_ n x)
theorem Next.uniq {at_ : Nat → Int} {n : Nat} {x : Int} {m m' : Nat} (h : Next at_ n x m) (h' : Next at_ n x m') : m = m' := by
  rcases Nat.lt_trichotomy m m' with c | c | c
  · have := h'.before m c
    rcases h.stop with e | e
    · have := h'.le; omega
    · exact absurd this e
  · exact c
  · have := h.before m' c
    rcases h'.stop with e | e
    · have := h.le; omega
    · exact absurd this e
theorem rises {n : Nat} {at_ lo hi : Nat → Int} (hR : Right n at_ lo hi) : ∀ (d i : Nat), i + d + 1 < n → at_ i < at_ (i + d + 1) := by
  intro d
  induction d with
  | zero => intro i h; exact hR.up i h
  | succ d ih => intro i h; have := ih i (by omega); have h3 := hR.up (i + d + 1) h; exact Int.lt_trans this h3
theorem next_at {n : Nat} {at_ lo hi : Nat → Int} (hR : Right n at_ lo hi) {i : Nat} (hi' : i < n) : Next at_ n (at_ i) i :=
  ⟨by omega, fun j hj => by
    have := rises hR (i - j - 1) j (by omega)
    rwa [show j + (i - j - 1) + 1 = i by omega] at this, .inr (by omega)⟩
theorem ln_at {n : Nat} {at_ lo hi : Nat → Int} (hR : Right n at_ lo hi) (V : Nat → Int) {i : Nat} (hi' : i < n) : lnL V at_ n i (at_ i) = V i ∧ lnH V at_ n i (at_ i) = V i := by
  unfold lnL lnH
  have hin : ¬ i = n := by omega
  rw [if_neg hin, if_neg hin]
  by_cases h0 : i = 0
  · rw [if_pos h0, if_pos h0, h0]; exact ⟨rfl, rfl⟩
  · obtain ⟨j, rfl⟩ : ∃ j, i = j + 1 := ⟨i - 1, by omega⟩
    rw [if_neg h0, if_neg h0, Nat.add_sub_cancel]
    clear hin
    have hup := hR.up j hi'
    have e1 : (V (j + 1) - V j) * (at_ (j + 1) - at_ j) / (at_ (j + 1) - at_ j) = V (j + 1) - V j := Int.mul_ediv_cancel _ (by omega)
    have e2 : cdiv ((V (j + 1) - V j) * (at_ (j + 1) - at_ j)) (at_ (j + 1) - at_ j) = V (j + 1) - V j := by
      unfold cdiv
      rw [← Int.neg_mul, Int.mul_ediv_cancel _ (by omega)]; omega
    rw [e1, e2]
    constructor <;> omega
/-- The least and the greatest one of some values. -/
def mnOf (f : Int → Int) : List Int → Int
  | [] => 0
  | p :: t => t.foldl (fun a q => mi a (f q)) (f p)
def mxOf (f : Int → Int) : List Int → Int
  | [] => 0
  | p :: t => t.foldl (fun a q => mx a (f q)) (f p)
theorem mnOf_snoc (f : Int → Int) (l : List Int) (p : Int) (h : l ≠ []) : mnOf f (l ++ [p]) = mi (mnOf f l) (f p) := by
  cases l with
  | nil => exact absurd rfl h
  | cons a t => simp [mnOf]
theorem mxOf_snoc (f : Int → Int) (l : List Int) (p : Int) (h : l ≠ []) : mxOf f (l ++ [p]) = mx (mxOf f l) (f p) := by
  cases l with
  | nil => exact absurd rfl h
  | cons a t => simp [mxOf]
end Go.Proofs.Ytbfbnmmgmkbieaa
