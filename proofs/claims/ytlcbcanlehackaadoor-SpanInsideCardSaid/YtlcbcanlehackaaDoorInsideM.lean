/- What is true of narrower spans is within what is true of wider ones: the arithmetic. -/
import Derived.Test.YtlcbcanlehackaaDoorHoldsM
import Derived.Test.YtlcbcanlehackaaDoorTurn3
set_option linter.unusedVariables false
set_option linter.unusedSimpArgs false
namespace Go.Proofs.YtlcbcanlehackaaDoor
open Go.RowKit
/-- 'within', as the law asks it. -/
def wiB (a b e c d f : Int) : Bool := if (f != 0) = true then true else if (e == 0) = true then withinB a b c d else false
theorem within_t {a b c d : Int} (h0 : -9223372036854775807 ≤ c) (h1 : c ≤ a) (h2 : a ≤ b) (h3 : b ≤ d) : withinB a b c d = true := by
  unfold withinB
  rw [vB_t (by omega) h2, vB_t h0 (by omega), decide_eq_true h1, decide_eq_true h3]; rfl
theorem in_out {l h l' h' x y e u v f : Int} (hx : x = okI true (oLo l' h')) (hy : y = okI true (oHi l' h')) (he : e = errE true (oE l' h')) (hu : u = okI true (oLo l h)) (hv : v = okI true (oHi l h)) (hf : f = errE true (oE l h))
    (h1 : l ≤ l') (h2 : l' ≤ h') (h3 : h' ≤ h) : wiB x y e u v f = true := by
  unfold wiB
  cases F : fits l h
  · have : f = 4 := by rw [hf, (out_f F).2.2]; rfl
    rw [this]; rfl
  · have F0 := F
    simp only [fits, decide_eq_true_eq] at F0
    have F' : fits l' h' = true := by simp only [fits, decide_eq_true_eq]; omega
    have e1 : f = 0 := by rw [hf, (out_t F).2.2]; rfl
    have e2 : e = 0 := by rw [he, (out_t F').2.2]; rfl
    rw [e1, e2, hx, hy, hu, hv, (out_t F).1, (out_t F).2.1, (out_t F').1, (out_t F').2.1, ok_t, ok_t, ok_t, ok_t, within_t (by omega) h1 h2 h3]
    rfl
theorem in_plain {x y e u v f : Int} (he : e = 0) (h0 : -9223372036854775807 ≤ u) (h1 : u ≤ x) (h2 : x ≤ y) (h3 : y ≤ v) : wiB x y e u v f = true := by
  unfold wiB
  rw [he, within_t h0 h1 h2 h3]
  by_cases c : (f != 0) = true
  · rw [if_pos c]
  · rw [if_neg c]; rfl
theorem le_mi {a x y : Int} (h1 : a ≤ x) (h2 : a ≤ y) : a ≤ mi x y := by unfold mi; split <;> omega
theorem mx_le {a x y : Int} (h1 : x ≤ a) (h2 : y ≤ a) : mx x y ≤ a := by unfold mx; split <;> omega
theorem sLH_one (x y : Int) : sL x y 4294967296 ≤ sH x y 4294967296 := by rw [sL_one, sH_one]; unfold cdiv; omega
theorem fl_le {a c : Int} (h : a * 4294967296 ≤ c) : a ≤ c / 4294967296 := by omega
theorem ce_le {a c : Int} (h : c ≤ a * 4294967296) : cdiv c 4294967296 ≤ a := by unfold cdiv; omega
section
variable {al ah bl bh p q r s : Int}
theorem mul_in (h1 : al ≤ p) (h2 : p ≤ q) (h3 : q ≤ ah) (k1 : bl ≤ r) (k2 : r ≤ s) (k3 : s ≤ bh) :
    mi (mL al bl bh) (mL ah bl bh) ≤ mi (mL p r s) (mL q r s) ∧ mi (mL p r s) (mL q r s) ≤ mx (mH p r s) (mH q r s) ∧ mx (mH p r s) (mH q r s) ≤ mx (mH al bl bh) (mH ah bl bh) := by
  have lo : ∀ x y, al ≤ x → x ≤ ah → bl ≤ y → y ≤ bh → mi (mL al bl bh) (mL ah bl bh) ≤ sL x y 4294967296 := fun x y a b c d => by rw [sL_one]; exact fl_le (mul_low a b c d)
  have hi : ∀ x y, al ≤ x → x ≤ ah → bl ≤ y → y ≤ bh → sH x y 4294967296 ≤ mx (mH al bl bh) (mH ah bl bh) := fun x y a b c d => by rw [sH_one]; exact ce_le (mul_high a b c d)
  refine ⟨?_, ?_, ?_⟩
  · unfold mL at lo ⊢
    exact le_mi (le_mi (lo _ _ h1 (by omega) k1 (by omega)) (lo _ _ h1 (by omega) (by omega) k3)) (le_mi (lo _ _ (by omega) h3 k1 (by omega)) (lo _ _ (by omega) h3 (by omega) k3))
  · exact mm_le (mm_le (sLH_one _ _) (sLH_one _ _)) (mm_le (sLH_one _ _) (sLH_one _ _))
  · unfold mH at hi ⊢
    exact mx_le (mx_le (hi _ _ h1 (by omega) k1 (by omega)) (hi _ _ h1 (by omega) (by omega) k3)) (mx_le (hi _ _ (by omega) h3 k1 (by omega)) (hi _ _ (by omega) h3 (by omega) k3))
theorem abs_num (h2 : p ≤ q) : (∃ x, p ≤ x ∧ x ≤ q ∧ absL p q * absL p q = x * x) ∧ (∃ x, p ≤ x ∧ x ≤ q ∧ absH p q * absH p q = x * x) ∧ 0 ≤ absL p q ∧ absL p q ≤ absH p q := by
  unfold absL absH mx
  by_cases c1 : 0 ≤ p
  · rw [if_pos c1, if_pos c1]; exact ⟨⟨p, by omega, h2, rfl⟩, ⟨q, h2, by omega, rfl⟩, by omega, by omega⟩
  · rw [if_neg c1, if_neg c1]
    by_cases c2 : q ≤ 0
    · rw [if_pos c2, if_pos c2]; exact ⟨⟨q, h2, by omega, Int.neg_mul_neg _ _⟩, ⟨p, by omega, h2, Int.neg_mul_neg _ _⟩, by omega, by omega⟩
    · rw [if_neg c2, if_neg c2]
      refine ⟨⟨0, by omega, by omega, rfl⟩, ?_, by omega, by split <;> omega⟩
      split
      · exact ⟨q, h2, by omega, rfl⟩
      · exact ⟨p, by omega, h2, Int.neg_mul_neg _ _⟩
theorem sq_in (h1 : al ≤ p) (h2 : p ≤ q) (h3 : q ≤ ah) :
    sqL (absL al ah) (absH al ah) ≤ sqL (absL p q) (absH p q) ∧ sqL (absL p q) (absH p q) ≤ sqH (absL p q) (absH p q) ∧ sqH (absL p q) (absH p q) ≤ sqH (absL al ah) (absH al ah) := by
  obtain ⟨⟨x, x1, x2, ex⟩, ⟨y, y1, y2, ey⟩, _, _⟩ := abs_num h2
  have lo : ∀ x, al ≤ x → x ≤ ah → sqL (absL al ah) (absH al ah) ≤ x * x / 4294967296 := fun x a b => fl_le (sq_low2 a b)
  have hi : ∀ x, al ≤ x → x ≤ ah → cdiv (x * x) 4294967296 ≤ sqH (absL al ah) (absH al ah) := fun x a b => ce_le (sq_high2 a b)
  refine ⟨?_, mm_le (sLH_one _ _) (sLH_one _ _), ?_⟩
  · conv => rhs; unfold sqL
    rw [sL_one, sL_one, ex, ey]
    exact le_mi (lo _ (by omega) (by omega)) (lo _ (by omega) (by omega))
  · conv => lhs; unfold sqH
    rw [sH_one, sH_one, ex, ey]
    exact mx_le (hi _ (by omega) (by omega)) (hi _ (by omega) (by omega))
theorem abs_mono (h1 : al ≤ p) (h2 : p ≤ q) (h3 : q ≤ ah) : 0 ≤ absL al ah ∧ absL al ah ≤ absL p q ∧ absL p q ≤ absH p q ∧ absH p q ≤ absH al ah := by
  unfold absL absH mx
  repeat' split
  all_goals omega
theorem dLH (x d : Int) (hd : d ≠ 0) : sL x 4294967296 d ≤ sH x 4294967296 d := by
  unfold sL sH cdiv
  have : 0 < ab d := by unfold ab; split <;> omega
  generalize sN x 4294967296 d = n
  generalize ab d = m at *
  have e1 := Int.ediv_mul_le n (show m ≠ 0 by omega)
  have e2 := Int.ediv_mul_le (-n) (show m ≠ 0 by omega)
  have e3 : (n / m + -n / m) * m ≤ 0 := by rw [Int.add_mul]; omega
  have e4 : n / m + -n / m ≤ 0 := by
    by_cases c : 0 < n / m + -n / m
    · have := Int.mul_le_mul_of_nonneg_right (show 1 ≤ n / m + -n / m by omega) (show 0 ≤ m by omega)
      omega
    · omega
  omega
theorem div_in (z : zB bl bh = false) (h1 : al ≤ p) (h2 : p ≤ q) (h3 : q ≤ ah) (k1 : bl ≤ r) (k2 : r ≤ s) (k3 : s ≤ bh) :
    mi (dL al bl bh) (dL ah bl bh) ≤ mi (dL p r s) (dL q r s) ∧ mi (dL p r s) (dL q r s) ≤ mx (dH p r s) (dH q r s) ∧ mx (dH p r s) (dH q r s) ≤ mx (dH al bl bh) (dH ah bl bh) := by
  have nz := of_decide_eq_false z
  have lo : ∀ x y, al ≤ x → x ≤ ah → bl ≤ y → y ≤ bh → mi (dL al bl bh) (dL ah bl bh) ≤ sL x 4294967296 y := fun x y a b c d => by
    by_cases hy : 0 < y
    · rw [sL_q _ _ hy]
      exact (Int.le_ediv_iff_mul_le hy).2 (div_pos a b c d (by omega)).1
    · have hy2 : y < 0 := by omega
      rw [sL_m _ _ hy2]
      have := (div_neg a b c d (by omega)).2
      refine (Int.le_ediv_iff_mul_le (by omega)).2 ?_
      rw [Int.neg_mul] at this
      omega
  have hi : ∀ x y, al ≤ x → x ≤ ah → bl ≤ y → y ≤ bh → sH x 4294967296 y ≤ mx (dH al bl bh) (dH ah bl bh) := fun x y a b c d => by
    have le : ∀ n m : Int, 0 < m → ∀ k, n ≤ k * m → cdiv n m ≤ k := fun n m hm k hk => by
      unfold cdiv
      have : -k ≤ -n / m := (Int.le_ediv_iff_mul_le hm).2 (by rw [Int.neg_mul]; omega)
      omega
    by_cases hy : 0 < y
    · rw [sH_q _ _ hy]
      exact le _ _ hy _ (div_pos a b c d (by omega)).2
    · have hy2 : y < 0 := by omega
      rw [sH_m _ _ hy2]
      refine le _ _ (by omega) _ ?_
      have := (div_neg a b c d (by omega)).1
      rw [Int.neg_mul] at this
      omega
  refine ⟨?_, mm_le (mm_le (dLH _ _ (by omega)) (dLH _ _ (by omega))) (mm_le (dLH _ _ (by omega)) (dLH _ _ (by omega))), ?_⟩
  · unfold dL at lo ⊢
    exact le_mi (le_mi (lo _ _ h1 (by omega) k1 (by omega)) (lo _ _ h1 (by omega) (by omega) k3)) (le_mi (lo _ _ (by omega) h3 k1 (by omega)) (lo _ _ (by omega) h3 (by omega) k3))
  · unfold dH at hi ⊢
    exact mx_le (mx_le (hi _ _ h1 (by omega) k1 (by omega)) (hi _ _ h1 (by omega) (by omega) k3)) (mx_le (hi _ _ (by omega) h3 k1 (by omega)) (hi _ _ (by omega) h3 (by omega) k3))
theorem turn_in (v : vB al ah = true) (u : -4294967296 ≤ al ∧ ah ≤ 4294967296) (h1 : al ≤ p) (h2 : p ≤ q) (h3 : q ≤ ah) :
    (-17179869184 ≤ tcL al ah ∧ tcL al ah ≤ tcL p q ∧ tcL p q ≤ tcH p q ∧ tcH p q ≤ tcH al ah) ∧ (-17179869184 ≤ tuL al al ∧ tuL al al ≤ tuL p p ∧ tuL p p ≤ tuH q q ∧ tuH q q ≤ tuH ah ah) := by
  obtain ⟨a0, a1, a2, a3⟩ := abs_mono h1 h2 h3
  have a4 : absH al ah ≤ 4294967296 := by unfold absH mx; repeat' split
                                          all_goals omega
  have c1 := cos_anti (show 0 ≤ absH p q by omega) a3 a4
  have c2 := cos_anti a0 a1 (show absL p q ≤ 4294967296 by omega)
  have c3 := cos_anti (show 0 ≤ absL p q by omega) a2 (show absH p q ≤ 4294967296 by omega)
  have U : ∀ x, -4294967296 ≤ x → x ≤ 4294967296 → Unit1 x := fun x a b => ⟨a, b⟩
  have b1 := tu_bd (U 4294967296 (by omega) (by omega)) (U (absH al ah) (by omega) a4)
  have b2 := tu_bd (U 4294967296 (by omega) (by omega)) (U (absH p q) (by omega) (by omega))
  have s1 := sin_mono (U al (by omega) (by omega)) (U p (by omega) (by omega)) h1
  have s2 := sin_mono (U q (by omega) (by omega)) (U ah (by omega) (by omega)) h3
  have s3 := sin_mono (U p (by omega) (by omega)) (U q (by omega) (by omega)) h2
  have b3 := tu_bd (U al (by omega) (by omega)) (U al (by omega) (by omega))
  have b4 := tu_bd (U q (by omega) (by omega)) (U q (by omega) (by omega))
  unfold tcL tcH
  omega
end
theorem i64_low {x : Int} (h : I64 x) : -9223372036854775808 ≤ x := h.1
theorem neg_i64 {a b : Int} (hv : vB a b = true) (h : I64 a) (k : I64 b) : I64 (-b) := by
  have ⟨_, _⟩ := vB_tt hv
  obtain ⟨_, _⟩ := h
  obtain ⟨_, _⟩ := k
  exact ⟨by omega, by omega⟩
theorem absL_i64 {a b : Int} (hv : vB a b = true) (h : I64 a) (k : I64 b) : I64 (absL a b) := by
  have ⟨_, _⟩ := vB_tt hv
  obtain ⟨_, _⟩ := h
  obtain ⟨_, _⟩ := k
  unfold absL
  repeat' split
  all_goals exact ⟨by omega, by omega⟩
theorem turn_i64 {a b : Int} (hv : tnB a b = true) : I64 (tcL a b) ∧ I64 (tuL a a) := by
  unfold tnB at hv
  simp only [Bool.and_eq_true, decide_eq_true_eq] at hv
  have ⟨_, v2⟩ := vB_tt hv.1
  have := turn_in hv.1 hv.2 (Int.le_refl a) v2 (Int.le_refl b)
  have U : ∀ x, -4294967296 ≤ x → x ≤ 4294967296 → Unit1 x := fun x a b => ⟨a, b⟩
  have b1 := tu_bd (U a (by omega) (by omega)) (U a (by omega) (by omega))
  have b2 := tu_bd (U 4294967296 (by omega) (by omega)) (show Unit1 (absL a b) from by
    have := abs_mono (Int.le_refl a) v2 (Int.le_refl b)
    refine ⟨by omega, ?_⟩
    unfold absL
    repeat' split
    all_goals omega)
  unfold tcL tcH at this
  refine ⟨⟨?_, ?_⟩, ⟨by omega, by omega⟩⟩ <;> unfold tcL <;> omega
theorem mi_i64 {a b : Int} (h : I64 a) (k : I64 b) : I64 (mi a b) := by
  unfold mi
  split
  · exact k
  · exact h
theorem mx_i64 {a b : Int} (h : I64 a) (k : I64 b) : I64 (mx a b) := by
  unfold mx
  split
  · exact k
  · exact h
end Go.Proofs.YtlcbcanlehackaaDoor
