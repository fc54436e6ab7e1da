/- The directions of a point lie on the circle: the arithmetic. -/
import Derived.Test.YtbfbnmmgmkbieabDoorTurn3
import Derived.Test.YtbfbnmmgmkbieabDoorSquare
set_option linter.unusedVariables false
set_option linter.unusedSimpArgs false
namespace Go.Proofs.YtbfbnmmgmkbieabDoor
open Go.RowKit
theorem ab_nn (x : Int) : 0 ≤ ab x := by unfold ab; split <;> omega
theorem ab_sq (x : Int) : ab x * ab x = x * x := by unfold ab; split; exact Int.neg_mul_neg x x; rfl
theorem absL_d {l h X D : Int} (hD : 0 < D) (hl : l * D ≤ X) (hh : X ≤ h * D) : 0 ≤ absL l h ∧ absL l h * D ≤ ab X := by
  have hX := ab_nn X
  unfold absL
  split
  · rename_i c
    have : 0 ≤ l * D := Int.mul_nonneg c (by omega)
    exact ⟨c, by unfold ab; split <;> omega⟩
  · split
    · rename_i c c'
      have e : -h * D = -(h * D) := Int.neg_mul h D
      have : 0 ≤ -h * D := Int.mul_nonneg (by omega) (by omega)
      exact ⟨by omega, by unfold ab; split <;> omega⟩
    · exact ⟨by omega, by omega⟩
theorem absH_d {l h X D : Int} (hD : 0 < D) (hl : l * D ≤ X) (hh : X ≤ h * D) : ab X ≤ absH l h * D := by
  unfold absH
  split
  · rename_i c
    have : 0 ≤ l * D := Int.mul_nonneg c (by omega)
    unfold ab; split <;> omega
  · split
    · rename_i c c'
      have e : -h * D = -(h * D) := Int.neg_mul h D
      have e2 : -l * D = -(l * D) := Int.neg_mul l D
      have : 0 ≤ -h * D := Int.mul_nonneg (by omega) (by omega)
      unfold ab; split <;> omega
    · rename_i c c'
      have e2 : -l * D = -(l * D) := Int.neg_mul l D
      unfold mx
      split
      · have : -l * D ≤ h * D := Int.mul_le_mul_of_nonneg_right (by omega) (by omega)
        unfold ab; split <;> omega
      · have : h * D ≤ -l * D := Int.mul_le_mul_of_nonneg_right (by omega) (by omega)
        unfold ab; split <;> omega
theorem cdiv_ge (a : Int) {b : Int} (h : 0 < b) : a ≤ cdiv a b * b := by
  unfold cdiv
  have := Int.ediv_mul_le (-a) (Int.ne_of_gt h)
  rw [Int.neg_mul]
  omega
theorem sq_four (a b D : Int) : (a * D) * (a * D) + (b * D) * (b * D) = (a * a + b * b) * (D * D) := by grind
theorem circ_low {C S D m1 m2 k : Int} (hD : 0 < D) (id : C * C + S * S = k * (D * D)) (h1 : 0 ≤ m1) (h2 : 0 ≤ m2) (b1 : m1 * D ≤ ab C) (b2 : m2 * D ≤ ab S) : m1 * m1 + m2 * m2 ≤ k := by
  have p1 := Int.mul_le_mul b1 b1 (Int.mul_nonneg h1 (by omega)) (ab_nn C)
  have p2 := Int.mul_le_mul b2 b2 (Int.mul_nonneg h2 (by omega)) (ab_nn S)
  rw [ab_sq] at p1 p2
  have e := sq_four m1 m2 D
  have : (m1 * m1 + m2 * m2) * (D * D) ≤ k * (D * D) := by omega
  exact Int.le_of_mul_le_mul_right this (Int.mul_pos hD hD)
theorem circ_high {C S D n1 n2 k : Int} (hD : 0 < D) (id : C * C + S * S = k * (D * D)) (b1 : ab C ≤ n1 * D) (b2 : ab S ≤ n2 * D) : k ≤ n1 * n1 + n2 * n2 := by
  have q1 := ab_nn C
  have q2 := ab_nn S
  have p1 := Int.mul_le_mul b1 b1 q1 (by omega)
  have p2 := Int.mul_le_mul b2 b2 q2 (by omega)
  rw [ab_sq] at p1 p2
  have e := sq_four n1 n2 D
  have : k * (D * D) ≤ (n1 * n1 + n2 * n2) * (D * D) := by omega
  exact Int.le_of_mul_le_mul_right this (Int.mul_pos hD hD)
theorem circ_id (t D : Int) (h : D = 18446744073709551616 + t * t) :
    (4294967296 * 36893488147419103232 - 4294967296 * D) * (4294967296 * 36893488147419103232 - 4294967296 * D) + (t * 36893488147419103232) * (t * 36893488147419103232) = 18446744073709551616 * (D * D) := by
  subst h
  grind
theorem sq_low (m n : Int) : sqL m n * 4294967296 ≤ m * m ∧ m * m ≤ sqH m n * 4294967296 ∧ n * n ≤ sqH m n * 4294967296 ∧ sqL m n ≤ sqH m n := by
  have e : ∀ x : Int, sL x x 4294967296 = x * x / 4294967296 := fun x => by unfold sL sN ab; simp
  have e2 : ∀ x : Int, sH x x 4294967296 = cdiv (x * x) 4294967296 := fun x => by unfold sH sN ab; simp
  unfold sqL sqH
  rw [e, e, e2, e2]
  have a1 := cdiv_ge (m * m) (show (0 : Int) < 4294967296 by omega)
  have a2 := cdiv_ge (n * n) (show (0 : Int) < 4294967296 by omega)
  generalize cdiv (m * m) 4294967296 = u at *
  generalize cdiv (n * n) 4294967296 = v at *
  generalize m * m = p at *
  generalize n * n = q at *
  unfold mi mx
  split <;> split <;> omega
theorem sq_up {m n : Int} (hm : 0 ≤ m ∧ m ≤ 17179869184) (hn : 0 ≤ n ∧ n ≤ 17179869184) : 0 ≤ sqL m n ∧ sqH m n ≤ 1099511627776 := by
  have e : ∀ x : Int, sL x x 4294967296 = x * x / 4294967296 := fun x => by unfold sL sN ab; simp
  have e2 : ∀ x : Int, sH x x 4294967296 = cdiv (x * x) 4294967296 := fun x => by unfold sH sN ab; simp
  have p1 := Int.mul_le_mul hm.2 hm.2 hm.1 (by omega)
  have p2 := Int.mul_le_mul hn.2 hn.2 hn.1 (by omega)
  have p3 := Int.mul_nonneg hm.1 hm.1
  have p4 := Int.mul_nonneg hn.1 hn.1
  unfold sqL sqH
  rw [e, e, e2, e2]
  unfold cdiv
  generalize m * m = p at *
  generalize n * n = q at *
  unfold mi mx
  constructor <;> split <;> omega
theorem abs_bd {l h : Int} (hv : l ≤ h) (hl : -17179869184 ≤ l) (hh : h ≤ 17179869184) : (0 ≤ absL l h ∧ absL l h ≤ 17179869184) ∧ (0 ≤ absH l h ∧ absH l h ≤ 17179869184) := by
  unfold absL absH mx
  constructor
  · split
    · omega
    · split <;> omega
  · split
    · omega
    · split
      · omega
      · split <;> omega
theorem abs_one (t : Int) : absL t t = ab t ∧ absH t t = ab t := by
  unfold absL absH ab mx
  constructor
  · split
    · split <;> omega
    · split <;> split <;> omega
  · split
    · split <;> omega
    · split
      · split <;> omega
      · split <;> split <;> omega
theorem ab_neg (t : Int) : ab (-t) = ab t := by unfold ab; split <;> split <;> omega
theorem tuD_ab (t : Int) : tuD (ab t) = tuD t := by unfold tuD; rw [ab_sq]
theorem tuD_neg (t : Int) : tuD (-t) = tuD t := by unfold tuD; rw [Int.neg_mul_neg]
theorem turn_neg (t : Int) : tcL (-t) (-t) = tcL t t ∧ tcH (-t) (-t) = tcH t t ∧ tuL (-t) (-t) = -tuH t t ∧ tuH (-t) (-t) = -tuL t t := by
  refine ⟨?_, ?_, ?_, ?_⟩
  · unfold tcL; rw [(abs_one _).2, (abs_one _).2, ab_neg]
  · unfold tcH; rw [(abs_one _).1, (abs_one _).1, ab_neg]
  · unfold tuL tuH cdiv; rw [tuD_neg, Int.neg_mul]; omega
  · unfold tuL tuH cdiv; rw [tuD_neg, Int.neg_mul, Int.neg_neg]
structure Circle (cl ch sl sh x0 x1 y0 y1 : Int) : Prop where
  c : cl ≤ ch
  s : sl ≤ sh
  cb : -17179869184 ≤ cl ∧ ch ≤ 17179869184
  sb : -17179869184 ≤ sl ∧ sh ≤ 17179869184
  x : 0 ≤ x0 ∧ x0 ≤ x1 ∧ x1 ≤ 1099511627776
  y : 0 ≤ y0 ∧ y0 ≤ y1 ∧ y1 ≤ 1099511627776
  one : x0 + y0 ≤ 4294967296 ∧ 4294967296 ≤ x1 + y1
theorem circle (t : Int) (u : Unit1 t) : Circle (tcL t t) (tcH t t) (tuL t t) (tuH t t) (sqL (absL (tcL t t) (tcH t t)) (absH (tcL t t) (tcH t t))) (sqH (absL (tcL t t) (tcH t t)) (absH (tcL t t) (tcH t t))) (sqL (absL (tuL t t) (tuH t t)) (absH (tuL t t) (tuH t t))) (sqH (absL (tuL t t) (tuH t t)) (absH (tuL t t) (tuH t t))) := by
  have uo : Unit1 4294967296 := ⟨by omega, by omega⟩
  have ua : Unit1 (ab t) := by obtain ⟨h1, h2⟩ := u; unfold ab; split <;> exact ⟨by omega, by omega⟩
  have bc := tu_bd uo ua
  have bs := tu_bd u u
  have hD : 0 < tuD t := by have := (tuD_bd u).1; omega
  have id := circ_id t (tuD t) rfl
  have c1 : tcL t t = tuL 4294967296 (ab t) - 4294967296 := by unfold tcL; rw [(abs_one t).2]
  have c2 : tcH t t = tuH 4294967296 (ab t) - 4294967296 := by unfold tcH; rw [(abs_one t).1]
  have l1 : tcL t t * tuD t ≤ 4294967296 * 36893488147419103232 - 4294967296 * tuD t := by
    rw [c1, Int.sub_mul]
    have : tuL 4294967296 (ab t) * tuD t ≤ 4294967296 * 36893488147419103232 := by
      unfold tuL; rw [tuD_ab]; exact Int.ediv_mul_le _ (Int.ne_of_gt hD)
    omega
  have l2 : 4294967296 * 36893488147419103232 - 4294967296 * tuD t ≤ tcH t t * tuD t := by
    rw [c2, Int.sub_mul]
    have : 4294967296 * 36893488147419103232 ≤ tuH 4294967296 (ab t) * tuD t := by
      unfold tuH; rw [tuD_ab]; exact cdiv_ge _ hD
    omega
  have l3 : tuL t t * tuD t ≤ t * 36893488147419103232 := by unfold tuL; exact Int.ediv_mul_le _ (Int.ne_of_gt hD)
  have l4 : t * 36893488147419103232 ≤ tuH t t * tuD t := by unfold tuH; exact cdiv_ge _ hD
  have v1 : tcL t t ≤ tcH t t ∧ -17179869184 ≤ tcL t t ∧ tcH t t ≤ 17179869184 := by rw [c1, c2]; omega
  have v2 : tuL t t ≤ tuH t t ∧ -17179869184 ≤ tuL t t ∧ tuH t t ≤ 17179869184 := by omega
  clear c1 c2 bc bs ua uo
  generalize tcL t t = cl at *
  generalize tcH t t = ch at *
  generalize tuL t t = sl at *
  generalize tuH t t = sh at *
  have A := absL_d hD l1 l2
  have B := absL_d hD l3 l4
  have C := absH_d hD l1 l2
  have E := absH_d hD l3 l4
  have lo := circ_low hD id A.1 B.1 A.2 B.2
  have hi := circ_high hD id C E
  have bd1 := abs_bd v1.1 v1.2.1 v1.2.2
  have bd2 := abs_bd v2.1 v2.2.1 v2.2.2
  generalize absL cl ch = m1 at *
  generalize absH cl ch = n1 at *
  generalize absL sl sh = m2 at *
  generalize absH sl sh = n2 at *
  have s1 := sq_low m1 n1
  have s2 := sq_low m2 n2
  have t1 := sq_up bd1.1 bd1.2
  have t2 := sq_up bd2.1 bd2.2
  clear A B C E l1 l2 l3 l4 id hD bd1 bd2
  generalize sqL m1 n1 = x0 at *
  generalize sqH m1 n1 = x1 at *
  generalize sqL m2 n2 = y0 at *
  generalize sqH m2 n2 = y1 at *
  generalize m1 * m1 = a1 at *
  generalize n1 * n1 = a2 at *
  generalize m2 * m2 = a3 at *
  generalize n2 * n2 = a4 at *
  exact ⟨v1.1, v2.1, v1.2, v2.2, ⟨t1.1, s1.2.2.2, t1.2⟩, ⟨t2.1, s2.2.2.2, t2.2⟩, by omega⟩
end Go.Proofs.YtbfbnmmgmkbieabDoor
