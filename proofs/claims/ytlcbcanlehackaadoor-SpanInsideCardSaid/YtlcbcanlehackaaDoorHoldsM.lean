/- What is true of some numbers is in the result: the arithmetic. -/
import Derived.Test.YtlcbcanlehackaaDoorTightM
import Derived.Test.YtlcbcanlehackaaDoorRDivM
import Derived.Test.YtlcbcanlehackaaDoorSquare
import Derived.Test.YtlcbcanlehackaaDoorPickB
set_option linter.unusedVariables false
set_option linter.unusedSimpArgs false
namespace Go.Proofs.YtlcbcanlehackaaDoor
open Go.RowKit
theorem mi_le (x y : Int) : mi x y ≤ x ∧ mi x y ≤ y := by unfold mi; split <;> omega
theorem le_mx (x y : Int) : x ≤ mx x y ∧ y ≤ mx x y := by unfold mx; split <;> omega
/-- A product is above one of two others, one of whose factors is at an end. -/
theorem mul_end {a b x : Int} (h1 : a ≤ x) (h2 : x ≤ b) (y : Int) : (a * y ≤ x * y ∧ x * y ≤ b * y) ∨ (b * y ≤ x * y ∧ x * y ≤ a * y) := by
  by_cases hy : 0 ≤ y
  · exact .inl ⟨Int.mul_le_mul_of_nonneg_right h1 hy, Int.mul_le_mul_of_nonneg_right h2 hy⟩
  · exact .inr ⟨Int.mul_le_mul_of_nonpos_right h2 (by omega), Int.mul_le_mul_of_nonpos_right h1 (by omega)⟩
theorem corner_low {al ah bl bh x y : Int} (h1 : al ≤ x) (h2 : x ≤ ah) (h3 : bl ≤ y) (h4 : y ≤ bh) : al * bl ≤ x * y ∨ al * bh ≤ x * y ∨ ah * bl ≤ x * y ∨ ah * bh ≤ x * y := by
  have e := mul_end h1 h2 y
  have f1 := mul_end h3 h4 al
  have f2 := mul_end h3 h4 ah
  rw [Int.mul_comm bl al, Int.mul_comm y al, Int.mul_comm bh al] at f1
  rw [Int.mul_comm bl ah, Int.mul_comm y ah, Int.mul_comm bh ah] at f2
  omega
theorem corner_high {al ah bl bh x y : Int} (h1 : al ≤ x) (h2 : x ≤ ah) (h3 : bl ≤ y) (h4 : y ≤ bh) : x * y ≤ al * bl ∨ x * y ≤ al * bh ∨ x * y ≤ ah * bl ∨ x * y ≤ ah * bh := by
  have e := mul_end h1 h2 y
  have f1 := mul_end h3 h4 al
  have f2 := mul_end h3 h4 ah
  rw [Int.mul_comm bl al, Int.mul_comm y al, Int.mul_comm bh al] at f1
  rw [Int.mul_comm bl ah, Int.mul_comm y ah, Int.mul_comm bh ah] at f2
  omega
theorem fl (c : Int) : c / 4294967296 * 4294967296 ≤ c := by omega
theorem ce (c : Int) : c ≤ cdiv c 4294967296 * 4294967296 := by unfold cdiv; omega
theorem mul_low {al ah bl bh x y : Int} (h1 : al ≤ x) (h2 : x ≤ ah) (h3 : bl ≤ y) (h4 : y ≤ bh) : mi (mL al bl bh) (mL ah bl bh) * 4294967296 ≤ x * y := by
  have a1 := mi_le (mL al bl bh) (mL ah bl bh)
  have a2 := mi_le (sL al bl 4294967296) (sL al bh 4294967296)
  have a3 := mi_le (sL ah bl 4294967296) (sL ah bh 4294967296)
  unfold mL at *
  rw [sL_one, sL_one, sL_one, sL_one] at *
  rcases corner_low h1 h2 h3 h4 with h | h | h | h
  all_goals omega
theorem mul_high {al ah bl bh x y : Int} (h1 : al ≤ x) (h2 : x ≤ ah) (h3 : bl ≤ y) (h4 : y ≤ bh) : x * y ≤ mx (mH al bl bh) (mH ah bl bh) * 4294967296 := by
  have a1 := le_mx (mH al bl bh) (mH ah bl bh)
  have a2 := le_mx (sH al bl 4294967296) (sH al bh 4294967296)
  have a3 := le_mx (sH ah bl 4294967296) (sH ah bh 4294967296)
  unfold mH at *
  rw [sH_one, sH_one, sH_one, sH_one] at *
  have c1 := ce (al * bl)
  have c2 := ce (al * bh)
  have c3 := ce (ah * bl)
  have c4 := ce (ah * bh)
  rcases corner_high h1 h2 h3 h4 with h | h | h | h
  all_goals omega
theorem sqr_mono {a b : Int} (h0 : 0 ≤ a) (h : a ≤ b) : a * a ≤ b * b := Int.mul_le_mul h h h0 (by omega)
theorem abs_in {al ah x : Int} (h1 : al ≤ x) (h2 : x ≤ ah) : 0 ≤ absL al ah ∧ absL al ah * absL al ah ≤ x * x ∧ x * x ≤ absH al ah * absH al ah := by
  unfold absL absH mx
  by_cases c1 : 0 ≤ al
  · rw [if_pos c1, if_pos c1]; exact ⟨c1, sqr_mono c1 h1, sqr_mono (by omega) h2⟩
  · rw [if_neg c1, if_neg c1]
    have e : x * x = (-x) * (-x) := by rw [Int.neg_mul_neg]
    by_cases c2 : ah ≤ 0
    · rw [if_pos c2, if_pos c2, e]; exact ⟨by omega, sqr_mono (by omega) (by omega), sqr_mono (by omega) (by omega)⟩
    · rw [if_neg c2, if_neg c2]
      refine ⟨by omega, ?_, ?_⟩
      · by_cases cx : 0 ≤ x
        · exact sqr_mono (by omega) cx
        · rw [e]; exact sqr_mono (by omega) (by omega)
      · by_cases cx : 0 ≤ x
        · exact sqr_mono cx (by split <;> omega)
        · rw [e]; exact sqr_mono (by omega) (by split <;> omega)
theorem sq_low2 {al ah x : Int} (h1 : al ≤ x) (h2 : x ≤ ah) : sqL (absL al ah) (absH al ah) * 4294967296 ≤ x * x := by
  obtain ⟨a0, a1, a2⟩ := abs_in h1 h2
  have a3 := mi_le (sL (absL al ah) (absL al ah) 4294967296) (sL (absH al ah) (absH al ah) 4294967296)
  unfold sqL
  rw [sL_one, sL_one] at *
  have := fl (absL al ah * absL al ah)
  omega
theorem sq_high2 {al ah x : Int} (h1 : al ≤ x) (h2 : x ≤ ah) : x * x ≤ sqH (absL al ah) (absH al ah) * 4294967296 := by
  obtain ⟨a0, a1, a2⟩ := abs_in h1 h2
  have a3 := le_mx (sH (absL al ah) (absL al ah) 4294967296) (sH (absH al ah) (absH al ah) 4294967296)
  unfold sqH
  rw [sH_one, sH_one] at *
  have := ce (absH al ah * absH al ah)
  omega
/-- Quotients, by a number above 0. -/
theorem q_low {a bl bh x y n : Int} (hb : 0 < bl) (h1 : a ≤ x) (h3 : bl ≤ y) (h4 : y ≤ bh) (hq : n ≤ a / bl ∧ n ≤ a / bh) : n * y ≤ x := by
  by_cases ha : 0 ≤ a
  · have h5 : a / bh * bh ≤ a := Int.ediv_mul_le a (by omega)
    have h6 : 0 ≤ a / bh := Int.ediv_nonneg ha (by omega)
    have h7 : n * y ≤ a / bh * y := Int.mul_le_mul_of_nonneg_right hq.2 (by omega)
    have h8 : a / bh * y ≤ a / bh * bh := Int.mul_le_mul_of_nonneg_left h4 h6
    omega
  · have h5 : a / bl * bl ≤ a := Int.ediv_mul_le a (by omega)
    have h6 : a / bl < 0 := Int.ediv_neg_of_neg_of_pos (by omega) hb
    have h7 : n * y ≤ a / bl * y := Int.mul_le_mul_of_nonneg_right hq.1 (by omega)
    have h8 : a / bl * y ≤ a / bl * bl := Int.mul_le_mul_of_nonpos_left (by omega) h3
    omega
theorem q_high {a bl bh x y n : Int} (hb : 0 < bl) (h1 : x ≤ a) (h3 : bl ≤ y) (h4 : y ≤ bh) (hq : cdiv a bl ≤ n ∧ cdiv a bh ≤ n) : x ≤ n * y := by
  have := q_low (a := -a) (x := -x) (n := -n) hb (by omega) h3 h4 (by unfold cdiv at hq; omega)
  rw [Int.neg_mul] at this
  omega
theorem sL_q (x d : Int) (h : 0 < d) : sL x 4294967296 d = x * 4294967296 / d := by unfold sL sN ab; rw [if_neg (by omega), if_neg (by omega)]
theorem sH_q (x d : Int) (h : 0 < d) : sH x 4294967296 d = cdiv (x * 4294967296) d := by unfold sH sN ab; rw [if_neg (by omega), if_neg (by omega)]
theorem sL_m (x d : Int) (h : d < 0) : sL x 4294967296 d = (-(x * 4294967296)) / (-d) := by unfold sL sN ab; rw [if_pos h, if_pos h]
theorem sH_m (x d : Int) (h : d < 0) : sH x 4294967296 d = cdiv (-(x * 4294967296)) (-d) := by unfold sH sN ab; rw [if_pos h, if_pos h]
theorem div_pos {al ah bl bh x y : Int} (h1 : al ≤ x) (h2 : x ≤ ah) (h3 : bl ≤ y) (h4 : y ≤ bh) (hb : 0 < bl) :
    mi (dL al bl bh) (dL ah bl bh) * y ≤ x * 4294967296 ∧ x * 4294967296 ≤ mx (dH al bl bh) (dH ah bl bh) * y := by
  have a1 := mi_le (dL al bl bh) (dL ah bl bh)
  have a2 := mi_le (sL al 4294967296 bl) (sL al 4294967296 bh)
  have b1 := le_mx (dH al bl bh) (dH ah bl bh)
  have b3 := le_mx (sH ah 4294967296 bl) (sH ah 4294967296 bh)
  rw [sL_q _ _ hb, sL_q _ _ (show 0 < bh by omega)] at a2
  rw [sH_q _ _ hb, sH_q _ _ (show 0 < bh by omega)] at b3
  have e1 : dL al bl bh = mi (al * 4294967296 / bl) (al * 4294967296 / bh) := by unfold dL; rw [sL_q _ _ hb, sL_q _ _ (show 0 < bh by omega)]
  have e2 : dH ah bl bh = mx (cdiv (ah * 4294967296) bl) (cdiv (ah * 4294967296) bh) := by unfold dH; rw [sH_q _ _ hb, sH_q _ _ (show 0 < bh by omega)]
  rw [← e1] at a2
  rw [← e2] at b3
  exact ⟨q_low hb (a := al * 4294967296) (by omega) h3 h4 ⟨by omega, by omega⟩, q_high hb (a := ah * 4294967296) (by omega) h3 h4 ⟨by omega, by omega⟩⟩
theorem div_neg {al ah bl bh x y : Int} (h1 : al ≤ x) (h2 : x ≤ ah) (h3 : bl ≤ y) (h4 : y ≤ bh) (hb : bh < 0) :
    -mx (dH al bl bh) (dH ah bl bh) * -y ≤ x * 4294967296 ∧ x * 4294967296 ≤ -mi (dL al bl bh) (dL ah bl bh) * -y := by
  have a1 := mi_le (dL al bl bh) (dL ah bl bh)
  have a2 := mi_le (sL ah 4294967296 bl) (sL ah 4294967296 bh)
  have b1 := le_mx (dH al bl bh) (dH ah bl bh)
  have b3 := le_mx (sH al 4294967296 bl) (sH al 4294967296 bh)
  rw [sL_m _ _ hb, sL_m _ _ (show bl < 0 by omega)] at a2
  rw [sH_m _ _ hb, sH_m _ _ (show bl < 0 by omega)] at b3
  have e1 : dL ah bl bh = mi (-(ah * 4294967296) / -bl) (-(ah * 4294967296) / -bh) := by unfold dL; rw [sL_m _ _ hb, sL_m _ _ (show bl < 0 by omega)]
  have e2 : dH al bl bh = mx (cdiv (-(al * 4294967296)) (-bl)) (cdiv (-(al * 4294967296)) (-bh)) := by unfold dH; rw [sH_m _ _ hb, sH_m _ _ (show bl < 0 by omega)]
  rw [← e1] at a2
  rw [← e2] at b3
  have p := q_high (a := -(al * 4294967296)) (bl := -bh) (bh := -bl) (x := -(x * 4294967296)) (y := -y) (n := mx (dH al bl bh) (dH ah bl bh)) (by omega) (by omega) (by omega) (by omega) ⟨by omega, by omega⟩
  have q := q_low (a := -(ah * 4294967296)) (bl := -bh) (bh := -bl) (x := -(x * 4294967296)) (y := -y) (n := mi (dL al bl bh) (dL ah bl bh)) (by omega) (by omega) (by omega) (by omega) ⟨by omega, by omega⟩
  rw [Int.neg_mul, Int.neg_mul]
  omega
theorem okLo_i64 (v : Bool) (l h : Int) : I64 (okI v (oLo l h)) := by
  unfold okI oLo
  cases v
  · exact ⟨by simp, by simp⟩
  · cases hf : fits l h
    · exact ⟨by simp, by simp⟩
    · simp only [fits, decide_eq_true_eq] at hf
      simp only [if_true]
      exact ⟨by omega, by omega⟩
theorem okHi_i64 (v : Bool) (l h : Int) : I64 (okI v (oHi l h)) := by
  unfold okI oHi
  cases v
  · exact ⟨by simp, by simp⟩
  · cases hf : fits l h
    · exact ⟨by simp, by simp⟩
    · simp only [fits, decide_eq_true_eq] at hf
      simp only [if_true]
      exact ⟨by omega, by omega⟩
theorem okzLo_i64 (v z : Bool) (l h : Int) : I64 (okI v (zI z (oLo l h))) := by
  have := okLo_i64 v l h
  cases v
  · exact ⟨by simp [okI], by simp [okI]⟩
  · cases z
    · exact this
    · exact ⟨by simp [okI, zI], by simp [okI, zI]⟩
theorem okzHi_i64 (v z : Bool) (l h : Int) : I64 (okI v (zI z (oHi l h))) := by
  have := okHi_i64 v l h
  cases v
  · exact ⟨by simp [okI], by simp [okI]⟩
  · cases z
    · exact this
    · exact ⟨by simp [okI, zI], by simp [okI, zI]⟩
theorem ok_i64 {v : Bool} {x : Int} (h : v = true → I64 x) : I64 (okI v x) := by
  cases v
  · exact ⟨by simp [okI], by simp [okI]⟩
  · exact h rfl
theorem roL_i64 {al ah : Int} (i0 : al ≤ 9223372036854775807) (i1 : ah ≤ 9223372036854775807) : I64 (roL al ah) := by
  by_cases h : ah < 0
  · rw [(ro_t h).1]; exact ⟨by omega, by omega⟩
  · rw [(ro_f h).1]
    have m0 : 0 ≤ mx al 0 ∧ mx al 0 ≤ 9223372036854775807 := by unfold mx; split <;> omega
    have := (rt_spec m0.1).1
    have := rt_bd m0.1 m0.2
    exact ⟨by omega, by omega⟩
theorem roH_i64 {ah : Int} (i1 : ah ≤ 9223372036854775807) : I64 (roH ah) := by
  by_cases h : ah < 0
  · rw [(ro_t (al := 0) h).2.1]; exact ⟨by omega, by omega⟩
  · rw [(ro_f (al := 0) h).2.1]
    have := (rt_spec (x := ah) (by omega)).1
    have := rt_bd (x := ah) (by omega) i1
    have := bI_bd (rtR ah)
    have e : rtH ah = rtL ah + bI (rtR ah) := rfl
    exact ⟨by omega, by omega⟩
theorem roL_low {al ah x : Int} (h : ¬ ah < 0) (h1 : al ≤ x) (h0 : 0 ≤ x) : roL al ah * roL al ah ≤ x * 4294967296 := by
  rw [(ro_f h).1]
  have m0 : 0 ≤ mx al 0 ∧ mx al 0 ≤ x := by unfold mx; split <;> omega
  have := (rt_spec m0.1).2.1
  omega
theorem roH_high {ah x : Int} (h : ¬ ah < 0) (h1 : x ≤ ah) : x * 4294967296 ≤ roH ah * roH ah := by
  rw [(ro_f (al := 0) h).2.1]
  obtain ⟨a0, a1, a2⟩ := rt_spec (x := ah) (by omega)
  cases c : rtR ah
  · have e : rtH ah = rtL ah := by unfold rtH bI; rw [c]; simp
    have e2 : rtL ah * rtL ah = ah * 4294967296 := by unfold rtR at c; simpa using c
    rw [e, e2]; omega
  · have e : rtH ah = rtL ah + 1 := by unfold rtH bI; rw [c]; simp
    rw [e]; omega
theorem ok_two {l h x y e : Int} (hx : x = okI (true && true) (oLo l h)) (hy : y = okI (true && true) (oHi l h)) (he : e = errE (true && true) (oE l h)) (h0 : e = 0) : x = l ∧ y = h := by
  cases hf : fits l h
  · rw [he, (out_f hf).2.2] at h0; simp [errE] at h0
  · rw [hx, hy, (out_t hf).1, (out_t hf).2.1]; exact ⟨rfl, rfl⟩
theorem ok_one {l h x y e : Int} (hx : x = okI true (oLo l h)) (hy : y = okI true (oHi l h)) (he : e = errE true (oE l h)) (h0 : e = 0) : x = l ∧ y = h := ok_two hx hy he h0
theorem den_i64 (a b : Int) (u : Nat) : I64 (SX.AO.den .i64 a b .sub) := by
  show I64 (IntKind.wrap .i64 (a - b))
  rw [wrapI64]
  constructor <;> omega
theorem neg_den (x : Int) (h1 : -9223372036854775807 ≤ x) (h2 : x ≤ 9223372036854775807) : SX.AO.den .i64 0 x .sub = -x := by
  show IntKind.wrap .i64 (0 - x) = -x
  rw [wrapI64]; omega
theorem betB_t {X n m y : Int} (h1 : n * y ≤ X) (h2 : X ≤ m * y) : betB X n m y = true := by
  unfold betB
  have a : decide (X < n * y) = false := decide_eq_false (by omega)
  have b : decide (m * y < X) = false := decide_eq_false (by omega)
  rw [a, b]; rfl
end Go.Proofs.YtlcbcanlehackaaDoor
