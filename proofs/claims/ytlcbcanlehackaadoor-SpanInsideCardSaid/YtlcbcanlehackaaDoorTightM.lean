/- No narrower span has all products and roots: the arithmetic. -/
import Derived.Test.YtlcbcanlehackaaDoorMul
import Derived.Test.YtlcbcanlehackaaDoorRoot2
set_option linter.unusedVariables false
set_option linter.unusedSimpArgs false
namespace Go.Proofs.YtlcbcanlehackaaDoor
open Go.RowKit
/-- Does one of the first n answer yes? -/
def anyB (f : Nat → Bool) : Nat → Bool
  | 0 => false
  | k + 1 => anyB f k || f k
theorem anyB_t {f : Nat → Bool} {k n : Nat} (h : k < n) (hf : f k = true) : anyB f n = true := by
  induction n with
  | zero => omega
  | succ n ih =>
    simp only [anyB]
    by_cases c : k = n
    · subst c; rw [hf]; simp
    · rw [ih (by omega)]; simp
def corner (al ah bl bh : Int) : Nat → Int
  | 0 => al * bl
  | 1 => al * bh
  | 2 => ah * bl
  | _ => ah * bh
theorem sL_one (x y : Int) : sL x y 4294967296 = x * y / 4294967296 := by unfold sL sN ab; simp
theorem sH_one (x y : Int) : sH x y 4294967296 = cdiv (x * y) 4294967296 := by unfold sH sN ab; simp
theorem tight_low (al ah bl bh : Int) : anyB (fun k => decide (corner al ah bl bh k < mi (mL al bl bh) (mL ah bl bh) * 4294967296 + 4294967296)) 4 = true := by
  have key : ∃ k, k < 4 ∧ corner al ah bl bh k < mi (mL al bl bh) (mL ah bl bh) * 4294967296 + 4294967296 := by
    have k0 : corner al ah bl bh 0 = al * bl := rfl
    have k1 : corner al ah bl bh 1 = al * bh := rfl
    have k2 : corner al ah bl bh 2 = ah * bl := rfl
    have k3 : corner al ah bl bh 3 = ah * bh := rfl
    unfold mL
    rw [sL_one, sL_one, sL_one, sL_one]
    generalize al * bl = p at *
    generalize al * bh = q at *
    generalize ah * bl = r at *
    generalize ah * bh = s at *
    have : mi (mi (p / 4294967296) (q / 4294967296)) (mi (r / 4294967296) (s / 4294967296)) = p / 4294967296 ∨ mi (mi (p / 4294967296) (q / 4294967296)) (mi (r / 4294967296) (s / 4294967296)) = q / 4294967296 ∨ mi (mi (p / 4294967296) (q / 4294967296)) (mi (r / 4294967296) (s / 4294967296)) = r / 4294967296 ∨ mi (mi (p / 4294967296) (q / 4294967296)) (mi (r / 4294967296) (s / 4294967296)) = s / 4294967296 := by
      have m2 : ∀ x y : Int, mi x y = x ∨ mi x y = y := fun x y => by unfold mi; split <;> simp
      rcases m2 (mi (p / 4294967296) (q / 4294967296)) (mi (r / 4294967296) (s / 4294967296)) with e | e <;> rw [e]
      · rcases m2 (p / 4294967296) (q / 4294967296) with e | e <;> rw [e] <;> simp
      · rcases m2 (r / 4294967296) (s / 4294967296) with e | e <;> rw [e] <;> simp
    generalize mi (mi (p / 4294967296) (q / 4294967296)) (mi (r / 4294967296) (s / 4294967296)) = z at *
    rcases this with h | h | h | h
    · exact ⟨0, by omega, by rw [k0]; omega⟩
    · exact ⟨1, by omega, by rw [k1]; omega⟩
    · exact ⟨2, by omega, by rw [k2]; omega⟩
    · exact ⟨3, by omega, by rw [k3]; omega⟩
  obtain ⟨k, hk, h⟩ := key
  exact anyB_t hk (decide_eq_true h)
theorem tight_high (al ah bl bh : Int) : anyB (fun k => decide (mx (mH al bl bh) (mH ah bl bh) * 4294967296 - 4294967296 < corner al ah bl bh k)) 4 = true := by
  have key : ∃ k, k < 4 ∧ mx (mH al bl bh) (mH ah bl bh) * 4294967296 - 4294967296 < corner al ah bl bh k := by
    have k0 : corner al ah bl bh 0 = al * bl := rfl
    have k1 : corner al ah bl bh 1 = al * bh := rfl
    have k2 : corner al ah bl bh 2 = ah * bl := rfl
    have k3 : corner al ah bl bh 3 = ah * bh := rfl
    have up : ∀ x : Int, cdiv x 4294967296 * 4294967296 - 4294967296 < x := fun x => by unfold cdiv; omega
    unfold mH
    rw [sH_one, sH_one, sH_one, sH_one]
    have u0 := up (al * bl)
    have u1 := up (al * bh)
    have u2 := up (ah * bl)
    have u3 := up (ah * bh)
    generalize cdiv (al * bl) 4294967296 = p at *
    generalize cdiv (al * bh) 4294967296 = q at *
    generalize cdiv (ah * bl) 4294967296 = r at *
    generalize cdiv (ah * bh) 4294967296 = s at *
    have : mx (mx p q) (mx r s) = p ∨ mx (mx p q) (mx r s) = q ∨ mx (mx p q) (mx r s) = r ∨ mx (mx p q) (mx r s) = s := by
      have m2 : ∀ x y : Int, mx x y = x ∨ mx x y = y := fun x y => by unfold mx; split <;> simp
      rcases m2 (mx p q) (mx r s) with e | e <;> rw [e]
      · rcases m2 p q with e | e <;> rw [e] <;> simp
      · rcases m2 r s with e | e <;> rw [e] <;> simp
    generalize mx (mx p q) (mx r s) = z at *
    rcases this with h | h | h | h
    · exact ⟨0, by omega, by rw [k0]; omega⟩
    · exact ⟨1, by omega, by rw [k1]; omega⟩
    · exact ⟨2, by omega, by rw [k2]; omega⟩
    · exact ⟨3, by omega, by rw [k3]; omega⟩
  obtain ⟨k, hk, h⟩ := key
  exact anyB_t hk (decide_eq_true h)
theorem rootH_tight {x : Int} (h : 0 ≤ x) (hz : ¬ rtH x = 0) : (rtH x - 1) * (rtH x - 1) < x * 4294967296 := by
  obtain ⟨a0, a1, a2⟩ := rt_spec h
  cases c : rtR x
  · have e : rtH x = rtL x := by unfold rtH bI; rw [c]; simp
    have e2 : rtL x * rtL x = x * 4294967296 := by
      unfold rtR at c
      simpa using c
    rw [e] at hz ⊢
    have : (rtL x - 1) * (rtL x - 1) = rtL x * rtL x - 2 * rtL x + 1 := by grind
    omega
  · have e : rtH x - 1 = rtL x := by unfold rtH bI; rw [c]; simp
    have e2 : ¬ rtL x * rtL x = x * 4294967296 := by
      unfold rtR at c
      simpa using c
    rw [e]
    omega
theorem rootL_tight {x : Int} (h : 0 ≤ x) : x * 4294967296 < (rtL x + 1) * (rtL x + 1) := (rt_spec h).2.2
end Go.Proofs.YtlcbcanlehackaaDoor
