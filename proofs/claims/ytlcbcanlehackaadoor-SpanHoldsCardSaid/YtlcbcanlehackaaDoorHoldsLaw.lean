/- The law of sums, products, quotients, squares and roots of numbers. -/
import Derived.Test.YtlcbcanlehackaaDoorHoldsM
import Derived.Test.YtlcbcanlehackaaDoorMul
import Derived.Test.YtlcbcanlehackaaDoorRDivN
import Derived.Test.YtlcbcanlehackaaDoorSum
import Derived.Test.YtlcbcanlehackaaDoorSets
set_option linter.unusedVariables false
set_option linter.unusedSimpArgs false
namespace Go.Proofs.YtlcbcanlehackaaDoor
open Go.RowKit
namespace lawSpanHolds
set_option maxRecDepth 100000 in
set_option maxHeartbeats 4000000 in
theorem walk0 (al ah bl bh y z : Int) (i0 : I64 al) (j0 : I64 ah) (i1 : I64 bl) (j1 : I64 bh) (hy : 0 ≤ y) (hz : 0 ≤ z)  (w : World) : Calls Tryd.prog 4 #[.agg #[.int .i64 al, .int .i64 ah], .agg #[.int .i64 bl, .int .i64 bh], .agg #[.int .u64 y, .int .u64 z]] w fun e w' => e = .returned (.bool true) ∧ Below w.heap.size w w' := by
  have ⟨al0, al1⟩ := i0
  have ⟨ah0, ah1⟩ := j0
  have ⟨bl0, bl1⟩ := i1
  have ⟨bh0, bh1⟩ := j1
  obtain ⟨b6, hb6⟩ : ∃ x, x = true := ⟨_, rfl⟩
  have C0 : ∀ W, Calls Tryd.prog 13 #[] W fun e w' => e = .returned (.bool b6) ∧ Below W.heap.size W w' := fun W => by
    rw [hb6]; exact alive_any W
  obtain ⟨x7, hx7⟩ : ∃ x, x = chkI al ah := ⟨_, rfl⟩
  have C1 : ∀ W, Calls Tryd.prog 14 #[.agg #[.int .i64 al, .int .i64 ah]] W fun e w' => e = .returned (.int .i64 x7) ∧ Below W.heap.size W w' := fun W => by
    rw [hx7]; exact check_any al ah (by omega) W
  obtain ⟨x8, hx8⟩ : ∃ x, x = chkI bl bh := ⟨_, rfl⟩
  have C2 : ∀ W, Calls Tryd.prog 14 #[.agg #[.int .i64 bl, .int .i64 bh]] W fun e w' => e = .returned (.int .i64 x8) ∧ Below W.heap.size W w' := fun W => by
    rw [hx8]; exact check_any bl bh (by omega) W
  obtain ⟨x9, hx9⟩ : ∃ x, x = pickI al ah y := ⟨_, rfl⟩
  have i_x9 : I64 x9 := by rw [hx9]; exact pick_i64 _ _ (by assumption)
  have q_x9 := i_x9.1
  have r_x9 := i_x9.2
  have C3 : ∀ W, Calls Tryd.prog 15 #[.agg #[.int .i64 al, .int .i64 ah], .int .u64 y] W fun e w' => e = .returned (.int .i64 x9) ∧ Below W.heap.size W w' := fun W => by
    rw [hx9]; exact pick_any al ah y (by omega) W
  obtain ⟨x10, hx10⟩ : ∃ x, x = pickI bl bh z := ⟨_, rfl⟩
  have i_x10 : I64 x10 := by rw [hx10]; exact pick_i64 _ _ (by assumption)
  have q_x10 := i_x10.1
  have r_x10 := i_x10.2
  have C4 : ∀ W, Calls Tryd.prog 15 #[.agg #[.int .i64 bl, .int .i64 bh], .int .u64 z] W fun e w' => e = .returned (.int .i64 x10) ∧ Below W.heap.size W w' := fun W => by
    rw [hx10]; exact pick_any bl bh z (by omega) W
  obtain ⟨x11, hx11⟩ : ∃ x, x = okI (vB al ah && vB bl bh) (oLo (al + bl) (ah + bh)) := ⟨_, rfl⟩
  obtain ⟨x12, hx12⟩ : ∃ x, x = okI (vB al ah && vB bl bh) (oHi (al + bl) (ah + bh)) := ⟨_, rfl⟩
  obtain ⟨x13, hx13⟩ : ∃ x, x = errE (vB al ah && vB bl bh) (oE (al + bl) (ah + bh)) := ⟨_, rfl⟩
  have i_x11 : I64 x11 := by rw [hx11]; exact okLo_i64 _ _ _
  have i_x12 : I64 x12 := by rw [hx12]; exact okHi_i64 _ _ _
  have C5 : ∀ W, Calls Tryd.prog 16 #[.agg #[.int .i64 al, .int .i64 ah], .agg #[.int .i64 bl, .int .i64 bh]] W fun e w' => e = .returned (.tuple #[.agg #[.int .i64 x11, .int .i64 x12], .int .i64 x13]) ∧ Below W.heap.size W w' := fun W => by
    rw [hx11, hx12, hx13]; exact add_any al ah bl bh (by first | assumption | (constructor <;> omega) | exact den_i64 _ _ 0 | (split <;> first | assumption | exact den_i64 _ _ 0)) (by first | assumption | (constructor <;> omega) | exact den_i64 _ _ 0 | (split <;> first | assumption | exact den_i64 _ _ 0)) (by first | assumption | (constructor <;> omega) | exact den_i64 _ _ 0 | (split <;> first | assumption | exact den_i64 _ _ 0)) (by first | assumption | (constructor <;> omega) | exact den_i64 _ _ 0 | (split <;> first | assumption | exact den_i64 _ _ 0)) W
  obtain ⟨x14, hx14⟩ : ∃ x, x = okI (vB al ah && vB bl bh) (oLo (al - bh) (ah - bl)) := ⟨_, rfl⟩
  obtain ⟨x15, hx15⟩ : ∃ x, x = okI (vB al ah && vB bl bh) (oHi (al - bh) (ah - bl)) := ⟨_, rfl⟩
  obtain ⟨x16, hx16⟩ : ∃ x, x = errE (vB al ah && vB bl bh) (oE (al - bh) (ah - bl)) := ⟨_, rfl⟩
  have i_x14 : I64 x14 := by rw [hx14]; exact okLo_i64 _ _ _
  have i_x15 : I64 x15 := by rw [hx15]; exact okHi_i64 _ _ _
  have C6 : ∀ W, Calls Tryd.prog 17 #[.agg #[.int .i64 al, .int .i64 ah], .agg #[.int .i64 bl, .int .i64 bh]] W fun e w' => e = .returned (.tuple #[.agg #[.int .i64 x14, .int .i64 x15], .int .i64 x16]) ∧ Below W.heap.size W w' := fun W => by
    rw [hx14, hx15, hx16]; exact sub_any al ah bl bh (by first | assumption | (constructor <;> omega) | exact den_i64 _ _ 0 | (split <;> first | assumption | exact den_i64 _ _ 0)) (by first | assumption | (constructor <;> omega) | exact den_i64 _ _ 0 | (split <;> first | assumption | exact den_i64 _ _ 0)) (by first | assumption | (constructor <;> omega) | exact den_i64 _ _ 0 | (split <;> first | assumption | exact den_i64 _ _ 0)) (by first | assumption | (constructor <;> omega) | exact den_i64 _ _ 0 | (split <;> first | assumption | exact den_i64 _ _ 0)) W
  obtain ⟨x17, hx17⟩ : ∃ x, x = okI (vB al ah && vB bl bh) (oLo (mi (mL al bl bh) (mL ah bl bh)) (mx (mH al bl bh) (mH ah bl bh))) := ⟨_, rfl⟩
  obtain ⟨x18, hx18⟩ : ∃ x, x = okI (vB al ah && vB bl bh) (oHi (mi (mL al bl bh) (mL ah bl bh)) (mx (mH al bl bh) (mH ah bl bh))) := ⟨_, rfl⟩
  obtain ⟨x19, hx19⟩ : ∃ x, x = errE (vB al ah && vB bl bh) (oE (mi (mL al bl bh) (mL ah bl bh)) (mx (mH al bl bh) (mH ah bl bh))) := ⟨_, rfl⟩
  have i_x17 : I64 x17 := by rw [hx17]; exact okLo_i64 _ _ _
  have i_x18 : I64 x18 := by rw [hx18]; exact okHi_i64 _ _ _
  have C7 : ∀ W, Calls Tryd.prog 18 #[.agg #[.int .i64 al, .int .i64 ah], .agg #[.int .i64 bl, .int .i64 bh]] W fun e w' => e = .returned (.tuple #[.agg #[.int .i64 x17, .int .i64 x18], .int .i64 x19]) ∧ Below W.heap.size W w' := fun W => by
    rw [hx17, hx18, hx19]; exact mul_any al ah bl bh (by first | assumption | (constructor <;> omega) | exact den_i64 _ _ 0 | (split <;> first | assumption | exact den_i64 _ _ 0)) (by first | assumption | (constructor <;> omega) | exact den_i64 _ _ 0 | (split <;> first | assumption | exact den_i64 _ _ 0)) (by first | assumption | (constructor <;> omega) | exact den_i64 _ _ 0 | (split <;> first | assumption | exact den_i64 _ _ 0)) (by first | assumption | (constructor <;> omega) | exact den_i64 _ _ 0 | (split <;> first | assumption | exact den_i64 _ _ 0)) W
  obtain ⟨x20, hx20⟩ : ∃ x, x = okI (vB al ah && vB bl bh) (zI (zB bl bh) (oLo (mi (dL al bl bh) (dL ah bl bh)) (mx (dH al bl bh) (dH ah bl bh)))) := ⟨_, rfl⟩
  obtain ⟨x21, hx21⟩ : ∃ x, x = okI (vB al ah && vB bl bh) (zI (zB bl bh) (oHi (mi (dL al bl bh) (dL ah bl bh)) (mx (dH al bl bh) (dH ah bl bh)))) := ⟨_, rfl⟩
  obtain ⟨x22, hx22⟩ : ∃ x, x = errE (vB al ah && vB bl bh) (zE (zB bl bh) (oE (mi (dL al bl bh) (dL ah bl bh)) (mx (dH al bl bh) (dH ah bl bh)))) := ⟨_, rfl⟩
  have i_x20 : I64 x20 := by rw [hx20]; exact okzLo_i64 _ _ _ _
  have i_x21 : I64 x21 := by rw [hx21]; exact okzHi_i64 _ _ _ _
  have C8 : ∀ W, Calls Tryd.prog 19 #[.agg #[.int .i64 al, .int .i64 ah], .agg #[.int .i64 bl, .int .i64 bh]] W fun e w' => e = .returned (.tuple #[.agg #[.int .i64 x20, .int .i64 x21], .int .i64 x22]) ∧ Below W.heap.size W w' := fun W => by
    rw [hx20, hx21, hx22]; exact div_any al ah bl bh (by first | assumption | (constructor <;> omega) | exact den_i64 _ _ 0 | (split <;> first | assumption | exact den_i64 _ _ 0)) (by first | assumption | (constructor <;> omega) | exact den_i64 _ _ 0 | (split <;> first | assumption | exact den_i64 _ _ 0)) (by first | assumption | (constructor <;> omega) | exact den_i64 _ _ 0 | (split <;> first | assumption | exact den_i64 _ _ 0)) (by first | assumption | (constructor <;> omega) | exact den_i64 _ _ 0 | (split <;> first | assumption | exact den_i64 _ _ 0)) W
  obtain ⟨x23, hx23⟩ : ∃ x, x = okI (vB al ah) (oLo (sqL (absL al ah) (absH al ah)) (sqH (absL al ah) (absH al ah))) := ⟨_, rfl⟩
  obtain ⟨x24, hx24⟩ : ∃ x, x = okI (vB al ah) (oHi (sqL (absL al ah) (absH al ah)) (sqH (absL al ah) (absH al ah))) := ⟨_, rfl⟩
  obtain ⟨x25, hx25⟩ : ∃ x, x = errE (vB al ah) (oE (sqL (absL al ah) (absH al ah)) (sqH (absL al ah) (absH al ah))) := ⟨_, rfl⟩
  have i_x23 : I64 x23 := by rw [hx23]; exact okLo_i64 _ _ _
  have i_x24 : I64 x24 := by rw [hx24]; exact okHi_i64 _ _ _
  have C9 : ∀ W, Calls Tryd.prog 20 #[.agg #[.int .i64 al, .int .i64 ah]] W fun e w' => e = .returned (.tuple #[.agg #[.int .i64 x23, .int .i64 x24], .int .i64 x25]) ∧ Below W.heap.size W w' := fun W => by
    rw [hx23, hx24, hx25]; exact square_any al ah (by first | assumption | (constructor <;> omega) | exact den_i64 _ _ 0 | (split <;> first | assumption | exact den_i64 _ _ 0)) (by first | assumption | (constructor <;> omega) | exact den_i64 _ _ 0 | (split <;> first | assumption | exact den_i64 _ _ 0)) W
  obtain ⟨x26, hx26⟩ : ∃ x, x = okI (vB al ah) (roL al ah) := ⟨_, rfl⟩
  obtain ⟨x27, hx27⟩ : ∃ x, x = okI (vB al ah) (roH ah) := ⟨_, rfl⟩
  obtain ⟨x28, hx28⟩ : ∃ x, x = errE (vB al ah) (roE ah) := ⟨_, rfl⟩
  have i_x26 : I64 x26 := by rw [hx26]; exact ok_i64 fun _ => roL_i64 (by omega) (by omega)
  have i_x27 : I64 x27 := by rw [hx27]; exact ok_i64 fun _ => roH_i64 (by omega)
  have C10 : ∀ W, Calls Tryd.prog 21 #[.agg #[.int .i64 al, .int .i64 ah]] W fun e w' => e = .returned (.tuple #[.agg #[.int .i64 x26, .int .i64 x27], .int .i64 x28]) ∧ Below W.heap.size W w' := fun W => by
    rw [hx26, hx27, hx28]; exact sroot_any al ah (by first | assumption | (constructor <;> omega) | exact den_i64 _ _ 0 | (split <;> first | assumption | exact den_i64 _ _ 0)) (by first | assumption | (constructor <;> omega) | exact den_i64 _ _ 0 | (split <;> first | assumption | exact den_i64 _ _ 0)) W
  obtain ⟨x29, hx29⟩ : ∃ x, x = wH (x9) := ⟨_, rfl⟩
  obtain ⟨x30, hx30⟩ : ∃ x, x = wL (x9) := ⟨_, rfl⟩
  have C11 : ∀ W, Calls Tryd.prog 24 #[.int .i64 x9] W fun e w' => e = .returned (.agg #[.int .i64 x29, .int .u64 x30]) ∧ Below W.heap.size W w' := fun W => by
    rw [hx29, hx30]; exact rof x9 (by first | assumption | (constructor <;> omega) | exact den_i64 _ _ 0 | (split <;> first | assumption | exact den_i64 _ _ 0)) W
  obtain ⟨x31, hx31⟩ : ∃ x, x = wH (x10) := ⟨_, rfl⟩
  obtain ⟨x32, hx32⟩ : ∃ x, x = wL (x10) := ⟨_, rfl⟩
  have C12 : ∀ W, Calls Tryd.prog 24 #[.int .i64 x10] W fun e w' => e = .returned (.agg #[.int .i64 x31, .int .u64 x32]) ∧ Below W.heap.size W w' := fun W => by
    rw [hx31, hx32]; exact rof x10 (by first | assumption | (constructor <;> omega) | exact den_i64 _ _ 0 | (split <;> first | assumption | exact den_i64 _ _ 0)) W
  obtain ⟨x33, hx33⟩ : ∃ x, x = wH ((x9 + x10)) := ⟨_, rfl⟩
  obtain ⟨x34, hx34⟩ : ∃ x, x = wL ((x9 + x10)) := ⟨_, rfl⟩
  have C13 : ∀ W, Calls Tryd.prog 23 #[.agg #[.int .i64 x29, .int .u64 x30], .agg #[.int .i64 x31, .int .u64 x32]] W fun e w' => e = .returned (.agg #[.int .i64 x33, .int .u64 x34]) ∧ Below W.heap.size W w' := fun W => by
    rw [hx33, hx34, hx29, hx30, hx31, hx32]; exact rplus x9 x10 (by constructor <;> omega) (by constructor <;> omega) (by constructor <;> omega) W
  obtain ⟨b35, hb35⟩ : ∃ x, x = betB (x9 + x10) x11 x12 1 := ⟨_, rfl⟩
  have C14 : ∀ W, Calls Tryd.prog 22 #[.agg #[.int .i64 x33, .int .u64 x34], .int .i64 x11, .int .i64 x12, .int .i64 1] W fun e w' => e = .returned (.bool b35) ∧ Below W.heap.size W w' := fun W => by
    rw [hb35, hx33, hx34]; exact between_any (x9 + x10) x11 x12 1 (by first | assumption | (constructor <;> omega) | exact den_i64 _ _ 0 | (split <;> first | assumption | exact den_i64 _ _ 0)) (by first | assumption | (constructor <;> omega) | exact den_i64 _ _ 0 | (split <;> first | assumption | exact den_i64 _ _ 0)) (by first | assumption | (constructor <;> omega) | exact den_i64 _ _ 0 | (split <;> first | assumption | exact den_i64 _ _ 0)) W
  obtain ⟨x36, hx36⟩ : ∃ x, x = wH (x9) := ⟨_, rfl⟩
  obtain ⟨x37, hx37⟩ : ∃ x, x = wL (x9) := ⟨_, rfl⟩
  have C15 : ∀ W, Calls Tryd.prog 24 #[.int .i64 x9] W fun e w' => e = .returned (.agg #[.int .i64 x36, .int .u64 x37]) ∧ Below W.heap.size W w' := fun W => by
    rw [hx36, hx37]; exact rof x9 (by first | assumption | (constructor <;> omega) | exact den_i64 _ _ 0 | (split <;> first | assumption | exact den_i64 _ _ 0)) W
  obtain ⟨x38, hx38⟩ : ∃ x, x = wH ((SX.AO.den .i64 0 x10 .sub)) := ⟨_, rfl⟩
  obtain ⟨x39, hx39⟩ : ∃ x, x = wL ((SX.AO.den .i64 0 x10 .sub)) := ⟨_, rfl⟩
  have ⟨_, _⟩ := den_i64 0 x10 0
  have C16 : ∀ W, Calls Tryd.prog 24 #[.int .i64 (SX.AO.den .i64 0 x10 .sub)] W fun e w' => e = .returned (.agg #[.int .i64 x38, .int .u64 x39]) ∧ Below W.heap.size W w' := fun W => by
    rw [hx38, hx39]; exact rof (SX.AO.den .i64 0 x10 .sub) (den_i64 _ _ 0) W
  obtain ⟨x40, hx40⟩ : ∃ x, x = wH ((x9 + (SX.AO.den .i64 0 x10 .sub))) := ⟨_, rfl⟩
  obtain ⟨x41, hx41⟩ : ∃ x, x = wL ((x9 + (SX.AO.den .i64 0 x10 .sub))) := ⟨_, rfl⟩
  have C17 : ∀ W, Calls Tryd.prog 23 #[.agg #[.int .i64 x36, .int .u64 x37], .agg #[.int .i64 x38, .int .u64 x39]] W fun e w' => e = .returned (.agg #[.int .i64 x40, .int .u64 x41]) ∧ Below W.heap.size W w' := fun W => by
    rw [hx40, hx41, hx36, hx37, hx38, hx39]; exact rplus x9 (SX.AO.den .i64 0 x10 .sub) (by constructor <;> omega) (by constructor <;> omega) (by constructor <;> omega) W
  obtain ⟨b42, hb42⟩ : ∃ x, x = betB (x9 + (SX.AO.den .i64 0 x10 .sub)) x14 x15 1 := ⟨_, rfl⟩
  have C18 : ∀ W, Calls Tryd.prog 22 #[.agg #[.int .i64 x40, .int .u64 x41], .int .i64 x14, .int .i64 x15, .int .i64 1] W fun e w' => e = .returned (.bool b42) ∧ Below W.heap.size W w' := fun W => by
    rw [hb42, hx40, hx41]; exact between_any (x9 + (SX.AO.den .i64 0 x10 .sub)) x14 x15 1 (by first | assumption | (constructor <;> omega) | exact den_i64 _ _ 0 | (split <;> first | assumption | exact den_i64 _ _ 0)) (by first | assumption | (constructor <;> omega) | exact den_i64 _ _ 0 | (split <;> first | assumption | exact den_i64 _ _ 0)) (by first | assumption | (constructor <;> omega) | exact den_i64 _ _ 0 | (split <;> first | assumption | exact den_i64 _ _ 0)) W
  obtain ⟨x43, hx43⟩ : ∃ x, x = wH ((x9 * x10)) := ⟨_, rfl⟩
  obtain ⟨x44, hx44⟩ : ∃ x, x = wL ((x9 * x10)) := ⟨_, rfl⟩
  have C19 : ∀ W, Calls Tryd.prog 25 #[.int .i64 x9, .int .i64 x10] W fun e w' => e = .returned (.agg #[.int .i64 x43, .int .u64 x44]) ∧ Below W.heap.size W w' := fun W => by
    rw [hx43, hx44]; exact rtimes x9 x10 (by first | assumption | (constructor <;> omega) | exact den_i64 _ _ 0 | (split <;> first | assumption | exact den_i64 _ _ 0)) (by first | assumption | (constructor <;> omega) | exact den_i64 _ _ 0 | (split <;> first | assumption | exact den_i64 _ _ 0)) W
  obtain ⟨b45, hb45⟩ : ∃ x, x = betB (x9 * x10) x17 x18 4294967296 := ⟨_, rfl⟩
  have C20 : ∀ W, Calls Tryd.prog 22 #[.agg #[.int .i64 x43, .int .u64 x44], .int .i64 x17, .int .i64 x18, .int .i64 4294967296] W fun e w' => e = .returned (.bool b45) ∧ Below W.heap.size W w' := fun W => by
    rw [hb45, hx43, hx44]; exact between_any (x9 * x10) x17 x18 4294967296 (by first | assumption | (constructor <;> omega) | exact den_i64 _ _ 0 | (split <;> first | assumption | exact den_i64 _ _ 0)) (by first | assumption | (constructor <;> omega) | exact den_i64 _ _ 0 | (split <;> first | assumption | exact den_i64 _ _ 0)) (by first | assumption | (constructor <;> omega) | exact den_i64 _ _ 0 | (split <;> first | assumption | exact den_i64 _ _ 0)) W
  obtain ⟨x46, hx46⟩ : ∃ x, x = wH ((x9 * x9)) := ⟨_, rfl⟩
  obtain ⟨x47, hx47⟩ : ∃ x, x = wL ((x9 * x9)) := ⟨_, rfl⟩
  have C21 : ∀ W, Calls Tryd.prog 25 #[.int .i64 x9, .int .i64 x9] W fun e w' => e = .returned (.agg #[.int .i64 x46, .int .u64 x47]) ∧ Below W.heap.size W w' := fun W => by
    rw [hx46, hx47]; exact rtimes x9 x9 (by first | assumption | (constructor <;> omega) | exact den_i64 _ _ 0 | (split <;> first | assumption | exact den_i64 _ _ 0)) (by first | assumption | (constructor <;> omega) | exact den_i64 _ _ 0 | (split <;> first | assumption | exact den_i64 _ _ 0)) W
  obtain ⟨b48, hb48⟩ : ∃ x, x = betB (x9 * x9) x23 x24 4294967296 := ⟨_, rfl⟩
  have C22 : ∀ W, Calls Tryd.prog 22 #[.agg #[.int .i64 x46, .int .u64 x47], .int .i64 x23, .int .i64 x24, .int .i64 4294967296] W fun e w' => e = .returned (.bool b48) ∧ Below W.heap.size W w' := fun W => by
    rw [hb48, hx46, hx47]; exact between_any (x9 * x9) x23 x24 4294967296 (by first | assumption | (constructor <;> omega) | exact den_i64 _ _ 0 | (split <;> first | assumption | exact den_i64 _ _ 0)) (by first | assumption | (constructor <;> omega) | exact den_i64 _ _ 0 | (split <;> first | assumption | exact den_i64 _ _ 0)) (by first | assumption | (constructor <;> omega) | exact den_i64 _ _ 0 | (split <;> first | assumption | exact den_i64 _ _ 0)) W
  obtain ⟨x49, hx49⟩ : ∃ x, x = wH ((x9 * x9)) := ⟨_, rfl⟩
  obtain ⟨x50, hx50⟩ : ∃ x, x = wL ((x9 * x9)) := ⟨_, rfl⟩
  have C23 : ∀ W, Calls Tryd.prog 25 #[.int .i64 x9, .int .i64 x9] W fun e w' => e = .returned (.agg #[.int .i64 x49, .int .u64 x50]) ∧ Below W.heap.size W w' := fun W => by
    rw [hx49, hx50]; exact rtimes x9 x9 (by first | assumption | (constructor <;> omega) | exact den_i64 _ _ 0 | (split <;> first | assumption | exact den_i64 _ _ 0)) (by first | assumption | (constructor <;> omega) | exact den_i64 _ _ 0 | (split <;> first | assumption | exact den_i64 _ _ 0)) W
  obtain ⟨b51, hb51⟩ : ∃ x, x = betB (x9 * x9) x23 x24 4294967296 := ⟨_, rfl⟩
  have C24 : ∀ W, Calls Tryd.prog 22 #[.agg #[.int .i64 x49, .int .u64 x50], .int .i64 x23, .int .i64 x24, .int .i64 4294967296] W fun e w' => e = .returned (.bool b51) ∧ Below W.heap.size W w' := fun W => by
    rw [hb51, hx49, hx50]; exact between_any (x9 * x9) x23 x24 4294967296 (by first | assumption | (constructor <;> omega) | exact den_i64 _ _ 0 | (split <;> first | assumption | exact den_i64 _ _ 0)) (by first | assumption | (constructor <;> omega) | exact den_i64 _ _ 0 | (split <;> first | assumption | exact den_i64 _ _ 0)) (by first | assumption | (constructor <;> omega) | exact den_i64 _ _ 0 | (split <;> first | assumption | exact den_i64 _ _ 0)) W
  obtain ⟨x52, hx52⟩ : ∃ x, x = wH (x9) := ⟨_, rfl⟩
  obtain ⟨x53, hx53⟩ : ∃ x, x = wL (x9) := ⟨_, rfl⟩
  have C25 : ∀ W, Calls Tryd.prog 24 #[.int .i64 x9] W fun e w' => e = .returned (.agg #[.int .i64 x52, .int .u64 x53]) ∧ Below W.heap.size W w' := fun W => by
    rw [hx52, hx53]; exact rof x9 (by first | assumption | (constructor <;> omega) | exact den_i64 _ _ 0 | (split <;> first | assumption | exact den_i64 _ _ 0)) W
  obtain ⟨x54, hx54⟩ : ∃ x, x = wH ((x9 * 4294967296)) := ⟨_, rfl⟩
  obtain ⟨x55, hx55⟩ : ∃ x, x = wL ((x9 * 4294967296)) := ⟨_, rfl⟩
  have C26 : ∀ W, Calls Tryd.prog 26 #[.agg #[.int .i64 x52, .int .u64 x53], .int .i64 32] W fun e w' => e = .returned (.agg #[.int .i64 x54, .int .u64 x55]) ∧ Below W.heap.size W w' := fun W => by
    rw [hx54, hx55, hx52, hx53]; exact rup32 x9 (by constructor <;> omega) W
  obtain ⟨b56, hb56⟩ : ∃ x, x = betB (x9 * 4294967296) (if (decide (x10 < 0)) = true then (SX.AO.den .i64 0 x21 .sub) else x20) (if (decide (x10 < 0)) = true then (SX.AO.den .i64 0 x20 .sub) else x21) (if (decide (x10 < 0)) = true then (SX.AO.den .i64 0 x10 .sub) else x10) := ⟨_, rfl⟩
  have C27 : ∀ W, Calls Tryd.prog 22 #[.agg #[.int .i64 x54, .int .u64 x55], .int .i64 (if (decide (x10 < 0)) = true then (SX.AO.den .i64 0 x21 .sub) else x20), .int .i64 (if (decide (x10 < 0)) = true then (SX.AO.den .i64 0 x20 .sub) else x21), .int .i64 (if (decide (x10 < 0)) = true then (SX.AO.den .i64 0 x10 .sub) else x10)] W fun e w' => e = .returned (.bool b56) ∧ Below W.heap.size W w' := fun W => by
    rw [hb56, hx54, hx55]; exact between_any (x9 * 4294967296) (if (decide (x10 < 0)) = true then (SX.AO.den .i64 0 x21 .sub) else x20) (if (decide (x10 < 0)) = true then (SX.AO.den .i64 0 x20 .sub) else x21) (if (decide (x10 < 0)) = true then (SX.AO.den .i64 0 x10 .sub) else x10) (by first | assumption | (constructor <;> omega) | exact den_i64 _ _ 0 | (split <;> first | assumption | exact den_i64 _ _ 0)) (by first | assumption | (constructor <;> omega) | exact den_i64 _ _ 0 | (split <;> first | assumption | exact den_i64 _ _ 0)) (by first | assumption | (constructor <;> omega) | exact den_i64 _ _ 0 | (split <;> first | assumption | exact den_i64 _ _ 0)) W
  obtain ⟨x57, hx57⟩ : ∃ x, x = wH (x9) := ⟨_, rfl⟩
  obtain ⟨x58, hx58⟩ : ∃ x, x = wL (x9) := ⟨_, rfl⟩
  have C28 : ∀ W, Calls Tryd.prog 24 #[.int .i64 x9] W fun e w' => e = .returned (.agg #[.int .i64 x57, .int .u64 x58]) ∧ Below W.heap.size W w' := fun W => by
    rw [hx57, hx58]; exact rof x9 (by first | assumption | (constructor <;> omega) | exact den_i64 _ _ 0 | (split <;> first | assumption | exact den_i64 _ _ 0)) W
  obtain ⟨x59, hx59⟩ : ∃ x, x = wH ((x9 * 4294967296)) := ⟨_, rfl⟩
  obtain ⟨x60, hx60⟩ : ∃ x, x = wL ((x9 * 4294967296)) := ⟨_, rfl⟩
  have C29 : ∀ W, Calls Tryd.prog 26 #[.agg #[.int .i64 x57, .int .u64 x58], .int .i64 32] W fun e w' => e = .returned (.agg #[.int .i64 x59, .int .u64 x60]) ∧ Below W.heap.size W w' := fun W => by
    rw [hx59, hx60, hx57, hx58]; exact rup32 x9 (by constructor <;> omega) W
  obtain ⟨x61, hx61⟩ : ∃ x, x = wH ((x26 * x26)) := ⟨_, rfl⟩
  obtain ⟨x62, hx62⟩ : ∃ x, x = wL ((x26 * x26)) := ⟨_, rfl⟩
  have C30 : ∀ W, Calls Tryd.prog 25 #[.int .i64 x26, .int .i64 x26] W fun e w' => e = .returned (.agg #[.int .i64 x61, .int .u64 x62]) ∧ Below W.heap.size W w' := fun W => by
    rw [hx61, hx62]; exact rtimes x26 x26 (by first | assumption | (constructor <;> omega) | exact den_i64 _ _ 0 | (split <;> first | assumption | exact den_i64 _ _ 0)) (by first | assumption | (constructor <;> omega) | exact den_i64 _ _ 0 | (split <;> first | assumption | exact den_i64 _ _ 0)) W
  obtain ⟨b63, hb63⟩ : ∃ x, x = decide ((x9 * 4294967296) < (x26 * x26)) := ⟨_, rfl⟩
  have C31 : ∀ W, Calls Tryd.prog 27 #[.agg #[.int .i64 x59, .int .u64 x60], .agg #[.int .i64 x61, .int .u64 x62]] W fun e w' => e = .returned (.bool b63) ∧ Below W.heap.size W w' := fun W => by
    rw [hb63, hx59, hx60, hx61, hx62]; exact rless (x9 * 4294967296) (x26 * x26) W
  obtain ⟨x64, hx64⟩ : ∃ x, x = wH ((x27 * x27)) := ⟨_, rfl⟩
  obtain ⟨x65, hx65⟩ : ∃ x, x = wL ((x27 * x27)) := ⟨_, rfl⟩
  have C32 : ∀ W, Calls Tryd.prog 25 #[.int .i64 x27, .int .i64 x27] W fun e w' => e = .returned (.agg #[.int .i64 x64, .int .u64 x65]) ∧ Below W.heap.size W w' := fun W => by
    rw [hx64, hx65]; exact rtimes x27 x27 (by first | assumption | (constructor <;> omega) | exact den_i64 _ _ 0 | (split <;> first | assumption | exact den_i64 _ _ 0)) (by first | assumption | (constructor <;> omega) | exact den_i64 _ _ 0 | (split <;> first | assumption | exact den_i64 _ _ 0)) W
  obtain ⟨b66, hb66⟩ : ∃ x, x = decide ((x27 * x27) < (x9 * 4294967296)) := ⟨_, rfl⟩
  have C33 : ∀ W, Calls Tryd.prog 27 #[.agg #[.int .i64 x64, .int .u64 x65], .agg #[.int .i64 x59, .int .u64 x60]] W fun e w' => e = .returned (.bool b66) ∧ Below W.heap.size W w' := fun W => by
    rw [hb66, hx64, hx65, hx59, hx60]; exact rless (x27 * x27) (x9 * 4294967296) W
  let ε : SX.Env := ⟨fun n => [al, ah, bl, bh, y, z, 0, x7, x8, x9, x10, x11, x12, x13, x14, x15, x16, x17, x18, x19, x20, x21, x22, x23, x24, x25, x26, x27, x28, x29, x30, x31, x32, x33, x34, 0, x36, x37, x38, x39, x40, x41, 0, x43, x44, 0, x46, x47, 0, x49, x50, 0, x52, x53, x54, x55, 0, x57, x58, x59, x60, x61, x62, 0, x64, x65, 0].getD n 0, fun n => [false, false, false, false, false, false, b6, false, false, false, false, false, false, false, false, false, false, false, false, false, false, false, false, false, false, false, false, false, false, false, false, false, false, false, false, b35, false, false, false, false, false, false, b42, false, false, b45, false, false, b48, false, false, b51, false, false, false, false, b56, false, false, false, false, false, false, b63, false, false, b66].getD n false, fun _ => none, fun _ => 0, fun _ => 0⟩
  have key : (if (if (x7 != 0) = true then true else (if (x8 != 0) = true then true else (!b6))) = true then b6 else (if (if (x13 == 0) = true then (!b35) else false) = true then false else (if (if (x16 == 0) = true then (!b42) else false) = true then false else (if (if (x19 == 0) = true then (if (!b45) = true then true else (if (x25 == 0) = true then (!b48) else false)) else (if (x25 == 0) = true then (!b51) else false)) = true then false else (if (if (x22 == 0) = true then b56 else true) = true then (if (if (x28 != 0) = true then true else (decide (x9 < 0))) = true then b6 else (if b6 = true then (if (!b63) = true then (!b66) else false) else false)) else false))))) = true := by
    subst hb6
    by_cases vv : vB al ah = true ∧ vB bl bh = true
    case neg =>
      have hv : x7 ≠ 0 ∨ x8 ≠ 0 := by
        rw [hx7, hx8]; unfold chkI
        cases v1 : vB al ah <;> cases v2 : vB bl bh <;> simp_all
      rcases hv with h | h
      · simp [h]
      · by_cases h7 : x7 = 0 <;> simp [h, h7]
    obtain ⟨va, vb⟩ := vv
    have ⟨va1, va2⟩ := vB_tt va
    have ⟨vb1, vb2⟩ := vB_tt vb
    have p_x9 : al ≤ x9 ∧ x9 ≤ ah := by rw [hx9]; exact pick_in y va1 va2 ah1
    have p_x10 : bl ≤ x10 ∧ x10 ≤ bh := by rw [hx10]; exact pick_in z vb1 vb2 bh1
    have nd := neg_den x10 (by omega) (by omega)
    have e7 : x7 = 0 := by rw [hx7]; unfold chkI; rw [va]; rfl
    have e8 : x8 = 0 := by rw [hx8]; unfold chkI; rw [vb]; rfl
    rw [va, vb] at hx11 hx12 hx13 hx14 hx15 hx16 hx17 hx18 hx19 hx20 hx21 hx22
    rw [va] at hx23 hx24 hx25 hx26 hx27 hx28
    have k1 : (if (x13 == 0) = true then (!b35) else false) = false := by
      by_cases c : x13 = 0
      · obtain ⟨e1, e2⟩ := ok_two hx11 hx12 hx13 c
        rw [hb35, betB_t (by omega) (by omega)]; simp
      · simp [c]
    have k2 : (if (x16 == 0) = true then (!b42) else false) = false := by
      by_cases c : x16 = 0
      · obtain ⟨e1, e2⟩ := ok_two hx14 hx15 hx16 c
        rw [hb42, nd, betB_t (by omega) (by omega)]; simp
      · simp [c]
    have k3 : x19 = 0 → b45 = true := fun c => by
      obtain ⟨e1, e2⟩ := ok_two hx17 hx18 hx19 c
      rw [hb45]
      exact betB_t (by rw [e1]; exact mul_low p_x9.1 p_x9.2 p_x10.1 p_x10.2) (by rw [e2]; exact mul_high p_x9.1 p_x9.2 p_x10.1 p_x10.2)
    have k4 : x25 = 0 → b48 = true ∧ b51 = true := fun c => by
      obtain ⟨e1, e2⟩ := ok_one hx23 hx24 hx25 c
      have := sq_low2 p_x9.1 p_x9.2
      have := sq_high2 p_x9.1 p_x9.2
      rw [hb48, hb51]
      exact ⟨betB_t (by rw [e1]; omega) (by rw [e2]; omega), betB_t (by rw [e1]; omega) (by rw [e2]; omega)⟩
    have k5 : (if (x22 == 0) = true then b56 else true) = true := by
      by_cases c : x22 = 0
      · rw [if_pos (by simp [c]), hb56]
        have zb : zB bl bh = false := by
          cases hz9 : zB bl bh
          · rfl
          · rw [hz9] at hx22; rw [hx22] at c; simp [errE, zE] at c
        rw [zb] at hx20 hx21 hx22
        obtain ⟨e1, e2⟩ := ok_two (x := x20) (y := x21) (e := x22) hx20 hx21 hx22 c
        have nz := of_decide_eq_false zb
        by_cases hs : x10 < 0
        · have hbh : bh < 0 := by omega
          have d := div_neg p_x9.1 p_x9.2 p_x10.1 p_x10.2 hbh
          have f1 : fits x20 x21 = true := by
            rw [e1, e2]
            cases hf : fits (mi (dL al bl bh) (dL ah bl bh)) (mx (dH al bl bh) (dH ah bl bh))
            · rw [hx22, (z_f _).2, (out_f hf).2.2] at c; simp [errE] at c
            · rfl
          simp only [fits, decide_eq_true_eq] at f1
          rw [if_pos (by simp [hs]), if_pos (by simp [hs]), if_pos (by simp [hs]), neg_den x21 (by omega) (by omega), neg_den x20 (by omega) (by omega), neg_den x10 (by omega) (by omega), e1, e2]
          exact betB_t d.1 d.2
        · have hbl : 0 < bl := by omega
          have d := div_pos p_x9.1 p_x9.2 p_x10.1 p_x10.2 hbl
          rw [if_neg (by simp; omega), if_neg (by simp; omega), if_neg (by simp; omega), e1, e2]
          exact betB_t d.1 d.2
      · rw [if_neg (by simp [c])]
    have k6 : x28 = 0 → 0 ≤ x9 → b63 = false ∧ b66 = false := fun c h0 => by
      have hah : ¬ ah < 0 := fun h => by rw [hx28, (ro_t (al := al) h).2.2] at c; simp [errE] at c
      have r1 := roL_low (al := al) hah p_x9.1 h0
      have r2 := roH_high hah p_x9.2
      rw [ok_t] at hx26 hx27
      rw [hb63, hb66, hx26, hx27]
      exact ⟨decide_eq_false (by omega), decide_eq_false (by omega)⟩
    rw [e7, e8, k1, k2, k5]
    by_cases c1 : x19 = 0 <;> by_cases c2 : x25 = 0 <;> by_cases c3 : x28 = 0 <;> by_cases c4 : x9 < 0 <;> simp_all <;> (try omega)

  have R := SX.reads_of (P := Tryd.prog) (by kernel_rfl) SX.holds_r ε w (by
    simp only [SX.holds_o, List.forall_mem_cons]
    exact ⟨fun _ W _ => C0 W,
      fun _ W _ => C1 W,
      fun _ W _ => C2 W,
      fun _ W _ => C3 W,
      fun _ W _ => C4 W,
      fun _ W _ => C5 W,
      fun _ W _ => C6 W,
      fun _ W _ => C7 W,
      fun _ W _ => C8 W,
      fun _ W _ => C9 W,
      fun _ W _ => C10 W,
      fun _ W _ => C11 W,
      fun _ W _ => C12 W,
      fun _ W _ => C13 W,
      fun _ W _ => C14 W,
      fun _ W _ => C15 W,
      fun _ W _ => C16 W,
      fun _ W _ => C17 W,
      fun _ W _ => C18 W,
      fun _ W _ => C19 W,
      fun _ W _ => C20 W,
      fun _ W _ => C21 W,
      fun _ W _ => C22 W,
      fun _ W _ => C23 W,
      fun _ W _ => C24 W,
      fun _ W _ => C25 W,
      fun _ W _ => C26 W,
      fun _ W _ => C27 W,
      fun _ W _ => C28 W,
      fun _ W _ => C29 W,
      fun _ W _ => C30 W,
      fun _ W _ => C31 W,
      fun _ W _ => C32 W,
      fun _ W _ => C33 W, by simp⟩)
  refine R.mono fun e w' ⟨h1, h2⟩ => ⟨h1.trans (congrArg Ending.returned (congrArg Value.bool key)), h2⟩
end lawSpanHolds
end Go.Proofs.YtlcbcanlehackaaDoor
