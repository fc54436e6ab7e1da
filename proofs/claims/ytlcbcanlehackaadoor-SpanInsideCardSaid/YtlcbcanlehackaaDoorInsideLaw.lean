/- The law of parts of spans. -/
import Derived.Test.YtlcbcanlehackaaDoorHoldsM
import Derived.Test.YtlcbcanlehackaaDoorMul
import Derived.Test.YtlcbcanlehackaaDoorRDivN
import Derived.Test.YtlcbcanlehackaaDoorSum
import Derived.Test.YtlcbcanlehackaaDoorSets
import Derived.Test.YtlcbcanlehackaaDoorInsideM
set_option linter.unusedVariables false
set_option linter.unusedSimpArgs false
namespace Go.Proofs.YtlcbcanlehackaaDoor
open Go.RowKit
namespace lawSpanInside
set_option maxRecDepth 100000 in
set_option maxHeartbeats 4000000 in
theorem walk0 (al ah bl bh y1 y2 y3 y4 : Int) (i0 : I64 al) (j0 : I64 ah) (i1 : I64 bl) (j1 : I64 bh) (hy1 : 0 ≤ y1) (hy2 : 0 ≤ y2) (hy3 : 0 ≤ y3) (hy4 : 0 ≤ y4)  (w : World) : Calls Tryd.prog 5 #[.agg #[.int .i64 al, .int .i64 ah], .agg #[.int .i64 bl, .int .i64 bh], .agg #[.int .u64 y1, .int .u64 y2, .int .u64 y3, .int .u64 y4]] w fun e w' => e = .returned (.bool true) ∧ Below w.heap.size w w' := by
  have ⟨al0, al1⟩ := i0
  have ⟨ah0, ah1⟩ := j0
  have ⟨bl0, bl1⟩ := i1
  have ⟨bh0, bh1⟩ := j1
  obtain ⟨b8, hb8⟩ : ∃ x, x = true := ⟨_, rfl⟩
  have C0 : ∀ W, Calls Tryd.prog 13 #[] W fun e w' => e = .returned (.bool b8) ∧ Below W.heap.size W w' := fun W => by
    rw [hb8]; exact alive_any W
  obtain ⟨x9, hx9⟩ : ∃ x, x = chkI al ah := ⟨_, rfl⟩
  have C1 : ∀ W, Calls Tryd.prog 14 #[.agg #[.int .i64 al, .int .i64 ah]] W fun e w' => e = .returned (.int .i64 x9) ∧ Below W.heap.size W w' := fun W => by
    rw [hx9]; exact check_any al ah (by omega) W
  obtain ⟨x10, hx10⟩ : ∃ x, x = chkI bl bh := ⟨_, rfl⟩
  have C2 : ∀ W, Calls Tryd.prog 14 #[.agg #[.int .i64 bl, .int .i64 bh]] W fun e w' => e = .returned (.int .i64 x10) ∧ Below W.heap.size W w' := fun W => by
    rw [hx10]; exact check_any bl bh (by omega) W
  obtain ⟨x11, hx11⟩ : ∃ x, x = mi (pickI al ah y1) (pickI al ah y2) := ⟨_, rfl⟩
  obtain ⟨x12, hx12⟩ : ∃ x, x = mx (pickI al ah y1) (pickI al ah y2) := ⟨_, rfl⟩
  have i_x11 : I64 x11 := by rw [hx11]; exact mi_i64 (pick_i64 _ _ (by assumption)) (pick_i64 _ _ (by assumption))
  have i_x12 : I64 x12 := by rw [hx12]; exact mx_i64 (pick_i64 _ _ (by assumption)) (pick_i64 _ _ (by assumption))
  have C3 : ∀ W, Calls Tryd.prog 28 #[.agg #[.int .i64 al, .int .i64 ah], .agg #[.int .u64 y1, .int .u64 y2]] W fun e w' => e = .returned (.agg #[.int .i64 x11, .int .i64 x12]) ∧ Below W.heap.size W w' := fun W => by
    rw [hx11, hx12]; exact inner_any al ah y1 y2 (by omega) (by omega) W
  obtain ⟨x13, hx13⟩ : ∃ x, x = mi (pickI bl bh y3) (pickI bl bh y4) := ⟨_, rfl⟩
  obtain ⟨x14, hx14⟩ : ∃ x, x = mx (pickI bl bh y3) (pickI bl bh y4) := ⟨_, rfl⟩
  have i_x13 : I64 x13 := by rw [hx13]; exact mi_i64 (pick_i64 _ _ (by assumption)) (pick_i64 _ _ (by assumption))
  have i_x14 : I64 x14 := by rw [hx14]; exact mx_i64 (pick_i64 _ _ (by assumption)) (pick_i64 _ _ (by assumption))
  have C4 : ∀ W, Calls Tryd.prog 28 #[.agg #[.int .i64 bl, .int .i64 bh], .agg #[.int .u64 y3, .int .u64 y4]] W fun e w' => e = .returned (.agg #[.int .i64 x13, .int .i64 x14]) ∧ Below W.heap.size W w' := fun W => by
    rw [hx13, hx14]; exact inner_any bl bh y3 y4 (by omega) (by omega) W
  obtain ⟨x15, hx15⟩ : ∃ x, x = okI (vB x11 x12 && vB x13 x14) (oLo (x11 + x13) (x12 + x14)) := ⟨_, rfl⟩
  obtain ⟨x16, hx16⟩ : ∃ x, x = okI (vB x11 x12 && vB x13 x14) (oHi (x11 + x13) (x12 + x14)) := ⟨_, rfl⟩
  obtain ⟨x17, hx17⟩ : ∃ x, x = errE (vB x11 x12 && vB x13 x14) (oE (x11 + x13) (x12 + x14)) := ⟨_, rfl⟩
  have i_x15 : I64 x15 := by rw [hx15]; exact okLo_i64 _ _ _
  have i_x16 : I64 x16 := by rw [hx16]; exact okHi_i64 _ _ _
  have C5 : ∀ W, Calls Tryd.prog 16 #[.agg #[.int .i64 x11, .int .i64 x12], .agg #[.int .i64 x13, .int .i64 x14]] W fun e w' => e = .returned (.tuple #[.agg #[.int .i64 x15, .int .i64 x16], .int .i64 x17]) ∧ Below W.heap.size W w' := fun W => by
    rw [hx15, hx16, hx17]; exact add_any x11 x12 x13 x14 (by first | assumption | (constructor <;> omega) | exact den_i64 _ _ 0 | (split <;> first | assumption | exact den_i64 _ _ 0)) (by first | assumption | (constructor <;> omega) | exact den_i64 _ _ 0 | (split <;> first | assumption | exact den_i64 _ _ 0)) (by first | assumption | (constructor <;> omega) | exact den_i64 _ _ 0 | (split <;> first | assumption | exact den_i64 _ _ 0)) (by first | assumption | (constructor <;> omega) | exact den_i64 _ _ 0 | (split <;> first | assumption | exact den_i64 _ _ 0)) W
  obtain ⟨x18, hx18⟩ : ∃ x, x = okI (vB al ah && vB bl bh) (oLo (al + bl) (ah + bh)) := ⟨_, rfl⟩
  obtain ⟨x19, hx19⟩ : ∃ x, x = okI (vB al ah && vB bl bh) (oHi (al + bl) (ah + bh)) := ⟨_, rfl⟩
  obtain ⟨x20, hx20⟩ : ∃ x, x = errE (vB al ah && vB bl bh) (oE (al + bl) (ah + bh)) := ⟨_, rfl⟩
  have i_x18 : I64 x18 := by rw [hx18]; exact okLo_i64 _ _ _
  have i_x19 : I64 x19 := by rw [hx19]; exact okHi_i64 _ _ _
  have C6 : ∀ W, Calls Tryd.prog 16 #[.agg #[.int .i64 al, .int .i64 ah], .agg #[.int .i64 bl, .int .i64 bh]] W fun e w' => e = .returned (.tuple #[.agg #[.int .i64 x18, .int .i64 x19], .int .i64 x20]) ∧ Below W.heap.size W w' := fun W => by
    rw [hx18, hx19, hx20]; exact add_any al ah bl bh (by first | assumption | (constructor <;> omega) | exact den_i64 _ _ 0 | (split <;> first | assumption | exact den_i64 _ _ 0)) (by first | assumption | (constructor <;> omega) | exact den_i64 _ _ 0 | (split <;> first | assumption | exact den_i64 _ _ 0)) (by first | assumption | (constructor <;> omega) | exact den_i64 _ _ 0 | (split <;> first | assumption | exact den_i64 _ _ 0)) (by first | assumption | (constructor <;> omega) | exact den_i64 _ _ 0 | (split <;> first | assumption | exact den_i64 _ _ 0)) W
  obtain ⟨b21, hb21⟩ : ∃ x, x = if (x20 != 0) = true then true else if (x17 == 0) = true then withinB x15 x16 x18 x19 else false := ⟨_, rfl⟩
  have C7 : ∀ W, Calls Tryd.prog 32 #[.agg #[.int .i64 x15, .int .i64 x16], .int .i64 x17, .agg #[.int .i64 x18, .int .i64 x19], .int .i64 x20] W fun e w' => e = .returned (.bool b21) ∧ Below W.heap.size W w' := fun W => by
    rw [hb21]; exact lwithin_any x15 x16 x17 x18 x19 x20 (by first | omega | exact i64_low (by assumption)) (by first | omega | exact i64_low (by assumption)) W
  obtain ⟨x22, hx22⟩ : ∃ x, x = okI (vB x11 x12 && vB x13 x14) (oLo (x11 - x14) (x12 - x13)) := ⟨_, rfl⟩
  obtain ⟨x23, hx23⟩ : ∃ x, x = okI (vB x11 x12 && vB x13 x14) (oHi (x11 - x14) (x12 - x13)) := ⟨_, rfl⟩
  obtain ⟨x24, hx24⟩ : ∃ x, x = errE (vB x11 x12 && vB x13 x14) (oE (x11 - x14) (x12 - x13)) := ⟨_, rfl⟩
  have i_x22 : I64 x22 := by rw [hx22]; exact okLo_i64 _ _ _
  have i_x23 : I64 x23 := by rw [hx23]; exact okHi_i64 _ _ _
  have C8 : ∀ W, Calls Tryd.prog 17 #[.agg #[.int .i64 x11, .int .i64 x12], .agg #[.int .i64 x13, .int .i64 x14]] W fun e w' => e = .returned (.tuple #[.agg #[.int .i64 x22, .int .i64 x23], .int .i64 x24]) ∧ Below W.heap.size W w' := fun W => by
    rw [hx22, hx23, hx24]; exact sub_any x11 x12 x13 x14 (by first | assumption | (constructor <;> omega) | exact den_i64 _ _ 0 | (split <;> first | assumption | exact den_i64 _ _ 0)) (by first | assumption | (constructor <;> omega) | exact den_i64 _ _ 0 | (split <;> first | assumption | exact den_i64 _ _ 0)) (by first | assumption | (constructor <;> omega) | exact den_i64 _ _ 0 | (split <;> first | assumption | exact den_i64 _ _ 0)) (by first | assumption | (constructor <;> omega) | exact den_i64 _ _ 0 | (split <;> first | assumption | exact den_i64 _ _ 0)) W
  obtain ⟨x25, hx25⟩ : ∃ x, x = okI (vB al ah && vB bl bh) (oLo (al - bh) (ah - bl)) := ⟨_, rfl⟩
  obtain ⟨x26, hx26⟩ : ∃ x, x = okI (vB al ah && vB bl bh) (oHi (al - bh) (ah - bl)) := ⟨_, rfl⟩
  obtain ⟨x27, hx27⟩ : ∃ x, x = errE (vB al ah && vB bl bh) (oE (al - bh) (ah - bl)) := ⟨_, rfl⟩
  have i_x25 : I64 x25 := by rw [hx25]; exact okLo_i64 _ _ _
  have i_x26 : I64 x26 := by rw [hx26]; exact okHi_i64 _ _ _
  have C9 : ∀ W, Calls Tryd.prog 17 #[.agg #[.int .i64 al, .int .i64 ah], .agg #[.int .i64 bl, .int .i64 bh]] W fun e w' => e = .returned (.tuple #[.agg #[.int .i64 x25, .int .i64 x26], .int .i64 x27]) ∧ Below W.heap.size W w' := fun W => by
    rw [hx25, hx26, hx27]; exact sub_any al ah bl bh (by first | assumption | (constructor <;> omega) | exact den_i64 _ _ 0 | (split <;> first | assumption | exact den_i64 _ _ 0)) (by first | assumption | (constructor <;> omega) | exact den_i64 _ _ 0 | (split <;> first | assumption | exact den_i64 _ _ 0)) (by first | assumption | (constructor <;> omega) | exact den_i64 _ _ 0 | (split <;> first | assumption | exact den_i64 _ _ 0)) (by first | assumption | (constructor <;> omega) | exact den_i64 _ _ 0 | (split <;> first | assumption | exact den_i64 _ _ 0)) W
  obtain ⟨b28, hb28⟩ : ∃ x, x = if (x27 != 0) = true then true else if (x24 == 0) = true then withinB x22 x23 x25 x26 else false := ⟨_, rfl⟩
  have C10 : ∀ W, Calls Tryd.prog 32 #[.agg #[.int .i64 x22, .int .i64 x23], .int .i64 x24, .agg #[.int .i64 x25, .int .i64 x26], .int .i64 x27] W fun e w' => e = .returned (.bool b28) ∧ Below W.heap.size W w' := fun W => by
    rw [hb28]; exact lwithin_any x22 x23 x24 x25 x26 x27 (by first | omega | exact i64_low (by assumption)) (by first | omega | exact i64_low (by assumption)) W
  obtain ⟨x29, hx29⟩ : ∃ x, x = okI (vB x11 x12 && vB x13 x14) (oLo (mi (mL x11 x13 x14) (mL x12 x13 x14)) (mx (mH x11 x13 x14) (mH x12 x13 x14))) := ⟨_, rfl⟩
  obtain ⟨x30, hx30⟩ : ∃ x, x = okI (vB x11 x12 && vB x13 x14) (oHi (mi (mL x11 x13 x14) (mL x12 x13 x14)) (mx (mH x11 x13 x14) (mH x12 x13 x14))) := ⟨_, rfl⟩
  obtain ⟨x31, hx31⟩ : ∃ x, x = errE (vB x11 x12 && vB x13 x14) (oE (mi (mL x11 x13 x14) (mL x12 x13 x14)) (mx (mH x11 x13 x14) (mH x12 x13 x14))) := ⟨_, rfl⟩
  have i_x29 : I64 x29 := by rw [hx29]; exact okLo_i64 _ _ _
  have i_x30 : I64 x30 := by rw [hx30]; exact okHi_i64 _ _ _
  have C11 : ∀ W, Calls Tryd.prog 18 #[.agg #[.int .i64 x11, .int .i64 x12], .agg #[.int .i64 x13, .int .i64 x14]] W fun e w' => e = .returned (.tuple #[.agg #[.int .i64 x29, .int .i64 x30], .int .i64 x31]) ∧ Below W.heap.size W w' := fun W => by
    rw [hx29, hx30, hx31]; exact mul_any x11 x12 x13 x14 (by first | assumption | (constructor <;> omega) | exact den_i64 _ _ 0 | (split <;> first | assumption | exact den_i64 _ _ 0)) (by first | assumption | (constructor <;> omega) | exact den_i64 _ _ 0 | (split <;> first | assumption | exact den_i64 _ _ 0)) (by first | assumption | (constructor <;> omega) | exact den_i64 _ _ 0 | (split <;> first | assumption | exact den_i64 _ _ 0)) (by first | assumption | (constructor <;> omega) | exact den_i64 _ _ 0 | (split <;> first | assumption | exact den_i64 _ _ 0)) W
  obtain ⟨x32, hx32⟩ : ∃ x, x = okI (vB al ah && vB bl bh) (oLo (mi (mL al bl bh) (mL ah bl bh)) (mx (mH al bl bh) (mH ah bl bh))) := ⟨_, rfl⟩
  obtain ⟨x33, hx33⟩ : ∃ x, x = okI (vB al ah && vB bl bh) (oHi (mi (mL al bl bh) (mL ah bl bh)) (mx (mH al bl bh) (mH ah bl bh))) := ⟨_, rfl⟩
  obtain ⟨x34, hx34⟩ : ∃ x, x = errE (vB al ah && vB bl bh) (oE (mi (mL al bl bh) (mL ah bl bh)) (mx (mH al bl bh) (mH ah bl bh))) := ⟨_, rfl⟩
  have i_x32 : I64 x32 := by rw [hx32]; exact okLo_i64 _ _ _
  have i_x33 : I64 x33 := by rw [hx33]; exact okHi_i64 _ _ _
  have C12 : ∀ W, Calls Tryd.prog 18 #[.agg #[.int .i64 al, .int .i64 ah], .agg #[.int .i64 bl, .int .i64 bh]] W fun e w' => e = .returned (.tuple #[.agg #[.int .i64 x32, .int .i64 x33], .int .i64 x34]) ∧ Below W.heap.size W w' := fun W => by
    rw [hx32, hx33, hx34]; exact mul_any al ah bl bh (by first | assumption | (constructor <;> omega) | exact den_i64 _ _ 0 | (split <;> first | assumption | exact den_i64 _ _ 0)) (by first | assumption | (constructor <;> omega) | exact den_i64 _ _ 0 | (split <;> first | assumption | exact den_i64 _ _ 0)) (by first | assumption | (constructor <;> omega) | exact den_i64 _ _ 0 | (split <;> first | assumption | exact den_i64 _ _ 0)) (by first | assumption | (constructor <;> omega) | exact den_i64 _ _ 0 | (split <;> first | assumption | exact den_i64 _ _ 0)) W
  obtain ⟨b35, hb35⟩ : ∃ x, x = if (x34 != 0) = true then true else if (x31 == 0) = true then withinB x29 x30 x32 x33 else false := ⟨_, rfl⟩
  have C13 : ∀ W, Calls Tryd.prog 32 #[.agg #[.int .i64 x29, .int .i64 x30], .int .i64 x31, .agg #[.int .i64 x32, .int .i64 x33], .int .i64 x34] W fun e w' => e = .returned (.bool b35) ∧ Below W.heap.size W w' := fun W => by
    rw [hb35]; exact lwithin_any x29 x30 x31 x32 x33 x34 (by first | omega | exact i64_low (by assumption)) (by first | omega | exact i64_low (by assumption)) W
  obtain ⟨x36, hx36⟩ : ∃ x, x = okI (vB x11 x12 && vB x13 x14) (zI (zB x13 x14) (oLo (mi (dL x11 x13 x14) (dL x12 x13 x14)) (mx (dH x11 x13 x14) (dH x12 x13 x14)))) := ⟨_, rfl⟩
  obtain ⟨x37, hx37⟩ : ∃ x, x = okI (vB x11 x12 && vB x13 x14) (zI (zB x13 x14) (oHi (mi (dL x11 x13 x14) (dL x12 x13 x14)) (mx (dH x11 x13 x14) (dH x12 x13 x14)))) := ⟨_, rfl⟩
  obtain ⟨x38, hx38⟩ : ∃ x, x = errE (vB x11 x12 && vB x13 x14) (zE (zB x13 x14) (oE (mi (dL x11 x13 x14) (dL x12 x13 x14)) (mx (dH x11 x13 x14) (dH x12 x13 x14)))) := ⟨_, rfl⟩
  have i_x36 : I64 x36 := by rw [hx36]; exact okzLo_i64 _ _ _ _
  have i_x37 : I64 x37 := by rw [hx37]; exact okzHi_i64 _ _ _ _
  have C14 : ∀ W, Calls Tryd.prog 19 #[.agg #[.int .i64 x11, .int .i64 x12], .agg #[.int .i64 x13, .int .i64 x14]] W fun e w' => e = .returned (.tuple #[.agg #[.int .i64 x36, .int .i64 x37], .int .i64 x38]) ∧ Below W.heap.size W w' := fun W => by
    rw [hx36, hx37, hx38]; exact div_any x11 x12 x13 x14 (by first | assumption | (constructor <;> omega) | exact den_i64 _ _ 0 | (split <;> first | assumption | exact den_i64 _ _ 0)) (by first | assumption | (constructor <;> omega) | exact den_i64 _ _ 0 | (split <;> first | assumption | exact den_i64 _ _ 0)) (by first | assumption | (constructor <;> omega) | exact den_i64 _ _ 0 | (split <;> first | assumption | exact den_i64 _ _ 0)) (by first | assumption | (constructor <;> omega) | exact den_i64 _ _ 0 | (split <;> first | assumption | exact den_i64 _ _ 0)) W
  obtain ⟨x39, hx39⟩ : ∃ x, x = okI (vB al ah && vB bl bh) (zI (zB bl bh) (oLo (mi (dL al bl bh) (dL ah bl bh)) (mx (dH al bl bh) (dH ah bl bh)))) := ⟨_, rfl⟩
  obtain ⟨x40, hx40⟩ : ∃ x, x = okI (vB al ah && vB bl bh) (zI (zB bl bh) (oHi (mi (dL al bl bh) (dL ah bl bh)) (mx (dH al bl bh) (dH ah bl bh)))) := ⟨_, rfl⟩
  obtain ⟨x41, hx41⟩ : ∃ x, x = errE (vB al ah && vB bl bh) (zE (zB bl bh) (oE (mi (dL al bl bh) (dL ah bl bh)) (mx (dH al bl bh) (dH ah bl bh)))) := ⟨_, rfl⟩
  have i_x39 : I64 x39 := by rw [hx39]; exact okzLo_i64 _ _ _ _
  have i_x40 : I64 x40 := by rw [hx40]; exact okzHi_i64 _ _ _ _
  have C15 : ∀ W, Calls Tryd.prog 19 #[.agg #[.int .i64 al, .int .i64 ah], .agg #[.int .i64 bl, .int .i64 bh]] W fun e w' => e = .returned (.tuple #[.agg #[.int .i64 x39, .int .i64 x40], .int .i64 x41]) ∧ Below W.heap.size W w' := fun W => by
    rw [hx39, hx40, hx41]; exact div_any al ah bl bh (by first | assumption | (constructor <;> omega) | exact den_i64 _ _ 0 | (split <;> first | assumption | exact den_i64 _ _ 0)) (by first | assumption | (constructor <;> omega) | exact den_i64 _ _ 0 | (split <;> first | assumption | exact den_i64 _ _ 0)) (by first | assumption | (constructor <;> omega) | exact den_i64 _ _ 0 | (split <;> first | assumption | exact den_i64 _ _ 0)) (by first | assumption | (constructor <;> omega) | exact den_i64 _ _ 0 | (split <;> first | assumption | exact den_i64 _ _ 0)) W
  obtain ⟨b42, hb42⟩ : ∃ x, x = if (x41 != 0) = true then true else if (x38 == 0) = true then withinB x36 x37 x39 x40 else false := ⟨_, rfl⟩
  have C16 : ∀ W, Calls Tryd.prog 32 #[.agg #[.int .i64 x36, .int .i64 x37], .int .i64 x38, .agg #[.int .i64 x39, .int .i64 x40], .int .i64 x41] W fun e w' => e = .returned (.bool b42) ∧ Below W.heap.size W w' := fun W => by
    rw [hb42]; exact lwithin_any x36 x37 x38 x39 x40 x41 (by first | omega | exact i64_low (by assumption)) (by first | omega | exact i64_low (by assumption)) W
  obtain ⟨x43, hx43⟩ : ∃ x, x = okI (vB x11 x12 && vB x13 x14) (mx x11 x13) := ⟨_, rfl⟩
  obtain ⟨x44, hx44⟩ : ∃ x, x = okI (vB x11 x12 && vB x13 x14) (mx x12 x14) := ⟨_, rfl⟩
  obtain ⟨x45, hx45⟩ : ∃ x, x = errE (vB x11 x12 && vB x13 x14) (0) := ⟨_, rfl⟩
  have i_x43 : I64 x43 := by rw [hx43]; exact ok_i64 fun _ => mx_i64 (by assumption) (by assumption)
  have C17 : ∀ W, Calls Tryd.prog 29 #[.agg #[.int .i64 x11, .int .i64 x12], .agg #[.int .i64 x13, .int .i64 x14]] W fun e w' => e = .returned (.tuple #[.agg #[.int .i64 x43, .int .i64 x44], .int .i64 x45]) ∧ Below W.heap.size W w' := fun W => by
    rw [hx43, hx44, hx45]; exact most_any x11 x12 x13 x14 (by first | assumption | (constructor <;> omega) | exact den_i64 _ _ 0 | (split <;> first | assumption | exact den_i64 _ _ 0)) (by first | assumption | (constructor <;> omega) | exact den_i64 _ _ 0 | (split <;> first | assumption | exact den_i64 _ _ 0)) W
  obtain ⟨x46, hx46⟩ : ∃ x, x = okI (vB al ah && vB bl bh) (mx al bl) := ⟨_, rfl⟩
  obtain ⟨x47, hx47⟩ : ∃ x, x = okI (vB al ah && vB bl bh) (mx ah bh) := ⟨_, rfl⟩
  obtain ⟨x48, hx48⟩ : ∃ x, x = errE (vB al ah && vB bl bh) (0) := ⟨_, rfl⟩
  have i_x46 : I64 x46 := by rw [hx46]; exact ok_i64 fun _ => mx_i64 (by assumption) (by assumption)
  have C18 : ∀ W, Calls Tryd.prog 29 #[.agg #[.int .i64 al, .int .i64 ah], .agg #[.int .i64 bl, .int .i64 bh]] W fun e w' => e = .returned (.tuple #[.agg #[.int .i64 x46, .int .i64 x47], .int .i64 x48]) ∧ Below W.heap.size W w' := fun W => by
    rw [hx46, hx47, hx48]; exact most_any al ah bl bh (by first | assumption | (constructor <;> omega) | exact den_i64 _ _ 0 | (split <;> first | assumption | exact den_i64 _ _ 0)) (by first | assumption | (constructor <;> omega) | exact den_i64 _ _ 0 | (split <;> first | assumption | exact den_i64 _ _ 0)) W
  obtain ⟨b49, hb49⟩ : ∃ x, x = if (x48 != 0) = true then true else if (x45 == 0) = true then withinB x43 x44 x46 x47 else false := ⟨_, rfl⟩
  have C19 : ∀ W, Calls Tryd.prog 32 #[.agg #[.int .i64 x43, .int .i64 x44], .int .i64 x45, .agg #[.int .i64 x46, .int .i64 x47], .int .i64 x48] W fun e w' => e = .returned (.bool b49) ∧ Below W.heap.size W w' := fun W => by
    rw [hb49]; exact lwithin_any x43 x44 x45 x46 x47 x48 (by first | omega | exact i64_low (by assumption)) (by first | omega | exact i64_low (by assumption)) W
  obtain ⟨x50, hx50⟩ : ∃ x, x = okI (vB x11 x12 && vB x13 x14) (mi x11 x13) := ⟨_, rfl⟩
  obtain ⟨x51, hx51⟩ : ∃ x, x = okI (vB x11 x12 && vB x13 x14) (mi x12 x14) := ⟨_, rfl⟩
  obtain ⟨x52, hx52⟩ : ∃ x, x = errE (vB x11 x12 && vB x13 x14) (0) := ⟨_, rfl⟩
  have i_x50 : I64 x50 := by rw [hx50]; exact ok_i64 fun _ => mi_i64 (by assumption) (by assumption)
  have C20 : ∀ W, Calls Tryd.prog 30 #[.agg #[.int .i64 x11, .int .i64 x12], .agg #[.int .i64 x13, .int .i64 x14]] W fun e w' => e = .returned (.tuple #[.agg #[.int .i64 x50, .int .i64 x51], .int .i64 x52]) ∧ Below W.heap.size W w' := fun W => by
    rw [hx50, hx51, hx52]; exact least_any x11 x12 x13 x14 (by first | assumption | (constructor <;> omega) | exact den_i64 _ _ 0 | (split <;> first | assumption | exact den_i64 _ _ 0)) (by first | assumption | (constructor <;> omega) | exact den_i64 _ _ 0 | (split <;> first | assumption | exact den_i64 _ _ 0)) W
  obtain ⟨x53, hx53⟩ : ∃ x, x = okI (vB al ah && vB bl bh) (mi al bl) := ⟨_, rfl⟩
  obtain ⟨x54, hx54⟩ : ∃ x, x = okI (vB al ah && vB bl bh) (mi ah bh) := ⟨_, rfl⟩
  obtain ⟨x55, hx55⟩ : ∃ x, x = errE (vB al ah && vB bl bh) (0) := ⟨_, rfl⟩
  have i_x53 : I64 x53 := by rw [hx53]; exact ok_i64 fun _ => mi_i64 (by assumption) (by assumption)
  have C21 : ∀ W, Calls Tryd.prog 30 #[.agg #[.int .i64 al, .int .i64 ah], .agg #[.int .i64 bl, .int .i64 bh]] W fun e w' => e = .returned (.tuple #[.agg #[.int .i64 x53, .int .i64 x54], .int .i64 x55]) ∧ Below W.heap.size W w' := fun W => by
    rw [hx53, hx54, hx55]; exact least_any al ah bl bh (by first | assumption | (constructor <;> omega) | exact den_i64 _ _ 0 | (split <;> first | assumption | exact den_i64 _ _ 0)) (by first | assumption | (constructor <;> omega) | exact den_i64 _ _ 0 | (split <;> first | assumption | exact den_i64 _ _ 0)) W
  obtain ⟨b56, hb56⟩ : ∃ x, x = if (x55 != 0) = true then true else if (x52 == 0) = true then withinB x50 x51 x53 x54 else false := ⟨_, rfl⟩
  have C22 : ∀ W, Calls Tryd.prog 32 #[.agg #[.int .i64 x50, .int .i64 x51], .int .i64 x52, .agg #[.int .i64 x53, .int .i64 x54], .int .i64 x55] W fun e w' => e = .returned (.bool b56) ∧ Below W.heap.size W w' := fun W => by
    rw [hb56]; exact lwithin_any x50 x51 x52 x53 x54 x55 (by first | omega | exact i64_low (by assumption)) (by first | omega | exact i64_low (by assumption)) W
  obtain ⟨x57, hx57⟩ : ∃ x, x = okI (vB x11 x12 && vB x13 x14) (mi x11 x13) := ⟨_, rfl⟩
  obtain ⟨x58, hx58⟩ : ∃ x, x = okI (vB x11 x12 && vB x13 x14) (mx x12 x14) := ⟨_, rfl⟩
  obtain ⟨x59, hx59⟩ : ∃ x, x = errE (vB x11 x12 && vB x13 x14) (0) := ⟨_, rfl⟩
  have i_x57 : I64 x57 := by rw [hx57]; exact ok_i64 fun _ => mi_i64 (by assumption) (by assumption)
  have C23 : ∀ W, Calls Tryd.prog 31 #[.agg #[.int .i64 x11, .int .i64 x12], .agg #[.int .i64 x13, .int .i64 x14]] W fun e w' => e = .returned (.tuple #[.agg #[.int .i64 x57, .int .i64 x58], .int .i64 x59]) ∧ Below W.heap.size W w' := fun W => by
    rw [hx57, hx58, hx59]; exact hull_any x11 x12 x13 x14 (by first | assumption | (constructor <;> omega) | exact den_i64 _ _ 0 | (split <;> first | assumption | exact den_i64 _ _ 0)) (by first | assumption | (constructor <;> omega) | exact den_i64 _ _ 0 | (split <;> first | assumption | exact den_i64 _ _ 0)) W
  obtain ⟨x60, hx60⟩ : ∃ x, x = okI (vB al ah && vB bl bh) (mi al bl) := ⟨_, rfl⟩
  obtain ⟨x61, hx61⟩ : ∃ x, x = okI (vB al ah && vB bl bh) (mx ah bh) := ⟨_, rfl⟩
  obtain ⟨x62, hx62⟩ : ∃ x, x = errE (vB al ah && vB bl bh) (0) := ⟨_, rfl⟩
  have i_x60 : I64 x60 := by rw [hx60]; exact ok_i64 fun _ => mi_i64 (by assumption) (by assumption)
  have C24 : ∀ W, Calls Tryd.prog 31 #[.agg #[.int .i64 al, .int .i64 ah], .agg #[.int .i64 bl, .int .i64 bh]] W fun e w' => e = .returned (.tuple #[.agg #[.int .i64 x60, .int .i64 x61], .int .i64 x62]) ∧ Below W.heap.size W w' := fun W => by
    rw [hx60, hx61, hx62]; exact hull_any al ah bl bh (by first | assumption | (constructor <;> omega) | exact den_i64 _ _ 0 | (split <;> first | assumption | exact den_i64 _ _ 0)) (by first | assumption | (constructor <;> omega) | exact den_i64 _ _ 0 | (split <;> first | assumption | exact den_i64 _ _ 0)) W
  obtain ⟨b63, hb63⟩ : ∃ x, x = if (x62 != 0) = true then true else if (x59 == 0) = true then withinB x57 x58 x60 x61 else false := ⟨_, rfl⟩
  have C25 : ∀ W, Calls Tryd.prog 32 #[.agg #[.int .i64 x57, .int .i64 x58], .int .i64 x59, .agg #[.int .i64 x60, .int .i64 x61], .int .i64 x62] W fun e w' => e = .returned (.bool b63) ∧ Below W.heap.size W w' := fun W => by
    rw [hb63]; exact lwithin_any x57 x58 x59 x60 x61 x62 (by first | omega | exact i64_low (by assumption)) (by first | omega | exact i64_low (by assumption)) W
  obtain ⟨x64, hx64⟩ : ∃ x, x = okI (vB x11 x12) (-x12) := ⟨_, rfl⟩
  obtain ⟨x65, hx65⟩ : ∃ x, x = okI (vB x11 x12) (-x11) := ⟨_, rfl⟩
  obtain ⟨x66, hx66⟩ : ∃ x, x = errE (vB x11 x12) (0) := ⟨_, rfl⟩
  have i_x64 : I64 x64 := by rw [hx64]; exact ok_i64 fun hv => neg_i64 hv (by assumption) (by assumption)
  have C26 : ∀ W, Calls Tryd.prog 33 #[.agg #[.int .i64 x11, .int .i64 x12]] W fun e w' => e = .returned (.tuple #[.agg #[.int .i64 x64, .int .i64 x65], .int .i64 x66]) ∧ Below W.heap.size W w' := fun W => by
    rw [hx64, hx65, hx66]; exact neg_any x11 x12 (by first | assumption | (constructor <;> omega) | exact den_i64 _ _ 0 | (split <;> first | assumption | exact den_i64 _ _ 0)) (by first | assumption | (constructor <;> omega) | exact den_i64 _ _ 0 | (split <;> first | assumption | exact den_i64 _ _ 0)) W
  obtain ⟨x67, hx67⟩ : ∃ x, x = okI (vB al ah) (-ah) := ⟨_, rfl⟩
  obtain ⟨x68, hx68⟩ : ∃ x, x = okI (vB al ah) (-al) := ⟨_, rfl⟩
  obtain ⟨x69, hx69⟩ : ∃ x, x = errE (vB al ah) (0) := ⟨_, rfl⟩
  have i_x67 : I64 x67 := by rw [hx67]; exact ok_i64 fun hv => neg_i64 hv (by assumption) (by assumption)
  have C27 : ∀ W, Calls Tryd.prog 33 #[.agg #[.int .i64 al, .int .i64 ah]] W fun e w' => e = .returned (.tuple #[.agg #[.int .i64 x67, .int .i64 x68], .int .i64 x69]) ∧ Below W.heap.size W w' := fun W => by
    rw [hx67, hx68, hx69]; exact neg_any al ah (by first | assumption | (constructor <;> omega) | exact den_i64 _ _ 0 | (split <;> first | assumption | exact den_i64 _ _ 0)) (by first | assumption | (constructor <;> omega) | exact den_i64 _ _ 0 | (split <;> first | assumption | exact den_i64 _ _ 0)) W
  obtain ⟨b70, hb70⟩ : ∃ x, x = if (x69 != 0) = true then true else if (x66 == 0) = true then withinB x64 x65 x67 x68 else false := ⟨_, rfl⟩
  have C28 : ∀ W, Calls Tryd.prog 32 #[.agg #[.int .i64 x64, .int .i64 x65], .int .i64 x66, .agg #[.int .i64 x67, .int .i64 x68], .int .i64 x69] W fun e w' => e = .returned (.bool b70) ∧ Below W.heap.size W w' := fun W => by
    rw [hb70]; exact lwithin_any x64 x65 x66 x67 x68 x69 (by first | omega | exact i64_low (by assumption)) (by first | omega | exact i64_low (by assumption)) W
  obtain ⟨x71, hx71⟩ : ∃ x, x = okI (vB x11 x12) (oLo (sqL (absL x11 x12) (absH x11 x12)) (sqH (absL x11 x12) (absH x11 x12))) := ⟨_, rfl⟩
  obtain ⟨x72, hx72⟩ : ∃ x, x = okI (vB x11 x12) (oHi (sqL (absL x11 x12) (absH x11 x12)) (sqH (absL x11 x12) (absH x11 x12))) := ⟨_, rfl⟩
  obtain ⟨x73, hx73⟩ : ∃ x, x = errE (vB x11 x12) (oE (sqL (absL x11 x12) (absH x11 x12)) (sqH (absL x11 x12) (absH x11 x12))) := ⟨_, rfl⟩
  have i_x71 : I64 x71 := by rw [hx71]; exact okLo_i64 _ _ _
  have i_x72 : I64 x72 := by rw [hx72]; exact okHi_i64 _ _ _
  have C29 : ∀ W, Calls Tryd.prog 20 #[.agg #[.int .i64 x11, .int .i64 x12]] W fun e w' => e = .returned (.tuple #[.agg #[.int .i64 x71, .int .i64 x72], .int .i64 x73]) ∧ Below W.heap.size W w' := fun W => by
    rw [hx71, hx72, hx73]; exact square_any x11 x12 (by first | assumption | (constructor <;> omega) | exact den_i64 _ _ 0 | (split <;> first | assumption | exact den_i64 _ _ 0)) (by first | assumption | (constructor <;> omega) | exact den_i64 _ _ 0 | (split <;> first | assumption | exact den_i64 _ _ 0)) W
  obtain ⟨x74, hx74⟩ : ∃ x, x = okI (vB al ah) (oLo (sqL (absL al ah) (absH al ah)) (sqH (absL al ah) (absH al ah))) := ⟨_, rfl⟩
  obtain ⟨x75, hx75⟩ : ∃ x, x = okI (vB al ah) (oHi (sqL (absL al ah) (absH al ah)) (sqH (absL al ah) (absH al ah))) := ⟨_, rfl⟩
  obtain ⟨x76, hx76⟩ : ∃ x, x = errE (vB al ah) (oE (sqL (absL al ah) (absH al ah)) (sqH (absL al ah) (absH al ah))) := ⟨_, rfl⟩
  have i_x74 : I64 x74 := by rw [hx74]; exact okLo_i64 _ _ _
  have i_x75 : I64 x75 := by rw [hx75]; exact okHi_i64 _ _ _
  have C30 : ∀ W, Calls Tryd.prog 20 #[.agg #[.int .i64 al, .int .i64 ah]] W fun e w' => e = .returned (.tuple #[.agg #[.int .i64 x74, .int .i64 x75], .int .i64 x76]) ∧ Below W.heap.size W w' := fun W => by
    rw [hx74, hx75, hx76]; exact square_any al ah (by first | assumption | (constructor <;> omega) | exact den_i64 _ _ 0 | (split <;> first | assumption | exact den_i64 _ _ 0)) (by first | assumption | (constructor <;> omega) | exact den_i64 _ _ 0 | (split <;> first | assumption | exact den_i64 _ _ 0)) W
  obtain ⟨b77, hb77⟩ : ∃ x, x = if (x76 != 0) = true then true else if (x73 == 0) = true then withinB x71 x72 x74 x75 else false := ⟨_, rfl⟩
  have C31 : ∀ W, Calls Tryd.prog 32 #[.agg #[.int .i64 x71, .int .i64 x72], .int .i64 x73, .agg #[.int .i64 x74, .int .i64 x75], .int .i64 x76] W fun e w' => e = .returned (.bool b77) ∧ Below W.heap.size W w' := fun W => by
    rw [hb77]; exact lwithin_any x71 x72 x73 x74 x75 x76 (by first | omega | exact i64_low (by assumption)) (by first | omega | exact i64_low (by assumption)) W
  obtain ⟨x78, hx78⟩ : ∃ x, x = okI (vB x11 x12) (absL x11 x12) := ⟨_, rfl⟩
  obtain ⟨x79, hx79⟩ : ∃ x, x = okI (vB x11 x12) (absH x11 x12) := ⟨_, rfl⟩
  obtain ⟨x80, hx80⟩ : ∃ x, x = errE (vB x11 x12) (0) := ⟨_, rfl⟩
  have i_x78 : I64 x78 := by rw [hx78]; exact ok_i64 fun hv => absL_i64 hv (by assumption) (by assumption)
  have C32 : ∀ W, Calls Tryd.prog 34 #[.agg #[.int .i64 x11, .int .i64 x12]] W fun e w' => e = .returned (.tuple #[.agg #[.int .i64 x78, .int .i64 x79], .int .i64 x80]) ∧ Below W.heap.size W w' := fun W => by
    rw [hx78, hx79, hx80]; exact abs_any x11 x12 (by first | assumption | (constructor <;> omega) | exact den_i64 _ _ 0 | (split <;> first | assumption | exact den_i64 _ _ 0)) (by first | assumption | (constructor <;> omega) | exact den_i64 _ _ 0 | (split <;> first | assumption | exact den_i64 _ _ 0)) W
  obtain ⟨x81, hx81⟩ : ∃ x, x = okI (vB al ah) (absL al ah) := ⟨_, rfl⟩
  obtain ⟨x82, hx82⟩ : ∃ x, x = okI (vB al ah) (absH al ah) := ⟨_, rfl⟩
  obtain ⟨x83, hx83⟩ : ∃ x, x = errE (vB al ah) (0) := ⟨_, rfl⟩
  have i_x81 : I64 x81 := by rw [hx81]; exact ok_i64 fun hv => absL_i64 hv (by assumption) (by assumption)
  have C33 : ∀ W, Calls Tryd.prog 34 #[.agg #[.int .i64 al, .int .i64 ah]] W fun e w' => e = .returned (.tuple #[.agg #[.int .i64 x81, .int .i64 x82], .int .i64 x83]) ∧ Below W.heap.size W w' := fun W => by
    rw [hx81, hx82, hx83]; exact abs_any al ah (by first | assumption | (constructor <;> omega) | exact den_i64 _ _ 0 | (split <;> first | assumption | exact den_i64 _ _ 0)) (by first | assumption | (constructor <;> omega) | exact den_i64 _ _ 0 | (split <;> first | assumption | exact den_i64 _ _ 0)) W
  obtain ⟨b84, hb84⟩ : ∃ x, x = if (x83 != 0) = true then true else if (x80 == 0) = true then withinB x78 x79 x81 x82 else false := ⟨_, rfl⟩
  have C34 : ∀ W, Calls Tryd.prog 32 #[.agg #[.int .i64 x78, .int .i64 x79], .int .i64 x80, .agg #[.int .i64 x81, .int .i64 x82], .int .i64 x83] W fun e w' => e = .returned (.bool b84) ∧ Below W.heap.size W w' := fun W => by
    rw [hb84]; exact lwithin_any x78 x79 x80 x81 x82 x83 (by first | omega | exact i64_low (by assumption)) (by first | omega | exact i64_low (by assumption)) W
  obtain ⟨x85, hx85⟩ : ∃ x, x = okI (tnB x11 x12) (tcL x11 x12) := ⟨_, rfl⟩
  obtain ⟨x86, hx86⟩ : ∃ x, x = okI (tnB x11 x12) (tcH x11 x12) := ⟨_, rfl⟩
  obtain ⟨x87, hx87⟩ : ∃ x, x = okI (tnB x11 x12) (tuL x11 x11) := ⟨_, rfl⟩
  obtain ⟨x88, hx88⟩ : ∃ x, x = okI (tnB x11 x12) (tuH x12 x12) := ⟨_, rfl⟩
  obtain ⟨x89, hx89⟩ : ∃ x, x = tnE x11 x12 := ⟨_, rfl⟩
  have i_x85 : I64 x85 := by rw [hx85]; exact ok_i64 fun hv => (turn_i64 hv).1
  have i_x87 : I64 x87 := by rw [hx87]; exact ok_i64 fun hv => (turn_i64 hv).2
  have C35 : ∀ W, Calls Tryd.prog 35 #[.agg #[.int .i64 x11, .int .i64 x12]] W fun e w' => e = .returned (.tuple #[.agg #[.int .i64 x85, .int .i64 x86], .agg #[.int .i64 x87, .int .i64 x88], .int .i64 x89]) ∧ Below W.heap.size W w' := fun W => by
    rw [hx85, hx86, hx87, hx88, hx89]; exact turn_any x11 x12 (by first | assumption | (constructor <;> omega) | exact den_i64 _ _ 0 | (split <;> first | assumption | exact den_i64 _ _ 0)) (by first | assumption | (constructor <;> omega) | exact den_i64 _ _ 0 | (split <;> first | assumption | exact den_i64 _ _ 0)) W
  obtain ⟨x90, hx90⟩ : ∃ x, x = okI (tnB al ah) (tcL al ah) := ⟨_, rfl⟩
  obtain ⟨x91, hx91⟩ : ∃ x, x = okI (tnB al ah) (tcH al ah) := ⟨_, rfl⟩
  obtain ⟨x92, hx92⟩ : ∃ x, x = okI (tnB al ah) (tuL al al) := ⟨_, rfl⟩
  obtain ⟨x93, hx93⟩ : ∃ x, x = okI (tnB al ah) (tuH ah ah) := ⟨_, rfl⟩
  obtain ⟨x94, hx94⟩ : ∃ x, x = tnE al ah := ⟨_, rfl⟩
  have i_x90 : I64 x90 := by rw [hx90]; exact ok_i64 fun hv => (turn_i64 hv).1
  have i_x92 : I64 x92 := by rw [hx92]; exact ok_i64 fun hv => (turn_i64 hv).2
  have C36 : ∀ W, Calls Tryd.prog 35 #[.agg #[.int .i64 al, .int .i64 ah]] W fun e w' => e = .returned (.tuple #[.agg #[.int .i64 x90, .int .i64 x91], .agg #[.int .i64 x92, .int .i64 x93], .int .i64 x94]) ∧ Below W.heap.size W w' := fun W => by
    rw [hx90, hx91, hx92, hx93, hx94]; exact turn_any al ah (by first | assumption | (constructor <;> omega) | exact den_i64 _ _ 0 | (split <;> first | assumption | exact den_i64 _ _ 0)) (by first | assumption | (constructor <;> omega) | exact den_i64 _ _ 0 | (split <;> first | assumption | exact den_i64 _ _ 0)) W
  obtain ⟨b95, hb95⟩ : ∃ x, x = if (x94 != 0) = true then true else if (x89 == 0) = true then withinB x85 x86 x90 x91 else false := ⟨_, rfl⟩
  have C37 : ∀ W, Calls Tryd.prog 32 #[.agg #[.int .i64 x85, .int .i64 x86], .int .i64 x89, .agg #[.int .i64 x90, .int .i64 x91], .int .i64 x94] W fun e w' => e = .returned (.bool b95) ∧ Below W.heap.size W w' := fun W => by
    rw [hb95]; exact lwithin_any x85 x86 x89 x90 x91 x94 (by first | omega | exact i64_low (by assumption)) (by first | omega | exact i64_low (by assumption)) W
  obtain ⟨b96, hb96⟩ : ∃ x, x = if (x94 != 0) = true then true else if (x89 == 0) = true then withinB x87 x88 x92 x93 else false := ⟨_, rfl⟩
  have C38 : ∀ W, Calls Tryd.prog 32 #[.agg #[.int .i64 x87, .int .i64 x88], .int .i64 x89, .agg #[.int .i64 x92, .int .i64 x93], .int .i64 x94] W fun e w' => e = .returned (.bool b96) ∧ Below W.heap.size W w' := fun W => by
    rw [hb96]; exact lwithin_any x87 x88 x89 x92 x93 x94 (by first | omega | exact i64_low (by assumption)) (by first | omega | exact i64_low (by assumption)) W
  let ε : SX.Env := ⟨fun n => [al, ah, bl, bh, y1, y2, y3, y4, 0, x9, x10, x11, x12, x13, x14, x15, x16, x17, x18, x19, x20, 0, x22, x23, x24, x25, x26, x27, 0, x29, x30, x31, x32, x33, x34, 0, x36, x37, x38, x39, x40, x41, 0, x43, x44, x45, x46, x47, x48, 0, x50, x51, x52, x53, x54, x55, 0, x57, x58, x59, x60, x61, x62, 0, x64, x65, x66, x67, x68, x69, 0, x71, x72, x73, x74, x75, x76, 0, x78, x79, x80, x81, x82, x83, 0, x85, x86, x87, x88, x89, x90, x91, x92, x93, x94, 0, 0].getD n 0, fun n => [false, false, false, false, false, false, false, false, b8, false, false, false, false, false, false, false, false, false, false, false, false, b21, false, false, false, false, false, false, b28, false, false, false, false, false, false, b35, false, false, false, false, false, false, b42, false, false, false, false, false, false, b49, false, false, false, false, false, false, b56, false, false, false, false, false, false, b63, false, false, false, false, false, false, b70, false, false, false, false, false, false, b77, false, false, false, false, false, false, b84, false, false, false, false, false, false, false, false, false, false, b95, b96].getD n false, fun _ => none, fun _ => 0, fun _ => 0⟩
  have key : (if (if (x9 != 0) = true then true else (if (x10 != 0) = true then true else (!b8))) = true then b8 else (if (!b21) = true then false else (if (!b28) = true then false else (if (!b35) = true then false else (if (!b42) = true then false else (if (!b49) = true then false else (if (!b56) = true then false else (if (!b63) = true then false else (if (!b70) = true then false else (if (!b77) = true then false else (if (!b84) = true then false else (if b8 = true then (if b95 = true then b96 else false) else false)))))))))))) = true := by
    subst hb8
    by_cases vv : vB al ah = true ∧ vB bl bh = true
    case neg =>
      have hv : x9 ≠ 0 ∨ x10 ≠ 0 := by
        rw [hx9, hx10]; unfold chkI
        cases v1 : vB al ah <;> cases v2 : vB bl bh <;> simp_all
      rcases hv with h | h
      · simp [h]
      · by_cases h7 : x9 = 0 <;> simp [h, h7]
    obtain ⟨va, vb⟩ := vv
    have ⟨va1, va2⟩ := vB_tt va
    have ⟨vb1, vb2⟩ := vB_tt vb
    have e9 : x9 = 0 := by rw [hx9]; unfold chkI; rw [va]; rfl
    have e10 : x10 = 0 := by rw [hx10]; unfold chkI; rw [vb]; rfl
    have p1 := pick_in y1 va1 va2 ah1
    have p2 := pick_in y2 va1 va2 ah1
    have p3 := pick_in y3 vb1 vb2 bh1
    have p4 := pick_in y4 vb1 vb2 bh1
    have ex : al ≤ x11 ∧ x11 ≤ x12 ∧ x12 ≤ ah := by rw [hx11, hx12]; unfold mi mx; split <;> split <;> omega
    have ey : bl ≤ x13 ∧ x13 ≤ x14 ∧ x14 ≤ bh := by rw [hx13, hx14]; unfold mi mx; split <;> split <;> omega
    obtain ⟨x1, x2, x3⟩ := ex
    obtain ⟨z1, z2, z3⟩ := ey
    have vx : vB x11 x12 = true := vB_t (by omega) x2
    have vy : vB x13 x14 = true := vB_t (by omega) z2
    rw [vx, vy, Bool.and_self] at hx15 hx16 hx17 hx22 hx23 hx24 hx29 hx30 hx31 hx36 hx37 hx38 hx43 hx44 hx45 hx50 hx51 hx52 hx57 hx58 hx59
    rw [va, vb, Bool.and_self] at hx18 hx19 hx20 hx25 hx26 hx27 hx32 hx33 hx34 hx39 hx40 hx41 hx46 hx47 hx48 hx53 hx54 hx55 hx60 hx61 hx62
    rw [vx] at hx64 hx65 hx66 hx71 hx72 hx73 hx78 hx79 hx80
    rw [va] at hx67 hx68 hx69 hx74 hx75 hx76 hx81 hx82 hx83
    have k21 : b21 = true := by rw [hb21]; exact in_out hx15 hx16 hx17 hx18 hx19 hx20 (by omega) (by omega) (by omega)
    have k28 : b28 = true := by rw [hb28]; exact in_out hx22 hx23 hx24 hx25 hx26 hx27 (by omega) (by omega) (by omega)
    have k35 : b35 = true := by
      obtain ⟨m1, m2, m3⟩ := mul_in x1 x2 x3 z1 z2 z3
      rw [hb35]; exact in_out hx29 hx30 hx31 hx32 hx33 hx34 m1 m2 m3
    have k42 : b42 = true := by
      cases z : zB bl bh
      · have zn : zB x13 x14 = false := by
          have := of_decide_eq_false z
          exact decide_eq_false (by omega)
        obtain ⟨m1, m2, m3⟩ := div_in z x1 x2 x3 z1 z2 z3
        rw [zn] at hx36 hx37 hx38
        rw [z] at hx39 hx40 hx41
        rw [hb42]; exact in_out hx36 hx37 hx38 hx39 hx40 hx41 m1 m2 m3
      · rw [z] at hx41
        have : x41 = 10 := hx41
        rw [hb42, this]; rfl
    have k49 : b49 = true := by
      rw [hb49]; exact in_plain hx45 (by rw [hx46, ok_t]; unfold mx; split <;> omega) (by rw [hx43, hx46, ok_t, ok_t]; unfold mx; split <;> split <;> omega) (by rw [hx43, hx44, ok_t, ok_t]; unfold mx; split <;> split <;> omega) (by rw [hx44, hx47, ok_t, ok_t]; unfold mx; split <;> split <;> omega)
    have k56 : b56 = true := by
      rw [hb56]; exact in_plain hx52 (by rw [hx53, ok_t]; unfold mi; split <;> omega) (by rw [hx50, hx53, ok_t, ok_t]; unfold mi; split <;> split <;> omega) (by rw [hx50, hx51, ok_t, ok_t]; unfold mi; split <;> split <;> omega) (by rw [hx51, hx54, ok_t, ok_t]; unfold mi; split <;> split <;> omega)
    have k63 : b63 = true := by
      rw [hb63]; exact in_plain hx59 (by rw [hx60, ok_t]; unfold mi; split <;> omega) (by rw [hx57, hx60, ok_t, ok_t]; unfold mi; split <;> split <;> omega) (by rw [hx57, hx58, ok_t, ok_t]; unfold mi mx; split <;> split <;> omega) (by rw [hx58, hx61, ok_t, ok_t]; unfold mx; split <;> split <;> omega)
    have k70 : b70 = true := by
      rw [hb70]; exact in_plain hx66 (by rw [hx67, ok_t]; omega) (by rw [hx64, hx67, ok_t, ok_t]; omega) (by rw [hx64, hx65, ok_t, ok_t]; omega) (by rw [hx65, hx68, ok_t, ok_t]; omega)
    have k77 : b77 = true := by
      obtain ⟨m1, m2, m3⟩ := sq_in x1 x2 x3
      rw [hb77]; exact in_out hx71 hx72 hx73 hx74 hx75 hx76 m1 m2 m3
    have k84 : b84 = true := by
      obtain ⟨m0, m1, m2, m3⟩ := abs_mono x1 x2 x3
      rw [hb84]; exact in_plain hx80 (by rw [hx81, ok_t]; omega) (by rw [hx78, hx81, ok_t, ok_t]; omega) (by rw [hx78, hx79, ok_t, ok_t]; omega) (by rw [hx79, hx82, ok_t, ok_t]; omega)
    have k95 : b95 = true ∧ b96 = true := by
      by_cases u : -4294967296 ≤ al ∧ ah ≤ 4294967296
      · obtain ⟨⟨m0, m1, m2, m3⟩, n0, n1, n2, n3⟩ := turn_in va u x1 x2 x3
        have t1 : tnB x11 x12 = true := by unfold tnB; rw [vx]; simp; omega
        have t2 : tnB al ah = true := by unfold tnB; rw [va]; simp; omega
        have t3 : x89 = 0 := by rw [hx89]; unfold tnE; rw [if_pos vx, if_pos (by omega)]
        rw [t1] at hx85 hx86 hx87 hx88
        rw [t2] at hx90 hx91 hx92 hx93
        rw [ok_t] at hx85 hx86 hx87 hx88 hx90 hx91 hx92 hx93
        rw [hb95, hb96]
        exact ⟨in_plain t3 (by omega) (by omega) (by omega) (by omega), in_plain t3 (by omega) (by omega) (by omega) (by omega)⟩
      · have : x94 = 4 := by rw [hx94]; unfold tnE; rw [if_pos va, if_neg u]
        rw [hb95, hb96, this]; exact ⟨rfl, rfl⟩
    rw [e9, e10, k21, k28, k35, k42, k49, k56, k63, k70, k77, k84, k95.1, k95.2]
    rfl

  have R := SX.reads_of (P := Tryd.prog) (by kernel_rfl) SX.inside_r ε w (by
    simp only [SX.inside_o, List.forall_mem_cons]
    exact ⟨fun _ W _ => C0 W,
      fun _ W _ => C1 W,
      fun _ W _ => C2 W,
      fun _ W _ => C3 W,
      fun _ W _ => C4 W,
      fun _ W _ => C5 W,
      fun _ W _ => C6 W,
      fun _ W _ => C7 W,
      fun _ W _ => C8 W,
      fun _ W _ => C9 W,
      fun _ W _ => C10 W,
      fun _ W _ => C11 W,
      fun _ W _ => C12 W,
      fun _ W _ => C13 W,
      fun _ W _ => C14 W,
      fun _ W _ => C15 W,
      fun _ W _ => C16 W,
      fun _ W _ => C17 W,
      fun _ W _ => C18 W,
      fun _ W _ => C19 W,
      fun _ W _ => C20 W,
      fun _ W _ => C21 W,
      fun _ W _ => C22 W,
      fun _ W _ => C23 W,
      fun _ W _ => C24 W,
      fun _ W _ => C25 W,
      fun _ W _ => C26 W,
      fun _ W _ => C27 W,
      fun _ W _ => C28 W,
      fun _ W _ => C29 W,
      fun _ W _ => C30 W,
      fun _ W _ => C31 W,
      fun _ W _ => C32 W,
      fun _ W _ => C33 W,
      fun _ W _ => C34 W,
      fun _ W _ => C35 W,
      fun _ W _ => C36 W,
      fun _ W _ => C37 W,
      fun _ W _ => C38 W, by simp⟩)
  refine R.mono fun e w' ⟨h1, h2⟩ => ⟨h1.trans (congrArg Ending.returned (congrArg Value.bool key)), h2⟩
end lawSpanInside
end Go.Proofs.YtlcbcanlehackaaDoor
