/- The small functions of the laws of layer 1. -/
import Derived.Test.YtlcbcanlehackaaDoorRdA
import Derived.Test.YtlcbcanlehackaaDoorAlive
import Derived.Test.YtlcbcanlehackaaDoorTimes
import Derived.Test.YtlcbcanlehackaaDoorBits
import Derived.Test.YtlcbcanlehackaaDoorAsk2
set_option linter.unusedVariables false
set_option linter.unusedSimpArgs false
namespace Go.Proofs.YtlcbcanlehackaaDoor
open Go.RowKit
def envI (l : List Int) (m : List Bool) : SX.Env := ⟨fun n => l.getD n 0, fun n => m.getD n false, fun _ => none, fun _ => 0, fun _ => 0⟩
theorem mixed : Tryd.prog.follows .mixedOrders = true := by kernel_rfl
theorem wrapU (x : Int) : IntKind.wrap .u64 x = x % 18446744073709551616 := by
  unfold IntKind.wrap; simp [IntKind.bits, IntKind.signed]
theorem wrapI64 (x : Int) : IntKind.wrap .i64 x = if x % 18446744073709551616 ≥ 9223372036854775808 then x % 18446744073709551616 - 18446744073709551616 else x % 18446744073709551616 := by
  unfold IntKind.wrap; simp [IntKind.bits, IntKind.signed]
/-- A number of a span, by 64 bits. -/
def pickI (a b y : Int) : Int := if (b - a) % 18446744073709551616 = 18446744073709551615 then a else IntKind.wrap .i64 ((a + y % ((b - a) % 18446744073709551616 + 1)) % 18446744073709551616)
theorem wrap_i64 (x : Int) : I64 (IntKind.wrap .i64 x) := by rw [wrapI64]; constructor <;> omega
theorem pick_i64 {a : Int} (b y : Int) (h : I64 a) : I64 (pickI a b y) := by
  unfold pickI; split
  · exact h
  · exact wrap_i64 _
theorem pick_in {a b : Int} (y : Int) (ha : -9223372036854775807 ≤ a) (hab : a ≤ b) (hb : b ≤ 9223372036854775807) : a ≤ pickI a b y ∧ pickI a b y ≤ b := by
  have h1 : 0 ≤ y % (b - a + 1) := Int.emod_nonneg _ (by omega)
  have h2 : y % (b - a + 1) < b - a + 1 := Int.emod_lt_of_pos _ (by omega)
  unfold pickI
  have e : (b - a) % 18446744073709551616 = b - a := by omega
  rw [e, if_neg (by omega), wrapI64]
  generalize y % (b - a + 1) = r at *
  omega
theorem pick_any (a b y : Int) (hy : 0 ≤ y) (w : World) :
    Calls Tryd.prog 15 #[.agg #[.int .i64 (a), .int .i64 (b)], .int .u64 y] w fun e w' => e = .returned (.int .i64 (pickI a b y)) ∧ Below w.heap.size w w' := by
  have e1 : SX.AO.den .u64 (IntKind.wrap .u64 b) (IntKind.wrap .u64 a) .sub = (b - a) % 18446744073709551616 := by
    show IntKind.wrap .u64 (IntKind.wrap .u64 b - IntKind.wrap .u64 a) = _
    rw [wrapU, wrapU, wrapU]; omega
  have e2 : ¬ (b - a) % 18446744073709551616 = 18446744073709551615 → SX.AO.den .u64 (SX.AO.den .u64 (IntKind.wrap .u64 b) (IntKind.wrap .u64 a) .sub) 1 .add = (b - a) % 18446744073709551616 + 1 := fun h => by
    rw [e1]; show IntKind.wrap .u64 ((b - a) % 18446744073709551616 + 1) = _
    rw [wrapU]; omega
  have R := SX.reads_of mixed SX.pick_r (envI [a, b, 0, 0, y] []) w (by
    simp only [SX.pick_o, List.forall_mem_cons]
    refine ⟨fun hp => ?_, by simp⟩
    show (SX.AO.den .u64 (SX.AO.den .u64 (IntKind.wrap .u64 b) (IntKind.wrap .u64 a) .sub) 1 .add != 0) = true
    have hn : ¬ (b - a) % 18446744073709551616 = 18446744073709551615 := fun h => by
      have : (!(SX.AO.den .u64 (IntKind.wrap .u64 b) (IntKind.wrap .u64 a) .sub == 18446744073709551615)) = true := hp
      rw [e1, h] at this; cases this
    rw [e2 hn]; simp; omega)
  refine R.mono fun e w' ⟨h1, h2⟩ => ⟨h1.trans ?_, h2⟩
  show Ending.returned (Value.int .i64 (if (SX.AO.den .u64 (IntKind.wrap .u64 b) (IntKind.wrap .u64 a) .sub == 18446744073709551615) = true then a else IntKind.wrap .i64 (SX.AO.den .u64 (IntKind.wrap .u64 a) (SX.AO.den .u64 y (SX.AO.den .u64 (SX.AO.den .u64 (IntKind.wrap .u64 b) (IntKind.wrap .u64 a) .sub) 1 .add) .rem) .add))) = _
  congr 2
  unfold pickI
  by_cases hn : (b - a) % 18446744073709551616 = 18446744073709551615
  · rw [if_pos hn, e1, hn]; rfl
  · rw [if_neg hn, e2 hn, e1, if_neg (by simpa using hn)]
    congr 1
    show IntKind.wrap .u64 (IntKind.wrap .u64 a + y.tmod ((b - a) % 18446744073709551616 + 1)) = _
    rw [wrapU, wrapU, Int.tmod_eq_emod_of_nonneg hy]; omega
def betB (X n m y : Int) : Bool := !decide (X < n * y) && !decide (m * y < X)
theorem between_any (X n m y : Int) (i0 : I64 n) (i1 : I64 m) (i2 : I64 y) (w : World) :
    Calls Tryd.prog 22 #[.agg #[.int .i64 (wH (X)), .int .u64 (wL (X))], .int .i64 n, .int .i64 m, .int .i64 y] w fun e w' => e = .returned (.bool (betB X n m y)) ∧ Below w.heap.size w w' := by
  have R := SX.reads_of mixed SX.betw_r (envI [wH X, wL X, n, m, y, 0, wH (n * y), wL (n * y), 0, wH (m * y), wL (m * y)] [false, false, false, false, false, false, false, false, decide (X < n * y), false, false, decide (m * y < X)]) w (by
    simp only [SX.betw_o, List.forall_mem_cons]
    exact ⟨fun _ W _ => rtimes n y i0 i2 W, fun _ W _ => rless X (n * y) W, fun _ W _ => rtimes m y i1 i2 W, fun _ W _ => rless (m * y) X W, by simp⟩)
  refine R.mono fun e w' ⟨h1, h2⟩ => ⟨h1.trans ?_, h2⟩
  show Ending.returned (Value.bool (if (!decide (X < n * y)) = true then !decide (m * y < X) else false)) = _
  unfold betB
  cases decide (X < n * y) <;> rfl
theorem inner_any (a b y z : Int) (hy : 0 ≤ y) (hz : 0 ≤ z) (w : World) :
    Calls Tryd.prog 28 #[.agg #[.int .i64 (a), .int .i64 (b)], .agg #[.int .u64 y, .int .u64 z]] w fun e w' => e = .returned (.agg #[.int .i64 (mi (pickI a b y) (pickI a b z)), .int .i64 (mx (pickI a b y) (pickI a b z))]) ∧ Below w.heap.size w w' := by
  exact SX.reads_of mixed SX.inner_r (envI [a, b, 0, 0, y, z, pickI a b y, pickI a b z] []) w (by
    simp only [SX.inner_o, List.forall_mem_cons]
    exact ⟨fun _ W _ => pick_any a b y hy W, fun _ W _ => pick_any a b z hz W, by simp⟩)
theorem lwithin_any (a b e c d f : Int) (h0 : -9223372036854775808 ≤ a) (h1 : -9223372036854775808 ≤ c) (w : World) :
    Calls Tryd.prog 32 #[.agg #[.int .i64 (a), .int .i64 (b)], .int .i64 e, .agg #[.int .i64 (c), .int .i64 (d)], .int .i64 f] w fun r w' => r = .returned (.bool (if (f != 0) = true then true else if (e == 0) = true then withinB a b c d else false)) ∧ Below w.heap.size w w' := by
  exact SX.reads_of mixed SX.within_r (envI [a, b, e, c, d, f] [false, false, false, false, false, false, withinB a b c d]) w (by
    simp only [SX.within_o, List.forall_mem_cons]
    exact ⟨fun _ W _ => within_any a b c d h0 h1 W, by simp⟩)
end Go.Proofs.YtlcbcanlehackaaDoor
