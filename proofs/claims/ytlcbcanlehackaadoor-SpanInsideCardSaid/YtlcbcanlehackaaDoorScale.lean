/- Multiples of spans, on both sides. -/
import Derived.Test.YtlcbcanlehackaaDoorEnds
import Derived.Test.YtlcbcanlehackaaDoorTimes
set_option linter.unusedVariables false
set_option linter.unusedSimpArgs false
namespace Go.Proofs.YtlcbcanlehackaaDoor
open Go.RowKit
/-- The cell of a captured number. -/
def HasN (b : Nat) (n : Int) (w : World) : Prop := w.cell? ⟨b, 0, none⟩ = some (.int .i64 n) ∧ b < w.heap.size
theorem HasN.kept (b : Nat) (n : Int) : Kept (HasN b n) := ⟨fun h hb => ⟨by rw [(bcell hb).1 b 0 h.2]; exact h.1, Nat.lt_of_lt_of_le h.2 hb.size⟩⟩
theorem en_out (p q : Int) (s : Bool) (h : s = true → p = q) :
    enL (oLo p p) (oE p p) (oLo q q) (oE q q) s = oLo (mi p q) (mx p q) ∧ enH (oHi p p) (oE p p) (oHi q q) (oE q q) s = oHi (mi p q) (mx p q) ∧ enE (oE p p) (oE q q) s = oE (mi p q) (mx p q) := by
  have hm : fits (mi p q) (mx p q) = (fits p p && fits q q) := by
    unfold fits mi mx
    rw [← Bool.decide_and]
    apply decide_eq_decide.2
    split <;> split <;> omega
  cases s
  · unfold enL enH enE oLo oHi oE
    rw [hm]
    cases fits p p <;> cases fits q q <;> simp
  · obtain rfl := h rfl
    have e1 : mi p p = p := by unfold mi; split <;> rfl
    have e2 : mx p p = p := by unfold mx; split <;> rfl
    rw [e1, e2]
    simp [enL, enH, enE]
theorem share_one (x n : Int) : sL x n 1 = x * n ∧ sH x n 1 = x * n := by
  have e : sN x n 1 = x * n := by unfold sN; rw [if_neg (by omega)]
  have e2 : ab 1 = 1 := by unfold ab; rw [if_neg (by omega)]
  unfold sL sH cdiv
  rw [e, e2]
  omega
end Go.Proofs.YtlcbcanlehackaaDoor
