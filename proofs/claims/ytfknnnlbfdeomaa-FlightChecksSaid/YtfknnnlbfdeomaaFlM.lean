/- Planets, arcs and states: valid or not, as conditions. -/
import Derived.Test.YtfknnnlbfdeomaaTabAny
set_option linter.unusedVariables false
set_option linter.unusedSimpArgs false
namespace Go.Proofs.Ytfknnnlbfdeomaa
open Go.RowKit
theorem chk_ne (a b : Int) : (chkI a b != 0) = !vB a b := by unfold chkI; cases vB a b <;> rfl
theorem chk_eq (a b : Int) : (chkI a b == 0) = vB a b := by unfold chkI; cases vB a b <;> rfl
theorem d_lt (x : Int) : decide (x < 0) = !decide (0 ≤ x) := by by_cases h : 0 ≤ x <;> simp [h] <;> omega
theorem d_ge (x : Int) : decide (x ≥ 0) = decide (0 ≤ x) := rfl
theorem d_gt (x : Int) : decide (x > 0) = decide (1 ≤ x) := rfl
theorem d_ge1 (x : Int) : decide (x ≥ 1) = decide (1 ≤ x) := rfl
theorem d_num (x : Int) : vB x x = decide (x ≥ -9223372036854775807) := by unfold vB; by_cases h : x ≥ -9223372036854775807 <;> simp [h] <;> omega
theorem d_len (n : Nat) : decide ((n : Int) > 0) = !((n : Int) == 0) := by
  by_cases h : n = 0
  · subst h; rfl
  · have g1 : ((n : Int) == 0) = false := by rw [beq_eq_false_iff_ne]; omega
    rw [g1, decide_eq_true (by omega)]; rfl
theorem tab_eq (b : Bool) : ((if b = true then (0 : Int) else 2) == 0) = b := by cases b <;> rfl
theorem tab_if (b : Bool) : (if b = true then (0 : Int) else 2) = (if b = true then (0 : Int) else 2) := rfl
def planetI (a b c d e f g h i j k l m n : Int) : Int := if vB a b && decide (0 ≤ a) && (vB c d && decide (0 ≤ c)) && vB e f && vB g h && (vB i j && vB k l && vB m n) then 0 else 2
def stateI (t a b c d e f g h i j k l m n : Int) : Int := if vB t t && (vB a b && vB c d && vB e f) && (vB g h && vB i j && vB k l) && vB m n && decide (1 ≤ m) then 0 else 2
def arcI (t s a b c d e f g h i j k l : Int) (N : Nat) (tb : Bool) : Int :=
  if !decide (t ≤ 0) && !decide (s ≤ 0) && (vB a b && decide (0 ≤ a)) && (vB c d && decide (0 ≤ c)) && (vB k l && decide (0 ≤ k)) && withinB e f (-4294967296) 4294967296 && withinB g h (-4294967296) 4294967296 && withinB i j (-4294967296) 4294967296 && ((N : Int) == 0 || tb) then 0 else 2
theorem arc_pos {t s a b c d e f g h i j k l : Int} {N : Nat} {tb : Bool} (h0 : arcI t s a b c d e f g h i j k l N tb = 0) : (s != 0) = true := by
  unfold arcI at h0
  by_cases hs : s ≤ 0
  · simp [hs] at h0
  · simp; omega
/-- How many steps an arc has, or the error: by its validity, its time and the length of a step. -/
def stepsN (c t s : Int) : Int := if (c != 0) = true then 0 else if decide ((if (t.tmod s != 0) = true then IntKind.wrap .i64 (IntKind.wrap .i64 (t.tdiv s) + 1) else IntKind.wrap .i64 (t.tdiv s)) > 4096) = true then 0 else if (t.tmod s != 0) = true then IntKind.wrap .i64 (IntKind.wrap .i64 (t.tdiv s) + 1) else IntKind.wrap .i64 (t.tdiv s)
def stepsE (c t s : Int) : Int := if (c != 0) = true then 2 else if decide ((if (t.tmod s != 0) = true then IntKind.wrap .i64 (IntKind.wrap .i64 (t.tdiv s) + 1) else IntKind.wrap .i64 (t.tdiv s)) > 4096) = true then 3 else 0
end Go.Proofs.Ytfknnnlbfdeomaa
