/- Any table: is it right? The program's answer and the document's. -/
import Derived.Test.YtfknnnlbfdeomaaRTab
import Derived.Test.YtfknnnlbfdeomaaTab
set_option linter.unusedVariables false
set_option linter.unusedSimpArgs false
namespace Go.Proofs.Ytfknnnlbfdeomaa
open Go.RowKit
def tabB (n : Nat) (at_ lo hi : Nat → Int) : Bool := decide (0 < n) && decide (n ≤ 64) && (List.range n).all (ptB at_ lo hi)
def TabIn (w : World) (A : Option Addr) (n : Nat) (at_ lo hi : Nat → Int) : Prop := 0 < n → ∃ ad, A = some ad ∧ Tab w ad n at_ lo hi
theorem TabIn.below {w w' : World} {A : Option Addr} {n : Nat} {at_ lo hi : Nat → Int} (h : TabIn w A n at_ lo hi) (hb : Below w.heap.size w w') : TabIn w' A n at_ lo hi := fun h0 => by
  obtain ⟨ad, e, t⟩ := h h0
  exact ⟨ad, e, t.below hb⟩
theorem checktable_any (n cap : Nat) (A : Option Addr) (at_ lo hi : Nat → Int) (w : World) (hT : 0 < n → ∃ ad, A = some ad ∧ Tab w ad n at_ lo hi) (hI : ∀ i, i < n → I64 (at_ i) ∧ I64 (lo i) ∧ I64 (hi i)) (res : Int) (hres : (if tabB n at_ lo hi then (0 : Int) else 2) = res) :
    Calls Try.prog 32 #[.slice A n cap] w fun e w' => e = .returned (.int .i64 res) ∧ Below w.heap.size w w' := by
  by_cases h0 : n = 0
  · subst h0
    obtain rfl : 2 = res := by rw [← hres]; simp [tabB]
    clear hres hT hI
    go_enter Try.func32, Try.ntmps32
    go_wp2
    go_ret
    exact ⟨rfl, (by repeat (first | with_reducible exact Below.refl _ _ | with_reducible refine bdrew ?_ | ((with_reducible first | refine bset ?_ ?_ | refine ball ?_ ?_ | refine bth (by assumption) ?_ ?_); first | omega | (simp <;> omega))))⟩
  · obtain ⟨ad, rfl, hT'⟩ := hT (by omega)
    by_cases h1 : n ≤ 64
    · exact checktable_run n cap ad at_ lo hi (by omega) h1 w hT' hI res (by rw [← hres]; simp [tabB, h1, Nat.pos_of_ne_zero h0])
    · obtain rfl : 2 = res := by rw [← hres]; simp [tabB, h1]
      have g1 : ((n : Int) == 0) = false := by simp; omega
      have g2 : (n == 0) = false := by simp; omega
      have g3 : (64 : Int) < (n : Int) := by omega
      clear hres hT hI hT'
      go_enter Try.func32, Try.ntmps32
      go_wp2
      go_ret
      exact ⟨rfl, (by repeat (first | with_reducible exact Below.refl _ _ | with_reducible refine bdrew ?_ | ((with_reducible first | refine bset ?_ ?_ | refine ball ?_ ?_ | refine bth (by assumption) ?_ ?_); first | omega | (simp <;> omega))))⟩
theorem rchecktable_any (n cap : Nat) (A : Option Addr) (at_ lo hi : Nat → Int) (w : World) (hT : 0 < n → ∃ ad, A = some ad ∧ Tab w ad n at_ lo hi) (hI : ∀ i, i < n → I64 (at_ i) ∧ I64 (lo i) ∧ I64 (hi i)) (res : Int) (hres : (if tabB n at_ lo hi then (0 : Int) else 2) = res) :
    Calls Try.prog 34 #[.slice A n cap] w fun e w' => e = .returned (.int .i64 res) ∧ Below w.heap.size w w' := by
  by_cases h0 : n = 0
  · subst h0
    obtain rfl : 2 = res := by rw [← hres]; simp [tabB]
    clear hres hT hI
    go_enter Try.func34, Try.ntmps34
    go_wp2
    go_ret
    exact ⟨rfl, (by repeat (first | with_reducible exact Below.refl _ _ | with_reducible refine bdrew ?_ | ((with_reducible first | refine bset ?_ ?_ | refine ball ?_ ?_ | refine bth (by assumption) ?_ ?_); first | omega | (simp <;> omega))))⟩
  · obtain ⟨ad, rfl, hT'⟩ := hT (by omega)
    by_cases h1 : n ≤ 64
    · exact rchecktable_run n cap ad at_ lo hi (by omega) h1 w hT' hI res (by rw [← hres]; simp [tabB, h1, Nat.pos_of_ne_zero h0])
    · obtain rfl : 2 = res := by rw [← hres]; simp [tabB, h1]
      have g1 : ((n : Int) == 0) = false := by simp; omega
      have g2 : (n == 0) = false := by simp; omega
      have g3 : (64 : Int) < (n : Int) := by omega
      clear hres hT hI hT'
      go_enter Try.func34, Try.ntmps34
      go_wp2
      go_ret
      exact ⟨rfl, (by repeat (first | with_reducible exact Below.refl _ _ | with_reducible refine bdrew ?_ | ((with_reducible first | refine bset ?_ ?_ | refine ball ?_ ?_ | refine bth (by assumption) ?_ ?_); first | omega | (simp <;> omega))))⟩
end Go.Proofs.Ytfknnnlbfdeomaa
