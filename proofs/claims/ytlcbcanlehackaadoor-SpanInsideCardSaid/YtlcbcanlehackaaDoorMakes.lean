/- Points and quotients of integers, on both sides. -/
import Derived.Test.YtlcbcanlehackaaDoorShare
import Derived.Test.YtlcbcanlehackaaDoorMid2
set_option linter.unusedVariables false
set_option linter.unusedSimpArgs false
namespace Go.Proofs.YtlcbcanlehackaaDoor
open Go.RowKit
def nB (n : Int) : Bool := decide (-9223372036854775807 ≤ n)
def raL (a b : Int) : Int := if b = 0 then 0 else oLo (sL a 4294967296 b) (sH a 4294967296 b)
def raH (a b : Int) : Int := if b = 0 then 0 else oHi (sL a 4294967296 b) (sH a 4294967296 b)
def raE (a b : Int) : Int := if b = 0 then 10 else oE (sL a 4294967296 b) (sH a 4294967296 b)
theorem ra_z {a b : Int} (h : b = 0) : raL a b = 0 ∧ raH a b = 0 ∧ raE a b = 10 := by simp [raL, raH, raE, h]
theorem ra_n {a b : Int} (h : ¬ b = 0) : raL a b = oLo (sL a 4294967296 b) (sH a 4294967296 b) ∧ raH a b = oHi (sL a 4294967296 b) (sH a 4294967296 b) ∧ raE a b = oE (sL a 4294967296 b) (sH a 4294967296 b) := by simp [raL, raH, raE, h]
theorem i64_one : I64 4294967296 := by constructor <;> omega
theorem i64_1 : I64 1 := by constructor <;> omega
theorem ratio_any (a b : Int) (ia : I64 a) (ib : I64 b) (w : World) :
    Calls Tryd.prog 52 #[.int .i64 a, .int .i64 b] w fun e w' => e = .returned (.tuple #[.agg #[.int .i64 (raL a b), .int .i64 (raH a b)], .int .i64 (raE a b)]) ∧ Below w.heap.size w w' := by
  by_cases c : b = 0
  · obtain ⟨e1, e2, e3⟩ := ra_z (a := a) c
    rw [e1, e2, e3]
    clear e1 e2 e3
    go_enter Tryd.func52, Tryd.ntmps52
    go_wp2
    refine bodyPost_ret (v := .tuple #[.agg #[.int .i64 (0), .int .i64 (0)], .int .i64 10]) (by simp only [results, Tryd.results52]; go_simp) rfl ⟨rfl, (by repeat (first | with_reducible exact Below.refl _ _ | with_reducible refine bdrew ?_ | ((with_reducible first | refine bset ?_ ?_ | refine ball ?_ ?_ | refine bth (by assumption) ?_ ?_); first | omega | (simp <;> omega))))⟩
  · obtain ⟨e1, e2, e3⟩ := ra_n (a := a) c
    rw [e1, e2, e3]
    have SH := hide (share_any a 4294967296 b ia i64_one ib c)
    clear e1 e2 e3 ia ib
    generalize sL a 4294967296 b = LO at *
    generalize sH a 4294967296 b = HI at *
    go_enter Tryd.func52, Tryd.ntmps52
    go_wp2_with fail
    refine (SH.out _).mono ?_
    rintro e w1 ⟨rfl, hb1⟩
    obtain ⟨hc1, hf1⟩ := bcell hb1
    have hz1 := hb1.size
    try simp only [World.size_alloc, World.size_setCell] at hz1
    try have : w.heap.size < w1.heap.size := by omega
    try have : w.heap.size ≤ w1.heap.size := by omega
    go_wp2
    refine bodyPost_ret (v := .tuple #[.agg #[.int .i64 (oLo LO HI), .int .i64 (oHi LO HI)], .int .i64 (oE LO HI)]) (by simp only [results, Tryd.results52]; go_simp) rfl ⟨rfl, (by repeat (first | with_reducible exact Below.refl _ _ | with_reducible refine bdrew ?_ | ((with_reducible first | refine bset ?_ ?_ | refine ball ?_ ?_ | refine bth (by assumption) ?_ ?_); first | omega | (simp <;> omega))))⟩
theorem ra_one (n : Int) : raL n 1 = oLo (n * 4294967296) (n * 4294967296) ∧ raH n 1 = oHi (n * 4294967296) (n * 4294967296) ∧ raE n 1 = oE (n * 4294967296) (n * 4294967296) := by
  have e : sL n 4294967296 1 = n * 4294967296 := by unfold sL sN ab; rw [if_neg (by omega), if_neg (by omega)]; omega
  have e2 : sH n 4294967296 1 = n * 4294967296 := by unfold sH sN ab cdiv; rw [if_neg (by omega), if_neg (by omega)]; omega
  have := ra_n (a := n) (b := 1) (by omega)
  rw [e, e2] at this
  exact this
end Go.Proofs.YtlcbcanlehackaaDoor
