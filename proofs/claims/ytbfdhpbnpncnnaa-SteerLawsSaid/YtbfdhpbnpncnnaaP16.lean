/- Packed: Makes RDivM. -/
import Derived.Test.YtbfdhpbnpncnnaaP12
import Derived.Test.YtbfdhpbnpncnnaaP13
import Derived.Test.YtbfdhpbnpncnnaaP15
set_option linter.unusedVariables false
set_option linter.unusedSimpArgs false
section
namespace Go.Proofs.Ytbfdhpbnpncnnaa
open Go.RowKit
def nB (n : Int) : Bool := decide (-9223372036854775807 ≤ n)
def raL (a b : Int) : Int := if b = 0 then 0 else oLo (sL a 4294967296 b) (sH a 4294967296 b)
def raH (a b : Int) : Int := if b = 0 then 0 else oHi (sL a 4294967296 b) (sH a 4294967296 b)
def raE (a b : Int) : Int := if b = 0 then 10 else oE (sL a 4294967296 b) (sH a 4294967296 b)
theorem ra_z {a b : Int} (h : b = 0) : raL a b = 0 ∧ raH a b = 0 ∧ raE a b = 10 := by simp [raL, raH, raE, h]
theorem ra_n {a b : Int} (h : ¬ b = 0) : raL a b = oLo (sL a 4294967296 b) (sH a 4294967296 b) ∧ raH a b = oHi (sL a 4294967296 b) (sH a 4294967296 b) ∧ raE a b = oE (sL a 4294967296 b) (sH a 4294967296 b) := by simp [raL, raH, raE, h]
theorem i64_one : I64 4294967296 := by constructor <;> omega
theorem i64_1 : I64 1 := by constructor <;> omega
theorem rover (x y : Int) (hx : I64 x) (hy : I64 y) (h : ¬ y = 0) (w : World) :
  Calls Try.prog 60 #[.agg #[.int .i64 (wH (x)), .int .u64 (wL (x))], .agg #[.int .i64 (wH (y)), .int .u64 (wL (y))]] w fun e w' => e = .returned (.tuple #[.agg #[.int .i64 (wH (sL x 4294967296 y)), .int .u64 (wL (sL x 4294967296 y))], .agg #[.int .i64 (wH (sH x 4294967296 y)), .int .u64 (wL (sH x 4294967296 y))]]) ∧ Below w.heap.size w w' := by
 by_cases c : 0 < y
 ·have e1 : sL x 4294967296 y = x * 4294967296 / y := by unfold sL sN ab; rw [if_neg (by omega), if_neg (by omega)]
  have e2 : sH x 4294967296 y = cdiv (x * 4294967296) y := by unfold sH sN ab; rw [if_neg (by omega), if_neg (by omega)]
  rw [e1, e2]
  exact rover_p x y hx hy c w
 ·have e1 : sL x 4294967296 y = -x * 4294967296 / -y := by unfold sL sN ab; rw [if_pos (by omega), if_pos (by omega), Int.neg_mul]
  have e2 : sH x 4294967296 y = cdiv (-x * 4294967296) (-y) := by unfold sH sN ab; rw [if_pos (by omega), if_pos (by omega), Int.neg_mul]
  rw [e1, e2]
  exact rover_n x y hx hy (by omega) w
theorem ra_one (n : Int) : raL n 1 = oLo (n * 4294967296) (n * 4294967296) ∧ raH n 1 = oHi (n * 4294967296) (n * 4294967296) ∧ raE n 1 = oE (n * 4294967296) (n * 4294967296) := by
 have e : sL n 4294967296 1 = n * 4294967296 := by unfold sL sN ab; rw [if_neg (by omega), if_neg (by omega)]; omega
 have e2 : sH n 4294967296 1 = n * 4294967296 := by unfold sH sN ab cdiv; rw [if_neg (by omega), if_neg (by omega)]; omega
 have := ra_n (a := n) (b := 1) (by omega)
 rw [e, e2] at this
 exact this
theorem rint_any (n : Int) (h : I64 n) (w : World) :
  Calls Try.prog 40 #[.int .i64 n] w fun e w' => e = .returned (.tuple #[.agg #[.int .i64 (raL n 1), .int .i64 (raH n 1)], .int .i64 (raE n 1)]) ∧ Below w.heap.size w w' := by
 obtain ⟨e1, e2, e3⟩ := ra_one n
 rw [e1, e2, e3]
 have OA := hide (rof n h)
 have UP := hide (rup32 n (by obtain ⟨_, _⟩ := h; constructor <;> omega))
 clear h e1 e2 e3
 generalize n * 4294967296 = M at *
 go_enter Try.func40, Try.ntmps40
 go_wp2_with fail
 refine (OA.out _).mono ?_
 rintro e w1 ⟨rfl, hb1⟩
 obtain ⟨hc1, hf1⟩ := bcell hb1
 have hz1 := hb1.size
 try simp only [World.size_alloc, World.size_setCell] at hz1
 try have : w.heap.size < w1.heap.size := by omega
 try have : w.heap.size ≤ w1.heap.size := by omega
 have c1_0_0 : w1.cell? ⟨w.heap.size, 0, none⟩ = some (.int .i64 (0)) := by go_simp
 have g1_0_0 : w1.frozen? ⟨w.heap.size, 0, none⟩ = false := by go_simp
 have c1_0_1 : w1.cell? ⟨w.heap.size, 1, none⟩ = some (.int .i64 (0)) := by go_simp
 have g1_0_1 : w1.frozen? ⟨w.heap.size, 1, none⟩ = false := by go_simp
 clear hc1 hf1
 go_wp2_with fail
 refine (UP.out _).mono ?_
 rintro e w2 ⟨rfl, hb2⟩
 obtain ⟨hc2, hf2⟩ := bcell hb2
 have hz2 := hb2.size
 try simp only [World.size_alloc, World.size_setCell] at hz2
 try have : w.heap.size < w2.heap.size := by omega
 try have : w.heap.size < w2.heap.size + 1 := by omega
 try have : w.heap.size ≤ w2.heap.size := by omega
 have c2_0_0 : w2.cell? ⟨w.heap.size, 0, none⟩ = some (.int .i64 (0)) := by go_simp
 have g2_0_0 : w2.frozen? ⟨w.heap.size, 0, none⟩ = false := by go_simp
 have c2_0_1 : w2.cell? ⟨w.heap.size, 1, none⟩ = some (.int .i64 (0)) := by go_simp
 have g2_0_1 : w2.frozen? ⟨w.heap.size, 1, none⟩ = false := by go_simp
 clear hc2 hf2 c1_0_0 g1_0_0 c1_0_1 g1_0_1
 go_wp2_with fail
 refine (rout M M _).mono ?_
 rintro e w3 ⟨rfl, hb3⟩
 obtain ⟨hc3, hf3⟩ := bcell hb3
 have hz3 := hb3.size
 try simp only [World.size_alloc, World.size_setCell] at hz3
 try have : w.heap.size < w3.heap.size := by omega
 try have : w.heap.size ≤ w3.heap.size := by omega
 try have : w2.heap.size < w3.heap.size := by omega
 try have : w2.heap.size ≤ w3.heap.size := by omega
 have c3_0_0 : w3.cell? ⟨w.heap.size, 0, none⟩ = some (.int .i64 (0)) := by go_simp
 have g3_0_0 : w3.frozen? ⟨w.heap.size, 0, none⟩ = false := by go_simp
 have c3_0_1 : w3.cell? ⟨w.heap.size, 1, none⟩ = some (.int .i64 (0)) := by go_simp
 have g3_0_1 : w3.frozen? ⟨w.heap.size, 1, none⟩ = false := by go_simp
 have c3_1_0 : w3.cell? ⟨w2.heap.size, 0, none⟩ = some (.int .i64 (wH (M))) := by go_simp
 have c3_1_1 : w3.cell? ⟨w2.heap.size, 1, none⟩ = some (.int .u64 (wL (M))) := by go_simp
 clear hc3 hf3 c2_0_0 g2_0_0 c2_0_1 g2_0_1
 go_wp2
 refine bodyPost_ret (v := .tuple #[.agg #[.int .i64 (oLo M M), .int .i64 (oHi M M)], .int .i64 (oE M M)]) (by simp only [results, Try.results40]; go_simp) rfl ⟨rfl, blw_⟩
end Go.Proofs.Ytbfdhpbnpncnnaa
end
section
namespace Go.Proofs.Ytbfdhpbnpncnnaa
open Go.RowKit
def RunD (p0 p1 p2 p3 q0 q1 q2 q3 k l h : Int) : Prop :=
 (k = 0 ∧ l = 0 ∧ h = 0) ∨ (k = 1 ∧ l = p0 ∧ h = q0) ∨ (k = 2 ∧ l = mi p0 p1 ∧ h = mx q0 q1) ∨ (k = 3 ∧ l = mi (mi p0 p1) p2 ∧ h = mx (mx q0 q1) q2) ∨ (k = 4 ∧ l = mi (mi (mi p0 p1) p2) p3 ∧ h = mx (mx (mx q0 q1) q2) q3)
end Go.Proofs.Ytbfdhpbnpncnnaa
end
