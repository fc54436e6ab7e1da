/- The document's Floor, Ceil, over. -/
import Derived.Test.YtbfbnmmgmkbieaaQuo
set_option linter.unusedVariables false
set_option linter.unusedSimpArgs false
namespace Go.Proofs.Ytbfbnmmgmkbieaa
open Go.RowKit
theorem rfloor (a b : Int) (ka : -85070591730234615865843651857942052864 < a ∧ a < 85070591730234615865843651857942052864) (kb : 0 < b) (kb2 : b < 85070591730234615865843651857942052864) (w : World) :
    Calls Try.prog 102 #[.agg #[.int .i64 (wH (a)), .int .u64 (wL (a))], .agg #[.int .i64 (wH (b)), .int .u64 (wL (b))]] w fun e w' => e = .returned (.agg #[.int .i64 (wH (a / b)), .int .u64 (wL (a / b))]) ∧ Below w.heap.size w w' := by
  go_enter Try.func102, Try.ntmps102
  go_wp2_with fail
  refine (rquot a b ka kb kb2 _).mono ?_
  rintro e w1 ⟨rfl, hb1⟩
  obtain ⟨hc1, hf1⟩ := bcell hb1
  have hz1 := hb1.size
  try simp only [World.size_alloc, World.size_setCell] at hz1
  try have : w.heap.size < w1.heap.size := by omega
  try have : w.heap.size < w1.heap.size + 1 := by omega
  try have : w.heap.size < w1.heap.size + 1 + 1 := by omega
  try have : w.heap.size ≤ w1.heap.size := by omega
  try have : w.heap.size + 1 < w1.heap.size := by omega
  try have : w.heap.size + 1 < w1.heap.size + 1 := by omega
  try have : w.heap.size + 1 < w1.heap.size + 1 + 1 := by omega
  try have : w.heap.size + 1 ≤ w1.heap.size := by omega
  try have : w.heap.size + 1 + 1 < w1.heap.size := by omega
  try have : w.heap.size + 1 + 1 < w1.heap.size + 1 := by omega
  try have : w.heap.size + 1 + 1 < w1.heap.size + 1 + 1 := by omega
  try have : w.heap.size + 1 + 1 ≤ w1.heap.size := by omega
  have c1_0_0 : w1.cell? ⟨w.heap.size + 1 + 1, 0, none⟩ = some (.int .i64 0) := by go_simp
  have g1_0_0 : w1.frozen? ⟨w.heap.size + 1 + 1, 0, none⟩ = false := by go_simp
  have c1_0_1 : w1.cell? ⟨w.heap.size + 1 + 1, 1, none⟩ = some (.int .u64 0) := by go_simp
  have g1_0_1 : w1.frozen? ⟨w.heap.size + 1 + 1, 1, none⟩ = false := by go_simp
  clear hc1 hf1
  go_wp2
  refine bodyPost_ret (v := .agg #[.int .i64 (wH (a / b)), .int .u64 (wL (a / b))]) (by simp only [results, Try.results102]; go_simp) rfl ⟨rfl, (by repeat (first | with_reducible exact Below.refl _ _ | with_reducible refine bdrew ?_ | ((with_reducible first | refine bset ?_ ?_ | refine ball ?_ ?_ | refine bth (by assumption) ?_ ?_); first | omega | (simp <;> omega))))⟩
theorem rover_p (x y : Int) (hx : I64 x) (hy : I64 y) (h : 0 < y) (w : World) :
    Calls Try.prog 80 #[.agg #[.int .i64 (wH (x)), .int .u64 (wL (x))], .agg #[.int .i64 (wH (y)), .int .u64 (wL (y))]] w fun e w' => e = .returned (.tuple #[.agg #[.int .i64 (wH (x * 4294967296 / y)), .int .u64 (wL (x * 4294967296 / y))], .agg #[.int .i64 (wH (cdiv (x * 4294967296) y)), .int .u64 (wL (cdiv (x * 4294967296) y))]]) ∧ Below w.heap.size w w' := by
  have hs := wH_pos (Int.le_of_lt h)
  obtain ⟨_, _⟩ := hx
  obtain ⟨_, _⟩ := hy
  go_enter Try.func80, Try.ntmps80
  go_wp2_with fail
  refine QT.tail_b 6 (by kernel_rfl) (by kernel_rfl) ?_
  simp only [List.take_succ_cons, List.take_zero, List.drop_succ_cons, List.drop_zero]
  repeat (first
    | go_big_quiet_skip
    | (go_big_quiet_want; go_big_quiet_op; first
      | go_big_quiet_on
      | (apply Exists.intro
         refine ⟨fun _ => ?_, ?_⟩
         · first
             | rfl
             | (intro hC; obtain ⟨hcq, hfq⟩ := bcellB hC; go_simp; done)
             | (intro hC; obtain ⟨hcq, hfq⟩ := bcellB hC; go_simp; rfl)
             | (intro hC; go_at_call 76; (first | (with_reducible refine (rup32 x (by constructor <;> omega) _).mono ?_)); (intro e w2 hw; exact ⟨hw.1, qtrans (by simp) hC hw.2⟩))
             | (intro hC; go_at_call 121; (first | (with_reducible refine (rquot (x * 4294967296) y (by constructor <;> omega) h (by omega) _).mono ?_)); (intro e w2 hw; exact ⟨hw.1, qtrans (by simp) hC hw.2⟩))
         go_big_quiet_on)))
  refine wpQuiet_nil ?_
  intro w9 hC9
  obtain ⟨hc9, hf9⟩ := bcellB hC9
  have hz9 := hC9.size
  go_wp2
  refine bodyPost_ret (v := .tuple #[.agg #[.int .i64 (wH (x * 4294967296 / y)), .int .u64 (wL (x * 4294967296 / y))], .agg #[.int .i64 (wH (cdiv (x * 4294967296) y)), .int .u64 (wL (cdiv (x * 4294967296) y))]]) (by simp only [results, Try.results80]; go_simp) rfl ⟨rfl, (by repeat (first | with_reducible exact Below.refl _ _ | with_reducible refine bdrew ?_ | ((with_reducible first | refine bset ?_ ?_ | refine ball ?_ ?_ | refine bth (by assumption) ?_ ?_); first | omega | (simp <;> omega))))⟩
theorem rover_n (x y : Int) (hx : I64 x) (hy : I64 y) (h : y < 0) (w : World) :
    Calls Try.prog 80 #[.agg #[.int .i64 (wH (x)), .int .u64 (wL (x))], .agg #[.int .i64 (wH (y)), .int .u64 (wL (y))]] w fun e w' => e = .returned (.tuple #[.agg #[.int .i64 (wH (-x * 4294967296 / -y)), .int .u64 (wL (-x * 4294967296 / -y))], .agg #[.int .i64 (wH (cdiv (-x * 4294967296) (-y))), .int .u64 (wL (cdiv (-x * 4294967296) (-y)))]]) ∧ Below w.heap.size w w' := by
  have hs := wH_neg h
  obtain ⟨_, _⟩ := hx
  obtain ⟨_, _⟩ := hy
  go_enter Try.func80, Try.ntmps80
  go_wp2_with fail
  refine (rminus x (by constructor <;> omega) _).mono ?_
  rintro e w1 ⟨rfl, hb1⟩
  obtain ⟨hc1, hf1⟩ := bcell hb1
  have hz1 := hb1.size
  try simp only [World.size_alloc, World.size_setCell] at hz1
  try have : w.heap.size < w1.heap.size := by omega
  try have : w.heap.size ≤ w1.heap.size := by omega
  try have : w.heap.size + 1 < w1.heap.size := by omega
  try have : w.heap.size + 1 ≤ w1.heap.size := by omega
  try have : w.heap.size + 1 + 1 < w1.heap.size := by omega
  try have : w.heap.size + 1 + 1 ≤ w1.heap.size := by omega
  try have : w.heap.size + 1 + 1 + 1 < w1.heap.size := by omega
  try have : w.heap.size + 1 + 1 + 1 ≤ w1.heap.size := by omega
  have c1_0_0 : w1.cell? ⟨w.heap.size, 0, none⟩ = some (.int .i64 (wH (x))) := by go_simp
  have g1_0_0 : w1.frozen? ⟨w.heap.size, 0, none⟩ = false := by go_simp
  have c1_0_1 : w1.cell? ⟨w.heap.size, 1, none⟩ = some (.int .u64 (wL (x))) := by go_simp
  have g1_0_1 : w1.frozen? ⟨w.heap.size, 1, none⟩ = false := by go_simp
  have c1_1_0 : w1.cell? ⟨w.heap.size + 1, 0, none⟩ = some (.int .i64 (wH (y))) := by go_simp
  have g1_1_0 : w1.frozen? ⟨w.heap.size + 1, 0, none⟩ = false := by go_simp
  have c1_1_1 : w1.cell? ⟨w.heap.size + 1, 1, none⟩ = some (.int .u64 (wL (y))) := by go_simp
  have g1_1_1 : w1.frozen? ⟨w.heap.size + 1, 1, none⟩ = false := by go_simp
  have c1_2_0 : w1.cell? ⟨w.heap.size + 1 + 1, 0, none⟩ = some (.int .i64 0) := by go_simp
  have g1_2_0 : w1.frozen? ⟨w.heap.size + 1 + 1, 0, none⟩ = false := by go_simp
  have c1_2_1 : w1.cell? ⟨w.heap.size + 1 + 1, 1, none⟩ = some (.int .u64 0) := by go_simp
  have g1_2_1 : w1.frozen? ⟨w.heap.size + 1 + 1, 1, none⟩ = false := by go_simp
  have c1_3_0 : w1.cell? ⟨w.heap.size + 1 + 1 + 1, 0, none⟩ = some (.int .i64 0) := by go_simp
  have g1_3_0 : w1.frozen? ⟨w.heap.size + 1 + 1 + 1, 0, none⟩ = false := by go_simp
  have c1_3_1 : w1.cell? ⟨w.heap.size + 1 + 1 + 1, 1, none⟩ = some (.int .u64 0) := by go_simp
  have g1_3_1 : w1.frozen? ⟨w.heap.size + 1 + 1 + 1, 1, none⟩ = false := by go_simp
  clear hc1 hf1
  go_wp2_with fail
  refine (rminus y (by constructor <;> omega) _).mono ?_
  rintro e w2 ⟨rfl, hb2⟩
  obtain ⟨hc2, hf2⟩ := bcell hb2
  have hz2 := hb2.size
  try simp only [World.size_alloc, World.size_setCell] at hz2
  try have : w.heap.size < w2.heap.size := by omega
  try have : w.heap.size ≤ w2.heap.size := by omega
  try have : w.heap.size + 1 < w2.heap.size := by omega
  try have : w.heap.size + 1 ≤ w2.heap.size := by omega
  try have : w.heap.size + 1 + 1 < w2.heap.size := by omega
  try have : w.heap.size + 1 + 1 ≤ w2.heap.size := by omega
  try have : w.heap.size + 1 + 1 + 1 < w2.heap.size := by omega
  try have : w.heap.size + 1 + 1 + 1 ≤ w2.heap.size := by omega
  have c2_0_0 : w2.cell? ⟨w.heap.size, 0, none⟩ = some (.int .i64 (wH (-x))) := by go_simp
  have g2_0_0 : w2.frozen? ⟨w.heap.size, 0, none⟩ = false := by go_simp
  have c2_0_1 : w2.cell? ⟨w.heap.size, 1, none⟩ = some (.int .u64 (wL (-x))) := by go_simp
  have g2_0_1 : w2.frozen? ⟨w.heap.size, 1, none⟩ = false := by go_simp
  have c2_1_0 : w2.cell? ⟨w.heap.size + 1, 0, none⟩ = some (.int .i64 (wH (y))) := by go_simp
  have g2_1_0 : w2.frozen? ⟨w.heap.size + 1, 0, none⟩ = false := by go_simp
  have c2_1_1 : w2.cell? ⟨w.heap.size + 1, 1, none⟩ = some (.int .u64 (wL (y))) := by go_simp
  have g2_1_1 : w2.frozen? ⟨w.heap.size + 1, 1, none⟩ = false := by go_simp
  have c2_2_0 : w2.cell? ⟨w.heap.size + 1 + 1, 0, none⟩ = some (.int .i64 0) := by go_simp
  have g2_2_0 : w2.frozen? ⟨w.heap.size + 1 + 1, 0, none⟩ = false := by go_simp
  have c2_2_1 : w2.cell? ⟨w.heap.size + 1 + 1, 1, none⟩ = some (.int .u64 0) := by go_simp
  have g2_2_1 : w2.frozen? ⟨w.heap.size + 1 + 1, 1, none⟩ = false := by go_simp
  have c2_3_0 : w2.cell? ⟨w.heap.size + 1 + 1 + 1, 0, none⟩ = some (.int .i64 0) := by go_simp
  have g2_3_0 : w2.frozen? ⟨w.heap.size + 1 + 1 + 1, 0, none⟩ = false := by go_simp
  have c2_3_1 : w2.cell? ⟨w.heap.size + 1 + 1 + 1, 1, none⟩ = some (.int .u64 0) := by go_simp
  have g2_3_1 : w2.frozen? ⟨w.heap.size + 1 + 1 + 1, 1, none⟩ = false := by go_simp
  clear hc2 hf2 c1_0_0 g1_0_0 c1_0_1 g1_0_1 c1_1_0 g1_1_0 c1_1_1 g1_1_1 c1_2_0 g1_2_0 c1_2_1 g1_2_1 c1_3_0 g1_3_0 c1_3_1 g1_3_1
  go_wp2_with fail
  refine QT.tail_b 6 (by kernel_rfl) (by kernel_rfl) ?_
  simp only [List.take_succ_cons, List.take_zero, List.drop_succ_cons, List.drop_zero]
  repeat (first
    | go_big_quiet_skip
    | (go_big_quiet_want; go_big_quiet_op; first
      | go_big_quiet_on
      | (apply Exists.intro
         refine ⟨fun _ => ?_, ?_⟩
         · first
             | rfl
             | (intro hC; obtain ⟨hcq, hfq⟩ := bcellB hC; go_simp; done)
             | (intro hC; obtain ⟨hcq, hfq⟩ := bcellB hC; go_simp; rfl)
             | (intro hC; go_at_call 76; (first | (with_reducible refine (rup32 (-x) (by constructor <;> omega) _).mono ?_)); (intro e w2 hw; exact ⟨hw.1, qtrans (by simp) hC hw.2⟩))
             | (intro hC; go_at_call 121; (first | (with_reducible refine (rquot (-x * 4294967296) (-y) (by constructor <;> omega) (by omega) (by omega) _).mono ?_)); (intro e w2 hw; exact ⟨hw.1, qtrans (by simp) hC hw.2⟩))
         go_big_quiet_on)))
  refine wpQuiet_nil ?_
  intro w9 hC9
  obtain ⟨hc9, hf9⟩ := bcellB hC9
  have hz9 := hC9.size
  go_wp2
  refine bodyPost_ret (v := .tuple #[.agg #[.int .i64 (wH (-x * 4294967296 / -y)), .int .u64 (wL (-x * 4294967296 / -y))], .agg #[.int .i64 (wH (cdiv (-x * 4294967296) (-y))), .int .u64 (wL (cdiv (-x * 4294967296) (-y)))]]) (by simp only [results, Try.results80]; go_simp) rfl ⟨rfl, (by repeat (first | with_reducible exact Below.refl _ _ | with_reducible refine bdrew ?_ | ((with_reducible first | refine bset ?_ ?_ | refine ball ?_ ?_ | refine bth (by assumption) ?_ ?_); first | omega | (simp <;> omega))))⟩
end Go.Proofs.Ytbfbnmmgmkbieaa
