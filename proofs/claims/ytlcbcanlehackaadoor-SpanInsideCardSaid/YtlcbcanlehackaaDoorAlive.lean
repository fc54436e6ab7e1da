/- The chapter's first examples, as the law asks them ('alive'). -/
import Derived.Test.YtlcbcanlehackaaDoorText
import Derived.Test.YtlcbcanlehackaaDoorMul
import Derived.Test.YtlcbcanlehackaaDoorMakes
import Derived.Test.YtlcbcanlehackaaDoorRoot2
set_option linter.unusedVariables false
set_option linter.unusedSimpArgs false
namespace Go.Proofs.YtlcbcanlehackaaDoor
open Go.RowKit
theorem of_run (a b p q : Int) (ha : -1000 ≤ a ∧ a ≤ 1000) (hb : -1000 ≤ b ∧ b ≤ 1000) (hp : a * 4294967296 = p) (hq : b * 4294967296 = q) (w : World) :
    Calls Tryd.prog 51 #[.int .i64 a, .int .i64 b] w fun e w' => e = .returned (.agg #[.int .i64 (p), .int .i64 (q)]) ∧ Below w.heap.size w w' := by
  subst hp hq
  have e1 : wrap64 (a * 4294967296) = a * 4294967296 := by unfold wrap64; omega
  have e2 : wrap64 (b * 4294967296) = b * 4294967296 := by unfold wrap64; omega
  go_enter Tryd.func51, Tryd.ntmps51
  go_wp2
  refine bodyPost_ret (v := .agg #[.int .i64 (a * 4294967296), .int .i64 (b * 4294967296)]) (by simp only [results, Tryd.results51]; go_simp) rfl ⟨rfl, (by repeat (first | with_reducible exact Below.refl _ _ | with_reducible refine bdrew ?_ | ((with_reducible first | refine bset ?_ ?_ | refine ball ?_ ?_ | refine bth (by assumption) ?_ ?_); first | omega | (simp <;> omega))))⟩
theorem root_four : rtL 17179869184 = 8589934592 := by
  obtain ⟨a0, a1, a2⟩ := rt_spec (x := 17179869184) (by omega)
  generalize rtL 17179869184 = r at *
  by_cases h1 : r < 8589934592
  · have := Int.mul_le_mul (show r + 1 ≤ 8589934592 by omega) (show r + 1 ≤ 8589934592 by omega) (by omega) (by omega)
    omega
  · by_cases h2 : 8589934592 < r
    · have := Int.mul_le_mul (show 8589934593 ≤ r by omega) (show 8589934593 ≤ r by omega) (by omega) (by omega)
      omega
    · omega
theorem root_null : rtL 0 = 0 := by
  obtain ⟨a0, a1, a2⟩ := rt_spec (x := 0) (by omega)
  generalize rtL 0 = r at *
  by_cases h2 : 0 < r
  · have := Int.mul_le_mul (show 1 ≤ r by omega) (show 1 ≤ r by omega) (by omega) (by omega)
    omega
  · omega
theorem rootH_four : rtH 17179869184 = 8589934592 := by
  unfold rtH rtR
  rw [root_four]
  rfl
theorem mul_alive (w : World) : Calls Tryd.prog 18 #[.agg #[.int .i64 (-4294967296), .int .i64 (8589934592)], .agg #[.int .i64 (12884901888), .int .i64 (17179869184)]] w fun e w' => e = .returned (.tuple #[.agg #[.int .i64 (-17179869184), .int .i64 (34359738368)], .int .i64 0]) ∧ Below w.heap.size w w' := by
  refine (mul_any (-4294967296) 8589934592 12884901888 17179869184 ⟨by omega, by omega⟩ ⟨by omega, by omega⟩ ⟨by omega, by omega⟩ ⟨by omega, by omega⟩ w).mono ?_
  rintro e w' ⟨rfl, h⟩
  exact ⟨by kernel_rfl, h⟩
theorem ratio_alive (w : World) : Calls Tryd.prog 52 #[.int .i64 1, .int .i64 3] w fun e w' => e = .returned (.tuple #[.agg #[.int .i64 (1431655765), .int .i64 (1431655766)], .int .i64 0]) ∧ Below w.heap.size w w' := by
  refine (ratio_any 1 3 ⟨by omega, by omega⟩ ⟨by omega, by omega⟩ w).mono ?_
  rintro e w' ⟨rfl, h⟩
  exact ⟨by kernel_rfl, h⟩
theorem root_alive (w : World) : Calls Tryd.prog 21 #[.agg #[.int .i64 (-38654705664), .int .i64 (17179869184)]] w fun e w' => e = .returned (.tuple #[.agg #[.int .i64 (0), .int .i64 (8589934592)], .int .i64 0]) ∧ Below w.heap.size w w' := by
  refine (sroot_any (-38654705664) 17179869184 ⟨by omega, by omega⟩ ⟨by omega, by omega⟩ w).mono ?_
  rintro e w' ⟨rfl, h⟩
  have v : vB (-38654705664) 17179869184 = true := by decide
  have e1 : roH 17179869184 = 8589934592 := by unfold roH; simp [rootH_four]
  have e2 : roL (-38654705664) 17179869184 = 0 := by unfold roL; rw [if_neg (by omega), show mx (-38654705664) 0 = 0 from rfl, root_null]
  rw [v, e1, e2]
  exact ⟨by kernel_rfl, h⟩
set_option maxHeartbeats 4000000 in
set_option maxRecDepth 100000 in
theorem alive_any (w : World) : Calls Tryd.prog 13 #[] w fun e w' => e = .returned (.bool true) ∧ Below w.heap.size w w' := by
  have O1 := hide (of_run (-1) 2 (-4294967296) 8589934592 (by omega) (by omega) rfl rfl)
  have O2 := hide (of_run 3 4 12884901888 17179869184 (by omega) (by omega) rfl rfl)
  have O3 := hide (of_run (-9) 4 (-38654705664) 17179869184 (by omega) (by omega) rfl rfl)
  have O4 := hide (of_run (-4) 8 (-17179869184) 34359738368 (by omega) (by omega) rfl rfl)
  have O5 := hide (of_run 0 2 0 8589934592 (by omega) (by omega) rfl rfl)
  have M := hide mul_alive
  have R := hide ratio_alive
  have Q := hide root_alive
  have T := hide text_alive
  go_enter Tryd.func13, Tryd.ntmps13
  go_wp2_with fail
  refine (O1.out _).mono ?_
  rintro e w1 ⟨rfl, hb1⟩
  obtain ⟨hc1, hf1⟩ := bcell hb1
  have hz1 := hb1.size
  try simp only [World.size_alloc, World.size_setCell] at hz1
  clear hc1 hf1
  go_wp2_with fail
  refine (O2.out _).mono ?_
  rintro e w2 ⟨rfl, hb2⟩
  obtain ⟨hc2, hf2⟩ := bcell hb2
  have hz2 := hb2.size
  try simp only [World.size_alloc, World.size_setCell] at hz2
  clear hc2 hf2
  go_wp2_with fail
  refine (M.out _).mono ?_
  rintro e w3 ⟨rfl, hb3⟩
  obtain ⟨hc3, hf3⟩ := bcell hb3
  have hz3 := hb3.size
  try simp only [World.size_alloc, World.size_setCell] at hz3
  clear hc3 hf3
  go_wp2_with fail
  refine (R.out _).mono ?_
  rintro e w4 ⟨rfl, hb4⟩
  obtain ⟨hc4, hf4⟩ := bcell hb4
  have hz4 := hb4.size
  try simp only [World.size_alloc, World.size_setCell] at hz4
  try have : w3.heap.size < w4.heap.size := by omega
  try have : w3.heap.size < w4.heap.size + 1 := by omega
  try have : w3.heap.size ≤ w4.heap.size := by omega
  have c4_0_0 : w4.cell? ⟨w3.heap.size, 0, none⟩ = some (.int .i64 (-17179869184)) := by go_simp
  have c4_0_1 : w4.cell? ⟨w3.heap.size, 1, none⟩ = some (.int .i64 (34359738368)) := by go_simp
  clear hc4 hf4
  go_wp2_with fail
  refine (O3.out _).mono ?_
  rintro e w5 ⟨rfl, hb5⟩
  obtain ⟨hc5, hf5⟩ := bcell hb5
  have hz5 := hb5.size
  try simp only [World.size_alloc, World.size_setCell] at hz5
  try have : w3.heap.size < w5.heap.size := by omega
  try have : w3.heap.size ≤ w5.heap.size := by omega
  try have : w4.heap.size < w5.heap.size := by omega
  try have : w4.heap.size ≤ w5.heap.size := by omega
  have c5_0_0 : w5.cell? ⟨w3.heap.size, 0, none⟩ = some (.int .i64 (-17179869184)) := by go_simp
  have c5_0_1 : w5.cell? ⟨w3.heap.size, 1, none⟩ = some (.int .i64 (34359738368)) := by go_simp
  have c5_1_0 : w5.cell? ⟨w4.heap.size, 0, none⟩ = some (.int .i64 (1431655765)) := by go_simp
  have c5_1_1 : w5.cell? ⟨w4.heap.size, 1, none⟩ = some (.int .i64 (1431655766)) := by go_simp
  clear hc5 hf5 c4_0_0 c4_0_1
  go_wp2_with fail
  refine (Q.out _).mono ?_
  rintro e w6 ⟨rfl, hb6⟩
  obtain ⟨hc6, hf6⟩ := bcell hb6
  have hz6 := hb6.size
  try simp only [World.size_alloc, World.size_setCell] at hz6
  try have : w3.heap.size < w6.heap.size := by omega
  try have : w3.heap.size < w6.heap.size + 1 := by omega
  try have : w3.heap.size ≤ w6.heap.size := by omega
  try have : w4.heap.size < w6.heap.size := by omega
  try have : w4.heap.size < w6.heap.size + 1 := by omega
  try have : w4.heap.size ≤ w6.heap.size := by omega
  have c6_0_0 : w6.cell? ⟨w3.heap.size, 0, none⟩ = some (.int .i64 (-17179869184)) := by go_simp
  have c6_0_1 : w6.cell? ⟨w3.heap.size, 1, none⟩ = some (.int .i64 (34359738368)) := by go_simp
  have c6_1_0 : w6.cell? ⟨w4.heap.size, 0, none⟩ = some (.int .i64 (1431655765)) := by go_simp
  have c6_1_1 : w6.cell? ⟨w4.heap.size, 1, none⟩ = some (.int .i64 (1431655766)) := by go_simp
  clear hc6 hf6 c5_0_0 c5_0_1 c5_1_0 c5_1_1
  go_wp2_with fail
  refine QT.quiet_b (by kernel_rfl) (by kernel_rfl) ?_
  repeat (first
    | go_big_quiet_skip
    | (go_big_quiet_want; go_big_quiet_op; first
      | go_big_quiet_on
      | (apply Exists.intro
         refine ⟨fun _ => ?_, ?_⟩
         · first
             | rfl
             | (intro hC; obtain ⟨hcq, hfq⟩ := bcellB hC; go_simp; done)
             | (intro hC; obtain ⟨hcq, hfq⟩ := bcellB hC; go_simp; rfl)
             | (intro hC; have hcq := bcellG hC; go_simp; done)
             | (intro hC; have hcq := bcellG hC; go_simp; rfl)
             | (intro hC; go_at_call 51; (first | (with_reducible refine (O4.out _).mono ?_) | (with_reducible refine (O5.out _).mono ?_)); (intro e w2 hw; exact ⟨hw.1, qtrans (by simp) hC hw.2⟩))
             | (intro hC; go_at_call 10; (first | (with_reducible refine (T.out _).mono ?_)); (intro e w2 hw; exact ⟨hw.1, qtrans (by simp) hC hw.2⟩))
         go_big_quiet_on)))
  refine wpQuiet_nil ?_
  intro w9 hC9
  obtain ⟨hc9, hf9⟩ := bcellB hC9
  have hz9 := hC9.size
  go_wp2
  go_ret
  exact ⟨rfl, (by repeat (first | with_reducible exact Below.refl _ _ | with_reducible refine bdrew ?_ | ((with_reducible first | refine bset ?_ ?_ | refine ball ?_ ?_ | refine bth (by assumption) ?_ ?_); first | omega | (simp <;> omega))))⟩
end Go.Proofs.YtlcbcanlehackaaDoor
