/- Packed: Quo Quo2 Mid Mid2. -/
import Derived.Deep.RegionHeld3
import Derived.Test.YtacpahebbnnckaaP6
set_option linter.unusedVariables false
set_option linter.unusedSimpArgs false
namespace Go.Proofs.Ytacpahebbnnckaa
section
open Go.RowKit
theorem rdivide (n d : Int) (hn0 : 0 ≤ n) (hn : n < 170141183460469231731687303715884105728) (hd0 : 0 < d) (hd : d < 85070591730234615865843651857942052864) (w : World) :
  Calls Try.prog 134 #[.agg #[.int .i64 (wH (n)), .int .u64 (wL (n))], .agg #[.int .i64 (wH (d)), .int .u64 (wL (d))]] w fun e w' => e = .returned (.tuple #[.agg #[.int .i64 (wH (n / d)), .int .u64 (wL (n / d))], .agg #[.int .i64 (wH (n % d)), .int .u64 (wL (n % d))]]) ∧ Below w.heap.size w w' := by
 by_cases c1 : n < 18446744073709551616
 ·by_cases c2 : d < 18446744073709551616
  ·exact rdivide_small n d hn0 c1 hd0 c2 w
  ·obtain ⟨n, rfl⟩ := Int.eq_ofNat_of_zero_le hn0
   exact rdivide_b12 n d (by omega) hd0 hd (.inr ⟨by rw [beq_iff_eq]; unfold wH; omega, by rw [beq_eq_false_iff_ne]; unfold wH; omega⟩) w
 ·obtain ⟨n, rfl⟩ := Int.eq_ofNat_of_zero_le hn0
  exact rdivide_b12 n d (by omega) hd0 hd (.inl (by rw [beq_eq_false_iff_ne]; unfold wH; omega)) w
def cdiv (a b : Int) : Int := -((-a) / b)
theorem cdiv_pos {a b : Int} (hb : 0 < b) (h : ¬ a % b = 0) : cdiv a b = a / b + 1 := by
 unfold cdiv
 rw [Int.neg_ediv, if_neg (by rw [Int.dvd_iff_emod_eq_zero]; exact h), Int.sign_eq_one_of_pos hb]
 omega
theorem cdiv_zero {a b : Int} (h : a % b = 0) : cdiv a b = a / b := by
 unfold cdiv
 rw [Int.neg_ediv, if_pos (by rw [Int.dvd_iff_emod_eq_zero]; exact h)]
 omega
theorem below_of_drew {W w1 : World} (h : Below W.drew.heap.size W.drew w1) : Below W.heap.size W w1 := (Below.drew (Below.refl _ _)).trans h
theorem rsame0 (x : Int) (r : Bool) (hr : decide (x = 0) = r) (w : World) :
  Calls Try.prog 135 #[.agg #[.int .i64 (wH (x)), .int .u64 (wL (x))], .agg #[.int .i64 0, .int .u64 0]] w fun e w' => e = .returned (.bool r) ∧ Below w.heap.size w w' := by
 subst hr; exact rsame x 0 w
theorem wH_neg {a : Int} (h : a < 0) : wH a < 0 := by unfold wH; omega
theorem wH_pos {a : Int} (h : 0 ≤ a) : ¬ wH a < 0 := by unfold wH; omega
theorem quo_bd {a b : Int} (ha : 0 ≤ a) (hb : 0 < b) : 0 ≤ a / b ∧ a / b ≤ a := ⟨Int.ediv_nonneg ha (Int.le_of_lt hb), Int.ediv_le_self b ha⟩
set_option maxHeartbeats 1000000 in
theorem rquot_p (a b : Int) (ka : 0 ≤ a) (ka2 : a < 85070591730234615865843651857942052864) (kb : 0 < b) (kb2 : b < 85070591730234615865843651857942052864) (w : World) :
  Calls Try.prog 117 #[.agg #[.int .i64 (wH (a)), .int .u64 (wL (a))], .agg #[.int .i64 (wH (b)), .int .u64 (wL (b))]] w fun e w' => e = .returned (.tuple #[.agg #[.int .i64 (wH (a / b)), .int .u64 (wL (a / b))], .agg #[.int .i64 (wH (cdiv a b)), .int .u64 (wL (cdiv a b))]]) ∧ Below w.heap.size w w' := by
 have hs := wH_pos ka
 have hq := hide (quo_bd ka kb)
 by_cases c : a % b = 0
 ·rw [cdiv_zero c]
  have HC := hide c
  clear c
  go_enter Try.func117, Try.ntmps117
  go_wp2_with fail
  refine (rdivide a b ka (by omega) kb kb2 _).mono ?_
  rintro e w1 ⟨rfl, hb1⟩
  obtain ⟨hc1, hf1⟩ := bcell hb1
  have hz1 := hb1.size
  try simp only [World.size_alloc, World.size_setCell] at hz1
  try have : w.heap.size < w1.heap.size := by omega
  try have : w.heap.size < w1.heap.size + 1 := by omega
  try have : w.heap.size < w1.heap.size + 1 + 1 := by omega
  try have : w.heap.size < w1.heap.size + 1 + 1 + 1 := by omega
  try have : w.heap.size ≤ w1.heap.size := by omega
  try have : w.heap.size + 1 < w1.heap.size := by omega
  try have : w.heap.size + 1 < w1.heap.size + 1 := by omega
  try have : w.heap.size + 1 < w1.heap.size + 1 + 1 := by omega
  try have : w.heap.size + 1 < w1.heap.size + 1 + 1 + 1 := by omega
  try have : w.heap.size + 1 ≤ w1.heap.size := by omega
  try have : w.heap.size + 1 + 1 < w1.heap.size := by omega
  try have : w.heap.size + 1 + 1 < w1.heap.size + 1 := by omega
  try have : w.heap.size + 1 + 1 < w1.heap.size + 1 + 1 := by omega
  try have : w.heap.size + 1 + 1 < w1.heap.size + 1 + 1 + 1 := by omega
  try have : w.heap.size + 1 + 1 ≤ w1.heap.size := by omega
  try have : w.heap.size + 1 + 1 + 1 < w1.heap.size := by omega
  try have : w.heap.size + 1 + 1 + 1 < w1.heap.size + 1 := by omega
  try have : w.heap.size + 1 + 1 + 1 < w1.heap.size + 1 + 1 := by omega
  try have : w.heap.size + 1 + 1 + 1 < w1.heap.size + 1 + 1 + 1 := by omega
  try have : w.heap.size + 1 + 1 + 1 ≤ w1.heap.size := by omega
  try have : w.heap.size + 1 + 1 + 1 + 1 < w1.heap.size := by omega
  try have : w.heap.size + 1 + 1 + 1 + 1 < w1.heap.size + 1 := by omega
  try have : w.heap.size + 1 + 1 + 1 + 1 < w1.heap.size + 1 + 1 := by omega
  try have : w.heap.size + 1 + 1 + 1 + 1 < w1.heap.size + 1 + 1 + 1 := by omega
  try have : w.heap.size + 1 + 1 + 1 + 1 ≤ w1.heap.size := by omega
  have c1_0_0 := zci w1 w.heap.size 0 (wH (a)) (by go_simp)
  have c1_0_1 := zcu w1 w.heap.size 1 (wL (a)) (by go_simp)
  have c1_1_0 := zci w1 (w.heap.size + 1) 0 (wH (b)) (by go_simp)
  have c1_1_1 := zcu w1 (w.heap.size + 1) 1 (wL (b)) (by go_simp)
  have c1_2_0 := zci w1 (w.heap.size + 1 + 1) 0 0 (by go_simp)
  have g1_2_0 := zfe w1 (w.heap.size + 1 + 1) 0 (by go_simp)
  have c1_2_1 := zcu w1 (w.heap.size + 1 + 1) 1 0 (by go_simp)
  have g1_2_1 := zfe w1 (w.heap.size + 1 + 1) 1 (by go_simp)
  have c1_3_0 := zci w1 (w.heap.size + 1 + 1 + 1) 0 0 (by go_simp)
  have g1_3_0 := zfe w1 (w.heap.size + 1 + 1 + 1) 0 (by go_simp)
  have c1_3_1 := zcu w1 (w.heap.size + 1 + 1 + 1) 1 0 (by go_simp)
  have g1_3_1 := zfe w1 (w.heap.size + 1 + 1 + 1) 1 (by go_simp)
  have c1_4_0 := zci w1 (w.heap.size + 1 + 1 + 1 + 1) 0 (wH (a)) (by go_simp)
  have g1_4_0 := zfe w1 (w.heap.size + 1 + 1 + 1 + 1) 0 (by go_simp)
  have c1_4_1 := zcu w1 (w.heap.size + 1 + 1 + 1 + 1) 1 (wL (a)) (by go_simp)
  have g1_4_1 := zfe w1 (w.heap.size + 1 + 1 + 1 + 1) 1 (by go_simp)
  clear hc1 hf1
  go_wp2_with fail
  refine (rsame0 (a % b) true (by rw [decide_eq_true_eq]; exact HC.out) _).mono ?_
  rintro e w2 ⟨rfl, hb2⟩
  obtain ⟨hc2, hf2⟩ := bcell hb2
  have hz2 := hb2.size
  try simp only [World.size_alloc, World.size_setCell] at hz2
  try refine zw5 w w2 (by omega) fun _ _ _ _ _ _ _ _ _ _ => ?_
  try have : w1.heap.size < w2.heap.size := by omega
  try have : w1.heap.size ≤ w2.heap.size := by omega
  try have : w1.heap.size + 1 < w2.heap.size := by omega
  try have : w1.heap.size + 1 ≤ w2.heap.size := by omega
  try have : w1.heap.size + 1 + 1 < w2.heap.size := by omega
  try have : w1.heap.size + 1 + 1 ≤ w2.heap.size := by omega
  have c2_0_0 := zci w2 w.heap.size 0 (wH (a)) (by go_simp)
  have c2_0_1 := zcu w2 w.heap.size 1 (wL (a)) (by go_simp)
  have c2_1_0 := zci w2 (w.heap.size + 1) 0 (wH (b)) (by go_simp)
  have c2_1_1 := zcu w2 (w.heap.size + 1) 1 (wL (b)) (by go_simp)
  have c2_2_0 := zci w2 (w.heap.size + 1 + 1) 0 0 (by go_simp)
  have g2_2_0 := zfe w2 (w.heap.size + 1 + 1) 0 (by go_simp)
  have c2_2_1 := zcu w2 (w.heap.size + 1 + 1) 1 0 (by go_simp)
  have g2_2_1 := zfe w2 (w.heap.size + 1 + 1) 1 (by go_simp)
  have c2_3_0 := zci w2 (w.heap.size + 1 + 1 + 1) 0 0 (by go_simp)
  have g2_3_0 := zfe w2 (w.heap.size + 1 + 1 + 1) 0 (by go_simp)
  have c2_3_1 := zcu w2 (w.heap.size + 1 + 1 + 1) 1 0 (by go_simp)
  have g2_3_1 := zfe w2 (w.heap.size + 1 + 1 + 1) 1 (by go_simp)
  have c2_4_0 := zci w2 (w.heap.size + 1 + 1 + 1 + 1) 0 (wH (a)) (by go_simp)
  have g2_4_0 := zfe w2 (w.heap.size + 1 + 1 + 1 + 1) 0 (by go_simp)
  have c2_4_1 := zcu w2 (w.heap.size + 1 + 1 + 1 + 1) 1 (wL (a)) (by go_simp)
  have g2_4_1 := zfe w2 (w.heap.size + 1 + 1 + 1 + 1) 1 (by go_simp)
  have c2_5_0 := zci w2 w1.heap.size 0 (wH (a / b)) (by go_simp)
  have g2_5_0 := zfe w2 w1.heap.size 0 (by go_simp)
  have c2_5_1 := zcu w2 w1.heap.size 1 (wL (a / b)) (by go_simp)
  have g2_5_1 := zfe w2 w1.heap.size 1 (by go_simp)
  have c2_6_0 := zci w2 (w1.heap.size + 1) 0 (wH (a % b)) (by go_simp)
  have g2_6_0 := zfe w2 (w1.heap.size + 1) 0 (by go_simp)
  have c2_6_1 := zcu w2 (w1.heap.size + 1) 1 (wL (a % b)) (by go_simp)
  have g2_6_1 := zfe w2 (w1.heap.size + 1) 1 (by go_simp)
  have c2_7_0 := zci w2 (w1.heap.size + 1 + 1) 0 (wH (a / b)) (by go_simp)
  have g2_7_0 := zfe w2 (w1.heap.size + 1 + 1) 0 (by go_simp)
  have c2_7_1 := zcu w2 (w1.heap.size + 1 + 1) 1 (wL (a / b)) (by go_simp)
  have g2_7_1 := zfe w2 (w1.heap.size + 1 + 1) 1 (by go_simp)
  clear hc2 hf2 c1_0_0 c1_0_1 c1_1_0 c1_1_1 c1_2_0 g1_2_0 c1_2_1 g1_2_1 c1_3_0 g1_3_0 c1_3_1 g1_3_1 c1_4_0 g1_4_0 c1_4_1 g1_4_1
  go_wp2_with fail
  go_region
  all_goals go_wp2
  all_goals refine bodyPost_ret (v := .tuple #[.agg #[.int .i64 (wH (a / b)), .int .u64 (wL (a / b))], .agg #[.int .i64 (wH (a / b)), .int .u64 (wL (a / b))]]) (by simp only [results, Try.results117]; go_simp) rfl ⟨rfl, blw_⟩
 ·rw [cdiv_pos kb c]
  have HC := hide c
  clear c
  go_enter Try.func117, Try.ntmps117
  go_wp2_with fail
  refine (rdivide a b ka (by omega) kb kb2 _).mono ?_
  rintro e w1 ⟨rfl, hb1⟩
  obtain ⟨hc1, hf1⟩ := bcell hb1
  have hz1 := hb1.size
  try simp only [World.size_alloc, World.size_setCell] at hz1
  try have : w.heap.size < w1.heap.size := by omega
  try have : w.heap.size < w1.heap.size + 1 := by omega
  try have : w.heap.size < w1.heap.size + 1 + 1 := by omega
  try have : w.heap.size < w1.heap.size + 1 + 1 + 1 := by omega
  try have : w.heap.size ≤ w1.heap.size := by omega
  try have : w.heap.size + 1 < w1.heap.size := by omega
  try have : w.heap.size + 1 < w1.heap.size + 1 := by omega
  try have : w.heap.size + 1 < w1.heap.size + 1 + 1 := by omega
  try have : w.heap.size + 1 < w1.heap.size + 1 + 1 + 1 := by omega
  try have : w.heap.size + 1 ≤ w1.heap.size := by omega
  try have : w.heap.size + 1 + 1 < w1.heap.size := by omega
  try have : w.heap.size + 1 + 1 < w1.heap.size + 1 := by omega
  try have : w.heap.size + 1 + 1 < w1.heap.size + 1 + 1 := by omega
  try have : w.heap.size + 1 + 1 < w1.heap.size + 1 + 1 + 1 := by omega
  try have : w.heap.size + 1 + 1 ≤ w1.heap.size := by omega
  try have : w.heap.size + 1 + 1 + 1 < w1.heap.size := by omega
  try have : w.heap.size + 1 + 1 + 1 < w1.heap.size + 1 := by omega
  try have : w.heap.size + 1 + 1 + 1 < w1.heap.size + 1 + 1 := by omega
  try have : w.heap.size + 1 + 1 + 1 < w1.heap.size + 1 + 1 + 1 := by omega
  try have : w.heap.size + 1 + 1 + 1 ≤ w1.heap.size := by omega
  try have : w.heap.size + 1 + 1 + 1 + 1 < w1.heap.size := by omega
  try have : w.heap.size + 1 + 1 + 1 + 1 < w1.heap.size + 1 := by omega
  try have : w.heap.size + 1 + 1 + 1 + 1 < w1.heap.size + 1 + 1 := by omega
  try have : w.heap.size + 1 + 1 + 1 + 1 < w1.heap.size + 1 + 1 + 1 := by omega
  try have : w.heap.size + 1 + 1 + 1 + 1 ≤ w1.heap.size := by omega
  have c1_0_0 := zci w1 w.heap.size 0 (wH (a)) (by go_simp)
  have c1_0_1 := zcu w1 w.heap.size 1 (wL (a)) (by go_simp)
  have c1_1_0 := zci w1 (w.heap.size + 1) 0 (wH (b)) (by go_simp)
  have c1_1_1 := zcu w1 (w.heap.size + 1) 1 (wL (b)) (by go_simp)
  have c1_2_0 := zci w1 (w.heap.size + 1 + 1) 0 0 (by go_simp)
  have g1_2_0 := zfe w1 (w.heap.size + 1 + 1) 0 (by go_simp)
  have c1_2_1 := zcu w1 (w.heap.size + 1 + 1) 1 0 (by go_simp)
  have g1_2_1 := zfe w1 (w.heap.size + 1 + 1) 1 (by go_simp)
  have c1_3_0 := zci w1 (w.heap.size + 1 + 1 + 1) 0 0 (by go_simp)
  have g1_3_0 := zfe w1 (w.heap.size + 1 + 1 + 1) 0 (by go_simp)
  have c1_3_1 := zcu w1 (w.heap.size + 1 + 1 + 1) 1 0 (by go_simp)
  have g1_3_1 := zfe w1 (w.heap.size + 1 + 1 + 1) 1 (by go_simp)
  have c1_4_0 := zci w1 (w.heap.size + 1 + 1 + 1 + 1) 0 (wH (a)) (by go_simp)
  have g1_4_0 := zfe w1 (w.heap.size + 1 + 1 + 1 + 1) 0 (by go_simp)
  have c1_4_1 := zcu w1 (w.heap.size + 1 + 1 + 1 + 1) 1 (wL (a)) (by go_simp)
  have g1_4_1 := zfe w1 (w.heap.size + 1 + 1 + 1 + 1) 1 (by go_simp)
  clear hc1 hf1
  go_wp2_with fail
  refine (rsame0 (a % b) false (by rw [decide_eq_false_iff_not]; exact HC.out) _).mono ?_
  rintro e w2 ⟨rfl, hb2⟩
  obtain ⟨hc2, hf2⟩ := bcell hb2
  have hz2 := hb2.size
  try simp only [World.size_alloc, World.size_setCell] at hz2
  try refine zw5 w w2 (by omega) fun _ _ _ _ _ _ _ _ _ _ => ?_
  try have : w1.heap.size < w2.heap.size := by omega
  try have : w1.heap.size ≤ w2.heap.size := by omega
  try have : w1.heap.size + 1 < w2.heap.size := by omega
  try have : w1.heap.size + 1 ≤ w2.heap.size := by omega
  try have : w1.heap.size + 1 + 1 < w2.heap.size := by omega
  try have : w1.heap.size + 1 + 1 ≤ w2.heap.size := by omega
  have c2_0_0 := zci w2 w.heap.size 0 (wH (a)) (by go_simp)
  have c2_0_1 := zcu w2 w.heap.size 1 (wL (a)) (by go_simp)
  have c2_1_0 := zci w2 (w.heap.size + 1) 0 (wH (b)) (by go_simp)
  have c2_1_1 := zcu w2 (w.heap.size + 1) 1 (wL (b)) (by go_simp)
  have c2_2_0 := zci w2 (w.heap.size + 1 + 1) 0 0 (by go_simp)
  have g2_2_0 := zfe w2 (w.heap.size + 1 + 1) 0 (by go_simp)
  have c2_2_1 := zcu w2 (w.heap.size + 1 + 1) 1 0 (by go_simp)
  have g2_2_1 := zfe w2 (w.heap.size + 1 + 1) 1 (by go_simp)
  have c2_3_0 := zci w2 (w.heap.size + 1 + 1 + 1) 0 0 (by go_simp)
  have g2_3_0 := zfe w2 (w.heap.size + 1 + 1 + 1) 0 (by go_simp)
  have c2_3_1 := zcu w2 (w.heap.size + 1 + 1 + 1) 1 0 (by go_simp)
  have g2_3_1 := zfe w2 (w.heap.size + 1 + 1 + 1) 1 (by go_simp)
  have c2_4_0 := zci w2 (w.heap.size + 1 + 1 + 1 + 1) 0 (wH (a)) (by go_simp)
  have g2_4_0 := zfe w2 (w.heap.size + 1 + 1 + 1 + 1) 0 (by go_simp)
  have c2_4_1 := zcu w2 (w.heap.size + 1 + 1 + 1 + 1) 1 (wL (a)) (by go_simp)
  have g2_4_1 := zfe w2 (w.heap.size + 1 + 1 + 1 + 1) 1 (by go_simp)
  have c2_5_0 := zci w2 w1.heap.size 0 (wH (a / b)) (by go_simp)
  have g2_5_0 := zfe w2 w1.heap.size 0 (by go_simp)
  have c2_5_1 := zcu w2 w1.heap.size 1 (wL (a / b)) (by go_simp)
  have g2_5_1 := zfe w2 w1.heap.size 1 (by go_simp)
  have c2_6_0 := zci w2 (w1.heap.size + 1) 0 (wH (a % b)) (by go_simp)
  have g2_6_0 := zfe w2 (w1.heap.size + 1) 0 (by go_simp)
  have c2_6_1 := zcu w2 (w1.heap.size + 1) 1 (wL (a % b)) (by go_simp)
  have g2_6_1 := zfe w2 (w1.heap.size + 1) 1 (by go_simp)
  have c2_7_0 := zci w2 (w1.heap.size + 1 + 1) 0 (wH (a / b)) (by go_simp)
  have g2_7_0 := zfe w2 (w1.heap.size + 1 + 1) 0 (by go_simp)
  have c2_7_1 := zcu w2 (w1.heap.size + 1 + 1) 1 (wL (a / b)) (by go_simp)
  have g2_7_1 := zfe w2 (w1.heap.size + 1 + 1) 1 (by go_simp)
  clear hc2 hf2 c1_0_0 c1_0_1 c1_1_0 c1_1_1 c1_2_0 g1_2_0 c1_2_1 g1_2_1 c1_3_0 g1_3_0 c1_3_1 g1_3_1 c1_4_0 g1_4_0 c1_4_1 g1_4_1
  go_wp2_with fail
  refine (rplus1 (a / b) (by have := hq.out; constructor <;> omega) (by have := hq.out; constructor <;> omega) _).mono ?_
  rintro e w3 ⟨rfl, hb3⟩
  obtain ⟨hc3, hf3⟩ := bcell hb3
  have hz3 := hb3.size
  try simp only [World.size_alloc, World.size_setCell] at hz3
  try refine zw5 w w3 (by omega) fun _ _ _ _ _ _ _ _ _ _ => ?_
  try have : w1.heap.size < w3.heap.size := by omega
  try have : w1.heap.size ≤ w3.heap.size := by omega
  try have : w1.heap.size + 1 < w3.heap.size := by omega
  try have : w1.heap.size + 1 ≤ w3.heap.size := by omega
  try have : w1.heap.size + 1 + 1 < w3.heap.size := by omega
  try have : w1.heap.size + 1 + 1 ≤ w3.heap.size := by omega
  have c3_0_0 := zci w3 w.heap.size 0 (wH (a)) (by go_simp)
  have c3_0_1 := zcu w3 w.heap.size 1 (wL (a)) (by go_simp)
  have c3_1_0 := zci w3 (w.heap.size + 1) 0 (wH (b)) (by go_simp)
  have c3_1_1 := zcu w3 (w.heap.size + 1) 1 (wL (b)) (by go_simp)
  have c3_2_0 := zci w3 (w.heap.size + 1 + 1) 0 0 (by go_simp)
  have g3_2_0 := zfe w3 (w.heap.size + 1 + 1) 0 (by go_simp)
  have c3_2_1 := zcu w3 (w.heap.size + 1 + 1) 1 0 (by go_simp)
  have g3_2_1 := zfe w3 (w.heap.size + 1 + 1) 1 (by go_simp)
  have c3_3_0 := zci w3 (w.heap.size + 1 + 1 + 1) 0 0 (by go_simp)
  have g3_3_0 := zfe w3 (w.heap.size + 1 + 1 + 1) 0 (by go_simp)
  have c3_3_1 := zcu w3 (w.heap.size + 1 + 1 + 1) 1 0 (by go_simp)
  have g3_3_1 := zfe w3 (w.heap.size + 1 + 1 + 1) 1 (by go_simp)
  have c3_4_0 := zci w3 (w.heap.size + 1 + 1 + 1 + 1) 0 (wH (a)) (by go_simp)
  have g3_4_0 := zfe w3 (w.heap.size + 1 + 1 + 1 + 1) 0 (by go_simp)
  have c3_4_1 := zcu w3 (w.heap.size + 1 + 1 + 1 + 1) 1 (wL (a)) (by go_simp)
  have g3_4_1 := zfe w3 (w.heap.size + 1 + 1 + 1 + 1) 1 (by go_simp)
  have c3_5_0 := zci w3 w1.heap.size 0 (wH (a / b)) (by go_simp)
  have g3_5_0 := zfe w3 w1.heap.size 0 (by go_simp)
  have c3_5_1 := zcu w3 w1.heap.size 1 (wL (a / b)) (by go_simp)
  have g3_5_1 := zfe w3 w1.heap.size 1 (by go_simp)
  have c3_6_0 := zci w3 (w1.heap.size + 1) 0 (wH (a % b)) (by go_simp)
  have g3_6_0 := zfe w3 (w1.heap.size + 1) 0 (by go_simp)
  have c3_6_1 := zcu w3 (w1.heap.size + 1) 1 (wL (a % b)) (by go_simp)
  have g3_6_1 := zfe w3 (w1.heap.size + 1) 1 (by go_simp)
  have c3_7_0 := zci w3 (w1.heap.size + 1 + 1) 0 (wH (a / b)) (by go_simp)
  have g3_7_0 := zfe w3 (w1.heap.size + 1 + 1) 0 (by go_simp)
  have c3_7_1 := zcu w3 (w1.heap.size + 1 + 1) 1 (wL (a / b)) (by go_simp)
  have g3_7_1 := zfe w3 (w1.heap.size + 1 + 1) 1 (by go_simp)
  clear hc3 hf3 c2_0_0 c2_0_1 c2_1_0 c2_1_1 c2_2_0 g2_2_0 c2_2_1 g2_2_1 c2_3_0 g2_3_0 c2_3_1 g2_3_1 c2_4_0 g2_4_0 c2_4_1 g2_4_1 c2_5_0 g2_5_0 c2_5_1 g2_5_1 c2_6_0 g2_6_0 c2_6_1 g2_6_1 c2_7_0 g2_7_0 c2_7_1 g2_7_1
  go_wp2_with fail
  go_region
  all_goals go_wp2
  all_goals refine bodyPost_ret (v := .tuple #[.agg #[.int .i64 (wH (a / b)), .int .u64 (wL (a / b))], .agg #[.int .i64 (wH (a / b + 1)), .int .u64 (wL (a / b + 1))]]) (by simp only [results, Try.results117]; go_simp) rfl ⟨rfl, blw_⟩
theorem neg_div_z {a b : Int} (h : (-a) % b = 0) : a / b = -((-a) / b) ∧ cdiv a b = -((-a) / b) := by
 have h2 := cdiv_zero h
 unfold cdiv at *
 rw [Int.neg_neg] at h2
 exact ⟨by omega, by omega⟩
theorem neg_div_n {a b : Int} (hb : 0 < b) (h : ¬ (-a) % b = 0) : a / b = -((-a) / b + 1) ∧ cdiv a b = -((-a) / b) := by
 have h2 := cdiv_pos hb h
 unfold cdiv at *
 rw [Int.neg_neg] at h2
 exact ⟨by omega, by omega⟩
set_option maxHeartbeats 1000000 in
theorem rquot_n (a b : Int) (ka : a < 0) (ka2 : -85070591730234615865843651857942052864 < a) (kb : 0 < b) (kb2 : b < 85070591730234615865843651857942052864) (w : World) :
  Calls Try.prog 117 #[.agg #[.int .i64 (wH (a)), .int .u64 (wL (a))], .agg #[.int .i64 (wH (b)), .int .u64 (wL (b))]] w fun e w' => e = .returned (.tuple #[.agg #[.int .i64 (wH (a / b)), .int .u64 (wL (a / b))], .agg #[.int .i64 (wH (cdiv a b)), .int .u64 (wL (cdiv a b))]]) ∧ Below w.heap.size w w' := by
 have hs := wH_neg ka
 have hq := hide (quo_bd (a := -a) (b := b) (by omega) kb)
 have HA : Hid (R126 a) := hide ⟨by omega, by omega⟩
 by_cases c : (-a) % b = 0
 ·rw [(neg_div_z c).1, (neg_div_z c).2]
  have HC := hide c
  clear c
  go_enter Try.func117, Try.ntmps117
  go_wp2_with fail
  refine (rminus a HA.out _).mono ?_
  rintro e w1 ⟨rfl, hb1⟩
  obtain ⟨hc1, hf1⟩ := bcell hb1
  have hz1 := hb1.size
  try simp only [World.size_alloc, World.size_setCell] at hz1
  try refine zw5 w w1 (by omega) fun _ _ _ _ _ _ _ _ _ _ => ?_
  have c1_0_0 := zci w1 w.heap.size 0 (wH (a)) (by go_simp)
  have c1_0_1 := zcu w1 w.heap.size 1 (wL (a)) (by go_simp)
  have c1_1_0 := zci w1 (w.heap.size + 1) 0 (wH (b)) (by go_simp)
  have c1_1_1 := zcu w1 (w.heap.size + 1) 1 (wL (b)) (by go_simp)
  have c1_2_0 := zci w1 (w.heap.size + 1 + 1) 0 0 (by go_simp)
  have g1_2_0 := zfe w1 (w.heap.size + 1 + 1) 0 (by go_simp)
  have c1_2_1 := zcu w1 (w.heap.size + 1 + 1) 1 0 (by go_simp)
  have g1_2_1 := zfe w1 (w.heap.size + 1 + 1) 1 (by go_simp)
  have c1_3_0 := zci w1 (w.heap.size + 1 + 1 + 1) 0 0 (by go_simp)
  have g1_3_0 := zfe w1 (w.heap.size + 1 + 1 + 1) 0 (by go_simp)
  have c1_3_1 := zcu w1 (w.heap.size + 1 + 1 + 1) 1 0 (by go_simp)
  have g1_3_1 := zfe w1 (w.heap.size + 1 + 1 + 1) 1 (by go_simp)
  have c1_4_0 := zci w1 (w.heap.size + 1 + 1 + 1 + 1) 0 (wH (a)) (by go_simp)
  have g1_4_0 := zfe w1 (w.heap.size + 1 + 1 + 1 + 1) 0 (by go_simp)
  have c1_4_1 := zcu w1 (w.heap.size + 1 + 1 + 1 + 1) 1 (wL (a)) (by go_simp)
  have g1_4_1 := zfe w1 (w.heap.size + 1 + 1 + 1 + 1) 1 (by go_simp)
  clear hc1 hf1
  go_wp2_with fail
  refine (rdivide (-a) b (by omega) (by omega) kb kb2 _).mono ?_
  rintro e w2 ⟨rfl, hb2⟩
  obtain ⟨hc2, hf2⟩ := bcell hb2
  have hz2 := hb2.size
  try simp only [World.size_alloc, World.size_setCell] at hz2
  try have : w.heap.size < w2.heap.size := by omega
  try have : w.heap.size < w2.heap.size + 1 := by omega
  try have : w.heap.size < w2.heap.size + 1 + 1 := by omega
  try have : w.heap.size < w2.heap.size + 1 + 1 + 1 := by omega
  try have : w.heap.size ≤ w2.heap.size := by omega
  try have : w.heap.size + 1 < w2.heap.size := by omega
  try have : w.heap.size + 1 < w2.heap.size + 1 := by omega
  try have : w.heap.size + 1 < w2.heap.size + 1 + 1 := by omega
  try have : w.heap.size + 1 < w2.heap.size + 1 + 1 + 1 := by omega
  try have : w.heap.size + 1 ≤ w2.heap.size := by omega
  try have : w.heap.size + 1 + 1 < w2.heap.size := by omega
  try have : w.heap.size + 1 + 1 < w2.heap.size + 1 := by omega
  try have : w.heap.size + 1 + 1 < w2.heap.size + 1 + 1 := by omega
  try have : w.heap.size + 1 + 1 < w2.heap.size + 1 + 1 + 1 := by omega
  try have : w.heap.size + 1 + 1 ≤ w2.heap.size := by omega
  try have : w.heap.size + 1 + 1 + 1 < w2.heap.size := by omega
  try have : w.heap.size + 1 + 1 + 1 < w2.heap.size + 1 := by omega
  try have : w.heap.size + 1 + 1 + 1 < w2.heap.size + 1 + 1 := by omega
  try have : w.heap.size + 1 + 1 + 1 < w2.heap.size + 1 + 1 + 1 := by omega
  try have : w.heap.size + 1 + 1 + 1 ≤ w2.heap.size := by omega
  try have : w.heap.size + 1 + 1 + 1 + 1 < w2.heap.size := by omega
  try have : w.heap.size + 1 + 1 + 1 + 1 < w2.heap.size + 1 := by omega
  try have : w.heap.size + 1 + 1 + 1 + 1 < w2.heap.size + 1 + 1 := by omega
  try have : w.heap.size + 1 + 1 + 1 + 1 < w2.heap.size + 1 + 1 + 1 := by omega
  try have : w.heap.size + 1 + 1 + 1 + 1 ≤ w2.heap.size := by omega
  have c2_0_0 := zci w2 w.heap.size 0 (wH (a)) (by go_simp)
  have c2_0_1 := zcu w2 w.heap.size 1 (wL (a)) (by go_simp)
  have c2_1_0 := zci w2 (w.heap.size + 1) 0 (wH (b)) (by go_simp)
  have c2_1_1 := zcu w2 (w.heap.size + 1) 1 (wL (b)) (by go_simp)
  have c2_2_0 := zci w2 (w.heap.size + 1 + 1) 0 0 (by go_simp)
  have g2_2_0 := zfe w2 (w.heap.size + 1 + 1) 0 (by go_simp)
  have c2_2_1 := zcu w2 (w.heap.size + 1 + 1) 1 0 (by go_simp)
  have g2_2_1 := zfe w2 (w.heap.size + 1 + 1) 1 (by go_simp)
  have c2_3_0 := zci w2 (w.heap.size + 1 + 1 + 1) 0 0 (by go_simp)
  have g2_3_0 := zfe w2 (w.heap.size + 1 + 1 + 1) 0 (by go_simp)
  have c2_3_1 := zcu w2 (w.heap.size + 1 + 1 + 1) 1 0 (by go_simp)
  have g2_3_1 := zfe w2 (w.heap.size + 1 + 1 + 1) 1 (by go_simp)
  have c2_4_0 := zci w2 (w.heap.size + 1 + 1 + 1 + 1) 0 (wH (-a)) (by go_simp)
  have g2_4_0 := zfe w2 (w.heap.size + 1 + 1 + 1 + 1) 0 (by go_simp)
  have c2_4_1 := zcu w2 (w.heap.size + 1 + 1 + 1 + 1) 1 (wL (-a)) (by go_simp)
  have g2_4_1 := zfe w2 (w.heap.size + 1 + 1 + 1 + 1) 1 (by go_simp)
  clear hc2 hf2 c1_0_0 c1_0_1 c1_1_0 c1_1_1 c1_2_0 g1_2_0 c1_2_1 g1_2_1 c1_3_0 g1_3_0 c1_3_1 g1_3_1 c1_4_0 g1_4_0 c1_4_1 g1_4_1
  go_wp2_with fail
  refine (rsame0 (-a % b) true (by rw [decide_eq_true_eq]; exact HC.out) _).mono ?_
  rintro e w3 ⟨rfl, hb3⟩
  obtain ⟨hc3, hf3⟩ := bcell hb3
  have hz3 := hb3.size
  try simp only [World.size_alloc, World.size_setCell] at hz3
  try refine zw5 w w3 (by omega) fun _ _ _ _ _ _ _ _ _ _ => ?_
  try have : w2.heap.size < w3.heap.size := by omega
  try have : w2.heap.size ≤ w3.heap.size := by omega
  try have : w2.heap.size + 1 < w3.heap.size := by omega
  try have : w2.heap.size + 1 ≤ w3.heap.size := by omega
  try have : w2.heap.size + 1 + 1 < w3.heap.size := by omega
  try have : w2.heap.size + 1 + 1 ≤ w3.heap.size := by omega
  have c3_0_0 := zci w3 w.heap.size 0 (wH (a)) (by go_simp)
  have c3_0_1 := zcu w3 w.heap.size 1 (wL (a)) (by go_simp)
  have c3_1_0 := zci w3 (w.heap.size + 1) 0 (wH (b)) (by go_simp)
  have c3_1_1 := zcu w3 (w.heap.size + 1) 1 (wL (b)) (by go_simp)
  have c3_2_0 := zci w3 (w.heap.size + 1 + 1) 0 0 (by go_simp)
  have g3_2_0 := zfe w3 (w.heap.size + 1 + 1) 0 (by go_simp)
  have c3_2_1 := zcu w3 (w.heap.size + 1 + 1) 1 0 (by go_simp)
  have g3_2_1 := zfe w3 (w.heap.size + 1 + 1) 1 (by go_simp)
  have c3_3_0 := zci w3 (w.heap.size + 1 + 1 + 1) 0 0 (by go_simp)
  have g3_3_0 := zfe w3 (w.heap.size + 1 + 1 + 1) 0 (by go_simp)
  have c3_3_1 := zcu w3 (w.heap.size + 1 + 1 + 1) 1 0 (by go_simp)
  have g3_3_1 := zfe w3 (w.heap.size + 1 + 1 + 1) 1 (by go_simp)
  have c3_4_0 := zci w3 (w.heap.size + 1 + 1 + 1 + 1) 0 (wH (-a)) (by go_simp)
  have g3_4_0 := zfe w3 (w.heap.size + 1 + 1 + 1 + 1) 0 (by go_simp)
  have c3_4_1 := zcu w3 (w.heap.size + 1 + 1 + 1 + 1) 1 (wL (-a)) (by go_simp)
  have g3_4_1 := zfe w3 (w.heap.size + 1 + 1 + 1 + 1) 1 (by go_simp)
  have c3_5_0 := zci w3 w2.heap.size 0 (wH (-a / b)) (by go_simp)
  have g3_5_0 := zfe w3 w2.heap.size 0 (by go_simp)
  have c3_5_1 := zcu w3 w2.heap.size 1 (wL (-a / b)) (by go_simp)
  have g3_5_1 := zfe w3 w2.heap.size 1 (by go_simp)
  have c3_6_0 := zci w3 (w2.heap.size + 1) 0 (wH (-a % b)) (by go_simp)
  have g3_6_0 := zfe w3 (w2.heap.size + 1) 0 (by go_simp)
  have c3_6_1 := zcu w3 (w2.heap.size + 1) 1 (wL (-a % b)) (by go_simp)
  have g3_6_1 := zfe w3 (w2.heap.size + 1) 1 (by go_simp)
  have c3_7_0 := zci w3 (w2.heap.size + 1 + 1) 0 (wH (-a / b)) (by go_simp)
  have g3_7_0 := zfe w3 (w2.heap.size + 1 + 1) 0 (by go_simp)
  have c3_7_1 := zcu w3 (w2.heap.size + 1 + 1) 1 (wL (-a / b)) (by go_simp)
  have g3_7_1 := zfe w3 (w2.heap.size + 1 + 1) 1 (by go_simp)
  clear hc3 hf3 c2_0_0 c2_0_1 c2_1_0 c2_1_1 c2_2_0 g2_2_0 c2_2_1 g2_2_1 c2_3_0 g2_3_0 c2_3_1 g2_3_1 c2_4_0 g2_4_0 c2_4_1 g2_4_1
  have : ¬ w.heap.size + 1 + 1 = w2.heap.size := by omega
  have : ¬ w.heap.size + 1 + 1 = w2.heap.size + 1 + 1 := by omega
  have : ¬ w.heap.size + 1 + 1 + 1 = w2.heap.size := by omega
  have : ¬ w.heap.size + 1 + 1 + 1 = w2.heap.size + 1 + 1 := by omega
  have : ¬ w2.heap.size = w.heap.size + 1 + 1 := by omega
  have : ¬ w2.heap.size = w.heap.size + 1 + 1 + 1 := by omega
  have : ¬ w2.heap.size + 1 + 1 = w.heap.size + 1 + 1 := by omega
  have : ¬ w2.heap.size + 1 + 1 = w.heap.size + 1 + 1 + 1 := by omega
  have HQ1 : Hid (R126 (-a / b)) := hide ⟨by have := hq.out; omega, by have := hq.out; omega⟩
  have HQ2 := HQ1
  go_wp2_with fail
  go_region_with (first | (go_at_call 111; (first | ((with_reducible refine (rminus (-a / b) HQ1.out _).mono ?_); rintro e w20 ⟨rfl, hb20⟩; (first | (have hd20 := by with_reducible exact below_of_drew hb20) | (have hd20 := hb20)); obtain ⟨hc20, hf20⟩ := bcell hd20; have hz20 := hb20.size; (have : w.heap.size + 1 + 1 < w20.heap.size := by (try simp at hz20); omega); (have : w.heap.size + 1 + 1 + 1 < w20.heap.size := by (try simp at hz20); omega); (have : w2.heap.size < w20.heap.size := by (try simp at hz20); omega); (have : w2.heap.size + 1 + 1 < w20.heap.size := by (try simp at hz20); omega)) | ((with_reducible refine (rminus (-a / b) HQ2.out _).mono ?_); rintro e w21 ⟨rfl, hb21⟩; (first | (have hd21 := by with_reducible exact below_of_drew hb21) | (have hd21 := hb21)); obtain ⟨hc21, hf21⟩ := bcell hd21; have hz21 := hb21.size; (have : w.heap.size + 1 + 1 < w21.heap.size := by (try simp at hz21); omega); (have : w.heap.size + 1 + 1 + 1 < w21.heap.size := by (try simp at hz21); omega); (have : w2.heap.size < w21.heap.size := by (try simp at hz21); omega); (have : w2.heap.size + 1 + 1 < w21.heap.size := by (try simp at hz21); omega)))))
  all_goals go_wp2
  all_goals refine bodyPost_ret (v := .tuple #[.agg #[.int .i64 (wH (-(-a / b))), .int .u64 (wL (-(-a / b)))], .agg #[.int .i64 (wH (-(-a / b))), .int .u64 (wL (-(-a / b)))]]) (by simp only [results, Try.results117]; go_simp) rfl ⟨rfl, blw_⟩
 ·rw [(neg_div_n kb c).1, (neg_div_n kb c).2]
  have HC := hide c
  clear c
  go_enter Try.func117, Try.ntmps117
  go_wp2_with fail
  refine (rminus a HA.out _).mono ?_
  rintro e w1 ⟨rfl, hb1⟩
  obtain ⟨hc1, hf1⟩ := bcell hb1
  have hz1 := hb1.size
  try simp only [World.size_alloc, World.size_setCell] at hz1
  try refine zw5 w w1 (by omega) fun _ _ _ _ _ _ _ _ _ _ => ?_
  have c1_0_0 := zci w1 w.heap.size 0 (wH (a)) (by go_simp)
  have c1_0_1 := zcu w1 w.heap.size 1 (wL (a)) (by go_simp)
  have c1_1_0 := zci w1 (w.heap.size + 1) 0 (wH (b)) (by go_simp)
  have c1_1_1 := zcu w1 (w.heap.size + 1) 1 (wL (b)) (by go_simp)
  have c1_2_0 := zci w1 (w.heap.size + 1 + 1) 0 0 (by go_simp)
  have g1_2_0 := zfe w1 (w.heap.size + 1 + 1) 0 (by go_simp)
  have c1_2_1 := zcu w1 (w.heap.size + 1 + 1) 1 0 (by go_simp)
  have g1_2_1 := zfe w1 (w.heap.size + 1 + 1) 1 (by go_simp)
  have c1_3_0 := zci w1 (w.heap.size + 1 + 1 + 1) 0 0 (by go_simp)
  have g1_3_0 := zfe w1 (w.heap.size + 1 + 1 + 1) 0 (by go_simp)
  have c1_3_1 := zcu w1 (w.heap.size + 1 + 1 + 1) 1 0 (by go_simp)
  have g1_3_1 := zfe w1 (w.heap.size + 1 + 1 + 1) 1 (by go_simp)
  have c1_4_0 := zci w1 (w.heap.size + 1 + 1 + 1 + 1) 0 (wH (a)) (by go_simp)
  have g1_4_0 := zfe w1 (w.heap.size + 1 + 1 + 1 + 1) 0 (by go_simp)
  have c1_4_1 := zcu w1 (w.heap.size + 1 + 1 + 1 + 1) 1 (wL (a)) (by go_simp)
  have g1_4_1 := zfe w1 (w.heap.size + 1 + 1 + 1 + 1) 1 (by go_simp)
  clear hc1 hf1
  go_wp2_with fail
  refine (rdivide (-a) b (by omega) (by omega) kb kb2 _).mono ?_
  rintro e w2 ⟨rfl, hb2⟩
  obtain ⟨hc2, hf2⟩ := bcell hb2
  have hz2 := hb2.size
  try simp only [World.size_alloc, World.size_setCell] at hz2
  try have : w.heap.size < w2.heap.size := by omega
  try have : w.heap.size < w2.heap.size + 1 := by omega
  try have : w.heap.size < w2.heap.size + 1 + 1 := by omega
  try have : w.heap.size < w2.heap.size + 1 + 1 + 1 := by omega
  try have : w.heap.size ≤ w2.heap.size := by omega
  try have : w.heap.size + 1 < w2.heap.size := by omega
  try have : w.heap.size + 1 < w2.heap.size + 1 := by omega
  try have : w.heap.size + 1 < w2.heap.size + 1 + 1 := by omega
  try have : w.heap.size + 1 < w2.heap.size + 1 + 1 + 1 := by omega
  try have : w.heap.size + 1 ≤ w2.heap.size := by omega
  try have : w.heap.size + 1 + 1 < w2.heap.size := by omega
  try have : w.heap.size + 1 + 1 < w2.heap.size + 1 := by omega
  try have : w.heap.size + 1 + 1 < w2.heap.size + 1 + 1 := by omega
  try have : w.heap.size + 1 + 1 < w2.heap.size + 1 + 1 + 1 := by omega
  try have : w.heap.size + 1 + 1 ≤ w2.heap.size := by omega
  try have : w.heap.size + 1 + 1 + 1 < w2.heap.size := by omega
  try have : w.heap.size + 1 + 1 + 1 < w2.heap.size + 1 := by omega
  try have : w.heap.size + 1 + 1 + 1 < w2.heap.size + 1 + 1 := by omega
  try have : w.heap.size + 1 + 1 + 1 < w2.heap.size + 1 + 1 + 1 := by omega
  try have : w.heap.size + 1 + 1 + 1 ≤ w2.heap.size := by omega
  try have : w.heap.size + 1 + 1 + 1 + 1 < w2.heap.size := by omega
  try have : w.heap.size + 1 + 1 + 1 + 1 < w2.heap.size + 1 := by omega
  try have : w.heap.size + 1 + 1 + 1 + 1 < w2.heap.size + 1 + 1 := by omega
  try have : w.heap.size + 1 + 1 + 1 + 1 < w2.heap.size + 1 + 1 + 1 := by omega
  try have : w.heap.size + 1 + 1 + 1 + 1 ≤ w2.heap.size := by omega
  have c2_0_0 := zci w2 w.heap.size 0 (wH (a)) (by go_simp)
  have c2_0_1 := zcu w2 w.heap.size 1 (wL (a)) (by go_simp)
  have c2_1_0 := zci w2 (w.heap.size + 1) 0 (wH (b)) (by go_simp)
  have c2_1_1 := zcu w2 (w.heap.size + 1) 1 (wL (b)) (by go_simp)
  have c2_2_0 := zci w2 (w.heap.size + 1 + 1) 0 0 (by go_simp)
  have g2_2_0 := zfe w2 (w.heap.size + 1 + 1) 0 (by go_simp)
  have c2_2_1 := zcu w2 (w.heap.size + 1 + 1) 1 0 (by go_simp)
  have g2_2_1 := zfe w2 (w.heap.size + 1 + 1) 1 (by go_simp)
  have c2_3_0 := zci w2 (w.heap.size + 1 + 1 + 1) 0 0 (by go_simp)
  have g2_3_0 := zfe w2 (w.heap.size + 1 + 1 + 1) 0 (by go_simp)
  have c2_3_1 := zcu w2 (w.heap.size + 1 + 1 + 1) 1 0 (by go_simp)
  have g2_3_1 := zfe w2 (w.heap.size + 1 + 1 + 1) 1 (by go_simp)
  have c2_4_0 := zci w2 (w.heap.size + 1 + 1 + 1 + 1) 0 (wH (-a)) (by go_simp)
  have g2_4_0 := zfe w2 (w.heap.size + 1 + 1 + 1 + 1) 0 (by go_simp)
  have c2_4_1 := zcu w2 (w.heap.size + 1 + 1 + 1 + 1) 1 (wL (-a)) (by go_simp)
  have g2_4_1 := zfe w2 (w.heap.size + 1 + 1 + 1 + 1) 1 (by go_simp)
  clear hc2 hf2 c1_0_0 c1_0_1 c1_1_0 c1_1_1 c1_2_0 g1_2_0 c1_2_1 g1_2_1 c1_3_0 g1_3_0 c1_3_1 g1_3_1 c1_4_0 g1_4_0 c1_4_1 g1_4_1
  go_wp2_with fail
  refine (rsame0 (-a % b) false (by rw [decide_eq_false_iff_not]; exact HC.out) _).mono ?_
  rintro e w3 ⟨rfl, hb3⟩
  obtain ⟨hc3, hf3⟩ := bcell hb3
  have hz3 := hb3.size
  try simp only [World.size_alloc, World.size_setCell] at hz3
  try refine zw5 w w3 (by omega) fun _ _ _ _ _ _ _ _ _ _ => ?_
  try have : w2.heap.size < w3.heap.size := by omega
  try have : w2.heap.size ≤ w3.heap.size := by omega
  try have : w2.heap.size + 1 < w3.heap.size := by omega
  try have : w2.heap.size + 1 ≤ w3.heap.size := by omega
  try have : w2.heap.size + 1 + 1 < w3.heap.size := by omega
  try have : w2.heap.size + 1 + 1 ≤ w3.heap.size := by omega
  have c3_0_0 := zci w3 w.heap.size 0 (wH (a)) (by go_simp)
  have c3_0_1 := zcu w3 w.heap.size 1 (wL (a)) (by go_simp)
  have c3_1_0 := zci w3 (w.heap.size + 1) 0 (wH (b)) (by go_simp)
  have c3_1_1 := zcu w3 (w.heap.size + 1) 1 (wL (b)) (by go_simp)
  have c3_2_0 := zci w3 (w.heap.size + 1 + 1) 0 0 (by go_simp)
  have g3_2_0 := zfe w3 (w.heap.size + 1 + 1) 0 (by go_simp)
  have c3_2_1 := zcu w3 (w.heap.size + 1 + 1) 1 0 (by go_simp)
  have g3_2_1 := zfe w3 (w.heap.size + 1 + 1) 1 (by go_simp)
  have c3_3_0 := zci w3 (w.heap.size + 1 + 1 + 1) 0 0 (by go_simp)
  have g3_3_0 := zfe w3 (w.heap.size + 1 + 1 + 1) 0 (by go_simp)
  have c3_3_1 := zcu w3 (w.heap.size + 1 + 1 + 1) 1 0 (by go_simp)
  have g3_3_1 := zfe w3 (w.heap.size + 1 + 1 + 1) 1 (by go_simp)
  have c3_4_0 := zci w3 (w.heap.size + 1 + 1 + 1 + 1) 0 (wH (-a)) (by go_simp)
  have g3_4_0 := zfe w3 (w.heap.size + 1 + 1 + 1 + 1) 0 (by go_simp)
  have c3_4_1 := zcu w3 (w.heap.size + 1 + 1 + 1 + 1) 1 (wL (-a)) (by go_simp)
  have g3_4_1 := zfe w3 (w.heap.size + 1 + 1 + 1 + 1) 1 (by go_simp)
  have c3_5_0 := zci w3 w2.heap.size 0 (wH (-a / b)) (by go_simp)
  have g3_5_0 := zfe w3 w2.heap.size 0 (by go_simp)
  have c3_5_1 := zcu w3 w2.heap.size 1 (wL (-a / b)) (by go_simp)
  have g3_5_1 := zfe w3 w2.heap.size 1 (by go_simp)
  have c3_6_0 := zci w3 (w2.heap.size + 1) 0 (wH (-a % b)) (by go_simp)
  have g3_6_0 := zfe w3 (w2.heap.size + 1) 0 (by go_simp)
  have c3_6_1 := zcu w3 (w2.heap.size + 1) 1 (wL (-a % b)) (by go_simp)
  have g3_6_1 := zfe w3 (w2.heap.size + 1) 1 (by go_simp)
  have c3_7_0 := zci w3 (w2.heap.size + 1 + 1) 0 (wH (-a / b)) (by go_simp)
  have g3_7_0 := zfe w3 (w2.heap.size + 1 + 1) 0 (by go_simp)
  have c3_7_1 := zcu w3 (w2.heap.size + 1 + 1) 1 (wL (-a / b)) (by go_simp)
  have g3_7_1 := zfe w3 (w2.heap.size + 1 + 1) 1 (by go_simp)
  clear hc3 hf3 c2_0_0 c2_0_1 c2_1_0 c2_1_1 c2_2_0 g2_2_0 c2_2_1 g2_2_1 c2_3_0 g2_3_0 c2_3_1 g2_3_1 c2_4_0 g2_4_0 c2_4_1 g2_4_1
  go_wp2_with fail
  refine (rplus1 (-a / b) (by have := hq.out; constructor <;> omega) (by have := hq.out; constructor <;> omega) _).mono ?_
  rintro e w4 ⟨rfl, hb4⟩
  obtain ⟨hc4, hf4⟩ := bcell hb4
  have hz4 := hb4.size
  try simp only [World.size_alloc, World.size_setCell] at hz4
  try refine zw5 w w4 (by omega) fun _ _ _ _ _ _ _ _ _ _ => ?_
  try have : w2.heap.size < w4.heap.size := by omega
  try have : w2.heap.size ≤ w4.heap.size := by omega
  try have : w2.heap.size + 1 < w4.heap.size := by omega
  try have : w2.heap.size + 1 ≤ w4.heap.size := by omega
  try have : w2.heap.size + 1 + 1 < w4.heap.size := by omega
  try have : w2.heap.size + 1 + 1 ≤ w4.heap.size := by omega
  have c4_0_0 := zci w4 w.heap.size 0 (wH (a)) (by go_simp)
  have c4_0_1 := zcu w4 w.heap.size 1 (wL (a)) (by go_simp)
  have c4_1_0 := zci w4 (w.heap.size + 1) 0 (wH (b)) (by go_simp)
  have c4_1_1 := zcu w4 (w.heap.size + 1) 1 (wL (b)) (by go_simp)
  have c4_2_0 := zci w4 (w.heap.size + 1 + 1) 0 0 (by go_simp)
  have g4_2_0 := zfe w4 (w.heap.size + 1 + 1) 0 (by go_simp)
  have c4_2_1 := zcu w4 (w.heap.size + 1 + 1) 1 0 (by go_simp)
  have g4_2_1 := zfe w4 (w.heap.size + 1 + 1) 1 (by go_simp)
  have c4_3_0 := zci w4 (w.heap.size + 1 + 1 + 1) 0 0 (by go_simp)
  have g4_3_0 := zfe w4 (w.heap.size + 1 + 1 + 1) 0 (by go_simp)
  have c4_3_1 := zcu w4 (w.heap.size + 1 + 1 + 1) 1 0 (by go_simp)
  have g4_3_1 := zfe w4 (w.heap.size + 1 + 1 + 1) 1 (by go_simp)
  have c4_4_0 := zci w4 (w.heap.size + 1 + 1 + 1 + 1) 0 (wH (-a)) (by go_simp)
  have g4_4_0 := zfe w4 (w.heap.size + 1 + 1 + 1 + 1) 0 (by go_simp)
  have c4_4_1 := zcu w4 (w.heap.size + 1 + 1 + 1 + 1) 1 (wL (-a)) (by go_simp)
  have g4_4_1 := zfe w4 (w.heap.size + 1 + 1 + 1 + 1) 1 (by go_simp)
  have c4_5_0 := zci w4 w2.heap.size 0 (wH (-a / b)) (by go_simp)
  have g4_5_0 := zfe w4 w2.heap.size 0 (by go_simp)
  have c4_5_1 := zcu w4 w2.heap.size 1 (wL (-a / b)) (by go_simp)
  have g4_5_1 := zfe w4 w2.heap.size 1 (by go_simp)
  have c4_6_0 := zci w4 (w2.heap.size + 1) 0 (wH (-a % b)) (by go_simp)
  have g4_6_0 := zfe w4 (w2.heap.size + 1) 0 (by go_simp)
  have c4_6_1 := zcu w4 (w2.heap.size + 1) 1 (wL (-a % b)) (by go_simp)
  have g4_6_1 := zfe w4 (w2.heap.size + 1) 1 (by go_simp)
  have c4_7_0 := zci w4 (w2.heap.size + 1 + 1) 0 (wH (-a / b)) (by go_simp)
  have g4_7_0 := zfe w4 (w2.heap.size + 1 + 1) 0 (by go_simp)
  have c4_7_1 := zcu w4 (w2.heap.size + 1 + 1) 1 (wL (-a / b)) (by go_simp)
  have g4_7_1 := zfe w4 (w2.heap.size + 1 + 1) 1 (by go_simp)
  clear hc4 hf4 c3_0_0 c3_0_1 c3_1_0 c3_1_1 c3_2_0 g3_2_0 c3_2_1 g3_2_1 c3_3_0 g3_3_0 c3_3_1 g3_3_1 c3_4_0 g3_4_0 c3_4_1 g3_4_1 c3_5_0 g3_5_0 c3_5_1 g3_5_1 c3_6_0 g3_6_0 c3_6_1 g3_6_1 c3_7_0 g3_7_0 c3_7_1 g3_7_1
  have : ¬ w.heap.size + 1 + 1 = w2.heap.size := by omega
  have : ¬ w.heap.size + 1 + 1 = w2.heap.size + 1 + 1 := by omega
  have : ¬ w.heap.size + 1 + 1 + 1 = w2.heap.size := by omega
  have : ¬ w.heap.size + 1 + 1 + 1 = w2.heap.size + 1 + 1 := by omega
  have : ¬ w2.heap.size = w.heap.size + 1 + 1 := by omega
  have : ¬ w2.heap.size = w.heap.size + 1 + 1 + 1 := by omega
  have : ¬ w2.heap.size + 1 + 1 = w.heap.size + 1 + 1 := by omega
  have : ¬ w2.heap.size + 1 + 1 = w.heap.size + 1 + 1 + 1 := by omega
  have HQ1 : Hid (R126 (-a / b + 1)) := hide ⟨by have := hq.out; omega, by have := hq.out; omega⟩
  have HQ2 : Hid (R126 (-a / b)) := hide ⟨by have := hq.out; omega, by have := hq.out; omega⟩
  go_wp2_with fail
  go_region_with (first | (go_at_call 111; (first | ((with_reducible refine (rminus (-a / b + 1) HQ1.out _).mono ?_); rintro e w20 ⟨rfl, hb20⟩; (first | (have hd20 := by with_reducible exact below_of_drew hb20) | (have hd20 := hb20)); obtain ⟨hc20, hf20⟩ := bcell hd20; have hz20 := hb20.size; (have : w.heap.size + 1 + 1 < w20.heap.size := by (try simp at hz20); omega); (have : w.heap.size + 1 + 1 + 1 < w20.heap.size := by (try simp at hz20); omega); (have : w2.heap.size < w20.heap.size := by (try simp at hz20); omega); (have : w2.heap.size + 1 + 1 < w20.heap.size := by (try simp at hz20); omega)) | ((with_reducible refine (rminus (-a / b) HQ2.out _).mono ?_); rintro e w21 ⟨rfl, hb21⟩; (first | (have hd21 := by with_reducible exact below_of_drew hb21) | (have hd21 := hb21)); obtain ⟨hc21, hf21⟩ := bcell hd21; have hz21 := hb21.size; (have : w.heap.size + 1 + 1 < w21.heap.size := by (try simp at hz21); omega); (have : w.heap.size + 1 + 1 + 1 < w21.heap.size := by (try simp at hz21); omega); (have : w2.heap.size < w21.heap.size := by (try simp at hz21); omega); (have : w2.heap.size + 1 + 1 < w21.heap.size := by (try simp at hz21); omega)))))
  all_goals go_wp2
  all_goals refine bodyPost_ret (v := .tuple #[.agg #[.int .i64 (wH (-(-a / b + 1))), .int .u64 (wL (-(-a / b + 1)))], .agg #[.int .i64 (wH (-(-a / b))), .int .u64 (wL (-(-a / b)))]]) (by simp only [results, Try.results117]; go_simp) rfl ⟨rfl, blw_⟩
theorem rquot (a b : Int) (ka : -85070591730234615865843651857942052864 < a ∧ a < 85070591730234615865843651857942052864) (kb : 0 < b) (kb2 : b < 85070591730234615865843651857942052864) (w : World) :
  Calls Try.prog 117 #[.agg #[.int .i64 (wH (a)), .int .u64 (wL (a))], .agg #[.int .i64 (wH (b)), .int .u64 (wL (b))]] w fun e w' => e = .returned (.tuple #[.agg #[.int .i64 (wH (a / b)), .int .u64 (wL (a / b))], .agg #[.int .i64 (wH (cdiv a b)), .int .u64 (wL (cdiv a b))]]) ∧ Below w.heap.size w w' := by
 by_cases h : a < 0
 ·exact rquot_n a b h ka.1 kb kb2 w
 ·exact rquot_p a b (by omega) ka.2 kb kb2 w
end
section
open Go.RowKit
theorem rfloor (a b : Int) (ka : -85070591730234615865843651857942052864 < a ∧ a < 85070591730234615865843651857942052864) (kb : 0 < b) (kb2 : b < 85070591730234615865843651857942052864) (w : World) :
  Calls Try.prog 77 #[.agg #[.int .i64 (wH (a)), .int .u64 (wL (a))], .agg #[.int .i64 (wH (b)), .int .u64 (wL (b))]] w fun e w' => e = .returned (.agg #[.int .i64 (wH (a / b)), .int .u64 (wL (a / b))]) ∧ Below w.heap.size w w' := by
 go_enter Try.func77, Try.ntmps77
 go_wp2_with fail
 refine (rquot a b ka kb kb2 _).mono ?_
 rintro e w1 ⟨rfl, hb1⟩
 obtain ⟨hc1, hf1⟩ := bcell hb1
 have hz1 := hb1.size
 try simp only [World.size_alloc, World.size_setCell] at hz1
 try have : w.heap.size < w1.heap.size := by omega
 try have : w.heap.size < w1.heap.size + 1 := by omega
 try have : w.heap.size < w1.heap.size + 1 + 1 := by omega
 try have : w.heap.size ≤ w1.heap.size := by omega
 try have : w.heap.size + 1 < w1.heap.size := by omega
 try have : w.heap.size + 1 < w1.heap.size + 1 := by omega
 try have : w.heap.size + 1 < w1.heap.size + 1 + 1 := by omega
 try have : w.heap.size + 1 ≤ w1.heap.size := by omega
 try have : w.heap.size + 1 + 1 < w1.heap.size := by omega
 try have : w.heap.size + 1 + 1 < w1.heap.size + 1 := by omega
 try have : w.heap.size + 1 + 1 < w1.heap.size + 1 + 1 := by omega
 try have : w.heap.size + 1 + 1 ≤ w1.heap.size := by omega
 have c1_0_0 := zci w1 (w.heap.size + 1 + 1) 0 0 (by go_simp)
 have g1_0_0 := zfe w1 (w.heap.size + 1 + 1) 0 (by go_simp)
 have c1_0_1 := zcu w1 (w.heap.size + 1 + 1) 1 0 (by go_simp)
 have g1_0_1 := zfe w1 (w.heap.size + 1 + 1) 1 (by go_simp)
 clear hc1 hf1
 go_wp2
 refine bodyPost_ret (v := .agg #[.int .i64 (wH (a / b)), .int .u64 (wL (a / b))]) (by simp only [results, Try.results77]; go_simp) rfl ⟨rfl, blw_⟩
end
section
open Go.RowKit
theorem and_xor_half (k : Nat) : ∀ a b : Nat, a < 2 ^ k → b < 2 ^ k → a + b = 2 * (a &&& b) + (a ^^^ b) := by
 induction k with
 | zero => intro a b ha hb; have : a = 0 := by omega
           have : b = 0 := by omega
           subst_vars; rfl
 | succ k ih =>
  intro a b ha hb
  have h := ih (a / 2) (b / 2) (by rw [Nat.pow_succ] at ha; omega) (by rw [Nat.pow_succ] at hb; omega)
  have e1 : (a &&& b) / 2 = a / 2 &&& b / 2 := Nat.and_div_two
  have e2 : (a ^^^ b) / 2 = a / 2 ^^^ b / 2 := Nat.xor_div_two
  have e3 : (a &&& b) % 2 = (a % 2) &&& (b % 2) := by
   have := @Nat.and_mod_two_pow a b 1
   simpa using this
  have e4 : (a ^^^ b) % 2 = (a % 2) ^^^ (b % 2) := by
   have := @Nat.xor_mod_two_pow a b 1
   simpa using this
  rw [← e1, ← e2] at h
  have ha2 : a % 2 = 0 ∨ a % 2 = 1 := by omega
  have hb2 : b % 2 = 0 ∨ b % 2 = 1 := by omega
  rcases ha2 with p | p <;> rcases hb2 with q | q <;> rw [p, q] at e3 e4 <;> (try simp only [Nat.and_self, Nat.zero_and, Nat.and_zero, Nat.xor_self, Nat.xor_zero, Nat.zero_xor] at e3 e4) <;> omega
theorem top_and (a b : Nat) : (a &&& b) / 2 ^ 63 = a / 2 ^ 63 &&& b / 2 ^ 63 := by
 have h := @Nat.shiftRight_and_distrib 63 a b
 simpa [Nat.shiftRight_eq_div_pow] using h
theorem top_xor (a b : Nat) : (a ^^^ b) / 2 ^ 63 = a / 2 ^ 63 ^^^ b / 2 ^ 63 := by
 have h := @Nat.shiftRight_xor_distrib 63 a b
 simpa [Nat.shiftRight_eq_div_pow] using h
theorem wrapS (n : Nat) (h : n < 18446744073709551616) : IntKind.i64.wrap (n : Int) = (n : Int) - 18446744073709551616 * ((n / 2 ^ 63 : Nat) : Int) := by
 rw [IntKind.wrap_i64]; omega
theorem ofI (x : Int) (hx : I64 x) : ((BitVec.ofInt 64 x).toNat : Int) = x + 18446744073709551616 * (((BitVec.ofInt 64 x).toNat / 2 ^ 63 : Nat) : Int) ∧ (BitVec.ofInt 64 x).toNat < 18446744073709551616 := by
 obtain ⟨_, _⟩ := hx
 have e : ((BitVec.ofInt 64 x).toNat : Int) = x % 18446744073709551616 := by rw [BitVec.toNat_ofInt]; omega
 generalize (BitVec.ofInt 64 x).toNat = a at *
 constructor <;> omega
theorem sum_bits (a b c d : Nat) (h2 : c / 2 ^ 63 = a / 2 ^ 63 &&& b / 2 ^ 63) (h3 : d / 2 ^ 63 = a / 2 ^ 63 ^^^ b / 2 ^ 63) (ha : a / 2 ^ 63 ≤ 1) (hb : b / 2 ^ 63 ≤ 1) : 2 * (c / 2 ^ 63) + d / 2 ^ 63 = a / 2 ^ 63 + b / 2 ^ 63 := by
 rw [h2, h3]
 generalize a / 2 ^ 63 = p at *
 generalize b / 2 ^ 63 = q at *
 have hp : p = 0 ∨ p = 1 := by omega
 have hq : q = 0 ∨ q = 1 := by omega
 rcases hp with rfl | rfl <;> rcases hq with rfl | rfl <;> rfl
theorem mid_bits (x y : Int) (hx : I64 x) (hy : I64 y) : wrap64 (bits .and .i64 x y + bits .xor .i64 x y / 2) = (x + y) / 2 ∧ I64 ((x + y) / 2) := by
 obtain ⟨a1, a2⟩ := ofI x hx
 obtain ⟨b1, b2⟩ := ofI y hy
 have ea : bits .and .i64 x y = IntKind.i64.wrap (((BitVec.ofInt 64 x).toNat &&& (BitVec.ofInt 64 y).toNat : Nat) : Int) := by
  show IntKind.i64.wrap ((BitVec.ofInt 64 x &&& BitVec.ofInt 64 y).toNat : Int) = _
  rw [BitVec.toNat_and]
 have eo : bits .xor .i64 x y = IntKind.i64.wrap (((BitVec.ofInt 64 x).toNat ^^^ (BitVec.ofInt 64 y).toNat : Nat) : Int) := by
  show IntKind.i64.wrap ((BitVec.ofInt 64 x ^^^ BitVec.ofInt 64 y).toNat : Int) = _
  rw [BitVec.toNat_xor]
 rw [ea, eo]
 generalize (BitVec.ofInt 64 x).toNat = a at *
 generalize (BitVec.ofInt 64 y).toNat = b at *
 have h1 := and_xor_half 64 a b (by omega) (by omega)
 have h4 := sum_bits a b _ _ (top_and a b) (top_xor a b) (by omega) (by omega)
 have hc : a &&& b < 2 ^ 64 := Nat.and_lt_two_pow a (by omega)
 have hd : a ^^^ b < 2 ^ 64 := Nat.xor_lt_two_pow (by omega) (by omega)
 generalize a &&& b = c at *
 generalize a ^^^ b = d at *
 rw [wrapS c (by omega), wrapS d (by omega)]
 obtain ⟨x0, x1⟩ := hx
 obtain ⟨y0, y1⟩ := hy
 generalize a / 2 ^ 63 = pa at *
 generalize b / 2 ^ 63 = pb at *
 generalize c / 2 ^ 63 = pc at *
 generalize d / 2 ^ 63 = pd at *
 have e : x + y = 2 * ((c : Int) - 18446744073709551616 * (pc : Int)) + ((d : Int) - 18446744073709551616 * (pd : Int)) := by omega
 generalize (c : Int) - 18446744073709551616 * (pc : Int) = u at *
 generalize (d : Int) - 18446744073709551616 * (pd : Int) = v at *
 clear h1 h4 hc hd a1 a2 b1 b2 ea eo
 unfold wrap64 I64
 constructor
 ·omega
 ·constructor <;> omega
theorem i64_2 : I64 2 := by constructor <;> omega
theorem two_pos : (0 : Int) < 2 := by omega
theorem two_lt : (2 : Int) < 85070591730234615865843651857942052864 := by omega
theorem add_bd {x y : Int} (h : I64 x) (k : I64 y) : -85070591730234615865843651857942052864 < x + y ∧ x + y < 85070591730234615865843651857942052864 := by
 obtain ⟨_, _⟩ := h; obtain ⟨_, _⟩ := k; constructor <;> omega
def midI (lo hi : Int) : Int := (lo + hi) / 2
theorem mid_any (al ah : Int) (i0 : I64 al) (i1 : I64 ah) (w : World) :
  Calls Try.prog 75 #[.agg #[.int .i64 (al), .int .i64 (ah)]] w fun e w' => e = .returned (.tuple #[.int .i64 (okI (vB al ah) (midI al ah)), .int .i64 (errE (vB al ah) 0)]) ∧ Below w.heap.size w w' := by
 have h0 := i0.1
 have M := hide (mid_bits al ah i0 i1)
 clear i0 i1
 cases hv : vB al ah
 ·rw [ok_f, err_f]
  have HV := hide hv
  clear hv
  go_enter Try.func75, Try.ntmps75
  go_wp2_with fail
  go_at_call 116
  refine (invalid1 al ah _ _ _ h0 (by go_simp) (by go_simp) (by go_simp) true (by simpa using HV.out)).mono ?_
  rintro e w1 ⟨rfl, hb1⟩
  obtain ⟨hc1, hf1⟩ := bcell hb1
  have hz1 := hb1.size
  try simp only [World.size_alloc, World.size_setCell] at hz1
  try refine zw2 w w1 (by omega) fun _ _ _ _ => ?_
  go_wp2
  go_ret2
  exact ⟨rfl, blw_⟩
 ·rw [ok_t, err_t, show midI al ah = wrap64 (bits .and .i64 al ah + bits .xor .i64 al ah / 2) from M.out.1.symm]
  have HV := hide hv
  clear hv
  go_enter Try.func75, Try.ntmps75
  go_wp2_with fail
  go_at_call 116
  refine (invalid1 al ah _ _ _ h0 (by go_simp) (by go_simp) (by go_simp) false (by simpa using HV.out)).mono ?_
  rintro e w1 ⟨rfl, hb1⟩
  obtain ⟨hc1, hf1⟩ := bcell hb1
  have hz1 := hb1.size
  try simp only [World.size_alloc, World.size_setCell] at hz1
  try refine zw2 w w1 (by omega) fun _ _ _ _ => ?_
  go_wp2
  go_ret2
  exact ⟨rfl, blw_⟩
end
section
open Go.RowKit
theorem rmid_any (al ah : Int) (i0 : I64 al) (i1 : I64 ah) (w : World) :
  Calls Try.prog 30 #[.agg #[.int .i64 (al), .int .i64 (ah)]] w fun e w' => e = .returned (.tuple #[.int .i64 (okI (vB al ah) (midI al ah)), .int .i64 (errE (vB al ah) 0)]) ∧ Below w.heap.size w w' := by
 have M := mid_bits al ah i0 i1
 cases hv : vB al ah
 ·rw [ok_f, err_f]
  have HV := hide (show chkI al ah = 2 by simp [chkI, hv])
  clear hv i0 i1 M
  go_enter Try.func30, Try.ntmps30
  go_wp2_with fail
  refine (rcheck al ah 2 HV.out _).mono ?_
  rintro e w1 ⟨rfl, hb1⟩
  obtain ⟨hc1, hf1⟩ := bcell hb1
  have hz1 := hb1.size
  try simp only [World.size_alloc, World.size_setCell] at hz1
  try refine zw1 w w1 (by omega) fun _ _ => ?_
  go_wp2
  go_ret2
  exact ⟨rfl, blw_⟩
 ·rw [ok_t, err_t]
  have HV := hide (show chkI al ah = 0 by simp [chkI, hv])
  have e1 := w64L M.2
  have HM := hide (show midI al ah = (al + ah) / 2 from rfl)
  have HI0 := hide i0
  have HI1 := hide i1
  clear hv M i0 i1
  go_enter Try.func30, Try.ntmps30
  go_wp2_with fail
  refine (rcheck al ah 0 HV.out _).mono ?_
  rintro e w1 ⟨rfl, hb1⟩
  obtain ⟨hc1, hf1⟩ := bcell hb1
  have hz1 := hb1.size
  try simp only [World.size_alloc, World.size_setCell] at hz1
  try refine zw1 w w1 (by omega) fun _ _ => ?_
  go_wp2_with fail
  refine QF.region_float_ex 9 20 (QF.FD _ _ (.int .i64 0) (.int .u64 0)) _ (by kernel_rfl) (by kernel_rfl) rfl rfl rfl (show Below _ _ _ from (hb1).drew) ?_
  apply Exists.intro
  refine ⟨fun j => ?h1, ?hf, ?ht⟩
  case h1 =>
   simp only [List.take_succ_cons, List.take_zero, List.drop_succ_cons, List.drop_zero]
   repeat (first
    | go_big_quiet_skip
    | (go_big_quiet_want; go_big_quiet_op; first
     | go_big_quiet_on
     | (apply Exists.intro
        refine ⟨fun _ => ?_, ?_⟩
        ·first
         | rfl
         | (intro hC; obtain ⟨hcq, hfq⟩ := bcellB (QF.FD.below hC); go_simp; done)
         | (intro hC; obtain ⟨hcq, hfq⟩ := bcellB (QF.FD.below hC); go_simp; rfl)
         | (intro hC; have hcq := bcellG (QF.FD.below hC); go_simp; done)
         | (intro hC; have hcq := bcellG (QF.FD.below hC); go_simp; rfl)
         | (intro hC; go_at_call 79; (first | (with_reducible refine (rwide al HI0.out _).mono ?_) | (with_reducible refine (rwide ah HI1.out _).mono ?_)); (intro e w2 hw; exact ⟨hw.1, QF.FD.call (by simp) hC hw.2⟩))
         | (intro hC; go_at_call 78; (first | (with_reducible refine (rplus al ah (R127.of64 HI0.out) (R127.of64 HI1.out) (R127.add HI0.out HI1.out) _).mono ?_)); (intro e w2 hw; exact ⟨hw.1, QF.FD.call (by simp) hC hw.2⟩))
         | (intro hC; go_at_call 80; (first | (with_reducible refine (rof 2 i64_2 _).mono ?_)); (intro e w2 hw; exact ⟨hw.1, QF.FD.call (by simp) hC hw.2⟩))
         | (intro hC; go_at_call 77; (first | (with_reducible refine (rfloor (al + ah) 2 (add_bd HI0.out HI1.out) two_pos two_lt _).mono ?_)); (intro e w2 hw; exact ⟨hw.1, QF.FD.call (by simp) hC hw.2⟩))
        go_big_quiet_on)))
   exact wpQuiet_nil rfl
  case hf =>
   intro w8 hD8
   have hm8 := QF.FD.made (t := 107) (by simp) hD8
   go_simp
   simpa [QF.floatRes] using hm8
  case ht =>
   intro u9 w9 hD9
   simp only [List.drop_succ_cons, List.drop_zero]
   obtain ⟨hC9, p9, rfl, hp9, hq9, bc0, bc1, bf0, bf1⟩ := hD9
   obtain ⟨hc9, hf9⟩ := bcellB hC9
   have hz9 := hC9.size
   try simp only [World.size_alloc, World.size_setCell] at hz9 hp9
   try have hs9 : w.heap.size < p9 := by omega
   try have hs9' : w.heap.size ≤ p9 := by omega
   try have ht9 : w.heap.size < w9.heap.size := by omega
   go_wp2
   go_ret2
   exact ⟨congrArg (fun x => Ending.returned (.tuple #[.int .i64 x, .int .i64 0])) e1, blw_⟩
end
end Go.Proofs.Ytacpahebbnnckaa
