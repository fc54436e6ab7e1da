/- Packed: Quo Quo2 Mid Mid2. -/
import Derived.Deep.RegionHeld3
import Derived.Test.YtacpahebbnnckaaP6
set_option linter.unusedVariables false
set_option linter.unusedSimpArgs false
namespace Go.Proofs.Ytacpahebbnnckaa
section
open Go.RowKit
theorem rdivide (n d : Int) (hn0 : 0 ≤ n) (hn : n < 170141183460469231731687303715884105728) (hd0 : 0 < d) (hd : d < 85070591730234615865843651857942052864) (w : World) :
  Calls Try.prog 134 #[.agg #[.int .i64 (wH (n)), .int .u64 (wL (n))], .agg #[.int .i64 (wH (d)), .int .u64 (wL (d))]] w fun e w' => e = .returned (.tuple #[.agg #[.int .i64 (wH (n / d)), .int .u64 (wL (n / d))], .agg #[.int .i64 (wH (n % d)), .int .u64 (wL (n % d))]]) ∧ Below w.heap.size w w' := by
 by_cases c1 : n < 18446744073709551616
 ·by_cases c2 : d < 18446744073709551616
  ·exact rdivide_small n d hn0 c1 hd0 c2 w
  ·obtain ⟨n, rfl⟩ := Int.eq_ofNat_of_zero_le hn0
   exact rdivide_b12 n d (by omega) hd0 hd (.inr ⟨by rw [beq_iff_eq]; unfold wH; omega, by rw [beq_eq_false_iff_ne]; unfold wH; omega⟩) w
 ·obtain ⟨n, rfl⟩ := Int.eq_ofNat_of_zero_le hn0
  exact rdivide_b12 n d (by omega) hd0 hd (.inl (by rw [beq_eq_false_iff_ne]; unfold wH; omega)) w
def cdiv (a b : Int) : Int := -((-a) / b)
theorem cdiv_pos {a b : Int} (hb : 0 < b) (h : ¬ a % b = 0) : cdiv a b = a / b + 1 := by
 unfold cdiv
 rw [Int.neg_ediv, if_neg (by rw [Int.dvd_iff_emod_eq_zero]; exact h), Int.sign_eq_one_of_pos hb]
 omega
theorem cdiv_zero {a b : Int} (h : a % b = 0) : cdiv a b = a / b := by
 unfold cdiv
 rw [Int.neg_ediv, if_pos (by rw [Int.dvd_iff_emod_eq_zero]; exact h)]
 omega
theorem below_of_drew {W w1 : World} (h : Below W.drew.heap.size W.drew w1) : Below W.heap.size W w1 := (Below.drew (Below.refl _ _)).trans h
theorem rsame0 (x : Int) (r : Bool) (hr : decide (x = 0) = r) (w : World) :
  Calls Try.prog 135 #[.agg #[.int .i64 (wH (x)), .int .u64 (wL (x))], .agg #[.int .i64 0, .int .u64 0]] w fun e w' => e = .returned (.bool r) ∧ Below w.heap.size w w' := by
 subst hr; exact rsame x 0 w
theorem wH_neg {a : Int} (h : a < 0) : wH a < 0 := by unfold wH; omega
theorem wH_pos {a : Int} (h : 0 ≤ a) : ¬ wH a < 0 := by unfold wH; omega
theorem quo_bd {a b : Int} (ha : 0 ≤ a) (hb : 0 < b) : 0 ≤ a / b ∧ a / b ≤ a := ⟨Int.ediv_nonneg ha (Int.le_of_lt hb), Int.ediv_le_self b ha⟩
set_option maxHeartbeats 1000000 in
theorem rquot_p (a b : Int) (ka : 0 ≤ a) (ka2 : a < 85070591730234615865843651857942052864) (kb : 0 < b) (kb2 : b < 85070591730234615865843651857942052864) (w : World) :
  Calls Try.prog 117 #[.agg #[.int .i64 (wH (a)), .int .u64 (wL (a))], .agg #[.int .i64 (wH (b)), .int .u64 (wL (b))]] w fun e w' => e = .returned (.tuple #[.agg #[.int .i64 (wH (a / b)), .int .u64 (wL (a / b))], .agg #[.int .i64 (wH (cdiv a b)), .int .u64 (wL (cdiv a b))]]) ∧ Below w.heap.size w w' := by
 have hs := wH_pos ka
 have hq := hide (quo_bd ka kb)
 by_cases c : a % b = 0
 ·rw [cdiv_zero c]
  have HC := hide c
  clear c
  go_enter Try.func117, Try.ntmps117
  go_wp2_with fail
  refine (rdivide a b ka (by omega) kb kb2 _).mono ?_
  rintro e w1 ⟨rfl, hb1⟩
  obtain ⟨hc1, hf1⟩ := bcell hb1
  have hz1 := hb1.size
  try simp only [World.size_alloc, World.size_setCell] at hz1
  try have : w.heap.size < w1.heap.size := by omega
  try have : w.heap.size < w1.heap.size + 1 := by omega
  try have : w.heap.size < w1.heap.size + 1 + 1 := by omega
  try have : w.heap.size < w1.heap.size + 1 + 1 + 1 := by omega
  try have : w.heap.size ≤ w1.heap.size := by omega
  try have : w.heap.size + 1 < w1.heap.size := by omega
  try have : w.heap.size + 1 < w1.heap.size + 1 := by omega
  try have : w.heap.size + 1 < w1.heap.size + 1 + 1 := by omega
  try have : w.heap.size + 1 < w1.heap.size + 1 + 1 + 1 := by omega
  try have : w.heap.size + 1 ≤ w1.heap.size := by omega
  try have : w.heap.size + 1 + 1 < w1.heap.size := by omega
  try have : w.heap.size + 1 + 1 < w1.heap.size + 1 := by omega
  try have : w.heap.size + 1 + 1 < w1.heap.size + 1 + 1 := by omega
  try have : w.heap.size + 1 + 1 < w1.heap.size + 1 + 1 + 1 := by omega
  try have : w.heap.size + 1 + 1 ≤ w1.heap.size := by omega
  try have : w.heap.size + 1 + 1 + 1 < w1.heap.size := by omega
  try have : w.heap.size + 1 + 1 + 1 < w1.heap.size + 1 := by omega
  try have : w.heap.size + 1 + 1 + 1 < w1.heap.size + 1 + 1 := by omega
  try have : w.heap.size + 1 + 1 + 1 < w1.heap.size + 1 + 1 + 1 := by omega
  try have : w.heap.size + 1 + 1 + 1 ≤ w1.heap.size := by omega
  try have : w.heap.size + 1 + 1 + 1 + 1 < w1.heap.size := by omega
  try have : w.heap.size + 1 + 1 + 1 + 1 < w1.heap.size + 1 := by omega
  try have : w.heap.size + 1 + 1 + 1 + 1 < w1.heap.size + 1 + 1 := by omega
  try have : w.heap.size + 1 + 1 + 1 + 1 < w1.heap.size + 1 + 1 + 1 := by omega
  try have : w.heap.size + 1 + 1 + 1 + 1 ≤ w1.heap.size := by omega
  have c1_0_0 := zci w1 w.heap.size 0 (wH (a)) (by go_simp)
  have c1_0_1 := zcu w1 w.heap.size 1 (wL (a)) (by go_simp)
  have c1_1_0 := zci w1 (w.heap.size + 1) 0 (wH (b)) (by go_simp)
  have c1_1_1 := zcu w1 (w.heap.size + 1) 1 (wL (b)) (by go_simp)
  have c1_2_0 := zci w1 (w.heap.size + 1 + 1) 0 0 (by go_simp)
  have g1_2_0 := zfe w1 (w.heap.size + 1 + 1) 0 (by go_simp)
  have c1_2_1 := zcu w1 (w.heap.size + 1 + 1) 1 0 (by go_simp)
  have g1_2_1 := zfe w1 (w.heap.size + 1 + 1) 1 (by go_simp)
  have c1_3_0 := zci w1 (w.heap.size + 1 + 1 + 1) 0 0 (by go_simp)
  have g1_3_0 := zfe w1 (w.heap.size + 1 + 1 + 1) 0 (by go_simp)
  have c1_3_1 := zcu w1 (w.heap.size + 1 + 1 + 1) 1 0 (by go_simp)
  have g1_3_1 := zfe w1 (w.heap.size + 1 + 1 + 1) 1 (by go_simp)
  have c1_4_0 := zci w1 (w.heap.size + 1 + 1 + 1 + 1) 0 (wH (a)) (by go_simp)
  have g1_4_0 := zfe w1 (w.heap.size + 1 + 1 + 1 + 1) 0 (by go_simp)
  have c1_4_1 := zcu w1 (w.heap.size + 1 + 1 + 1 + 1) 1 (wL (a)) (by go_simp)
  have g1_4_1 := zfe w1 (w.heap.size + 1 + 1 + 1 + 1) 1 (by go_simp)
  clear hc1 hf1
  go_wp2_with fail
  refine (rsame0 (a % b) true (by rw [decide_eq_true_eq]; exact HC.out) _).mono ?_
  rintro e w2 ⟨rfl, hb2⟩
  obtain ⟨hc2, hf2⟩ := bcell hb2
  have hz2 := hb2.size
  try simp only [World.size_alloc, World.size_setCell] at hz2
  try refine zw5 w w2 (by omega) fun _ _ _ _ _ _ _ _ _ _ => ?_
  try have : w1.heap.size < w2.heap.size := by omega
  try have : w1.heap.size ≤ w2.heap.size := by omega
  try have : w1.heap.size + 1 < w2.heap.size := by omega
  try have : w1.heap.size + 1 ≤ w2.heap.size := by omega
  try have : w1.heap.size + 1 + 1 < w2.heap.size := by omega
  try have : w1.heap.size + 1 + 1 ≤ w2.heap.size := by omega
  have c2_0_0 := zci w2 w.heap.size 0 (wH (a)) (by go_simp)
  have c2_0_1 := zcu w2 w.heap.size 1 (wL (a)) (by go_simp)
  have c2_1_0 := zci w2 (w.heap.size + 1) 0 (wH (b)) (by go_simp)
  have c2_1_1 := zcu w2 (w.heap.size + 1) 1 (wL (b)) (by go_simp)
  have c2_2_0 := zci w2 (w.heap.size + 1 + 1) 0 0 (by go_simp)
  have g2_2_0 := zfe w2 (w.heap.size + 1 + 1) 0 (by go_simp)
  have c2_2_1 := zcu w2 (w.heap.size + 1 + 1) 1 0 (by go_simp)
  have g2_2_1 := zfe w2 (w.heap.size + 1 + 1) 1 (by go_simp)
  have c2_3_0 := zci w2 (w.heap.size + 1 + 1 + 1) 0 0 (by go_simp)
  have g2_3_0 := zfe w2 (w.heap.size + 1 + 1 + 1) 0 (by go_simp)
  have c2_3_1 := zcu w2 (w.heap.size + 1 + 1 + 1) 1 0 (by go_simp)
  have g2_3_1 := zfe w2 (w.heap.size + 1 + 1 + 1) 1 (by go_simp)
  have c2_4_0 := zci w2 (w.heap.size + 1 + 1 + 1 + 1) 0 (wH (a)) (by go_simp)
  have g2_4_0 := zfe w2 (w.heap.size + 1 + 1 + 1 + 1) 0 (by go_simp)
  have c2_4_1 := zcu w2 (w.heap.size + 1 + 1 + 1 + 1) 1 (wL (a)) (by go_simp)
  have g2_4_1 := zfe w2 (w.heap.size + 1 + 1 + 1 + 1) 1 (by go_simp)
  have c2_5_0 := zci w2 w1.heap.size 0 (wH (a / b)) (by go_simp)
  have g2_5_0 := zfe w2 w1.heap.size 0 (by go_simp)
  have c2_5_1 := zcu w2 w1.heap.size 1 (wL (a / b)) (by go_simp)
  have g2_5_1 := zfe w2 w1.heap.size 1 (by go_simp)
  have c2_6_0 := zci w2 (w1.heap.size + 1) 0 (wH (a % b)) (by go_simp)
  have g2_6_0 := zfe w2 (w1.heap.size + 1) 0 (by go_simp)
  have c2_6_1 := zcu w2 (w1.heap.size + 1) 1 (wL (a % b)) (by go_simp)
  have g2_6_1 := zfe w2 (w1.heap.size + 1) 1 (by go_simp)
  have c2_7_0 := zci w2 (w1.heap.size + 1 + 1) 0 (wH (a / b)) (by go_simp)
  have g2_7_0 := zfe w2 (w1.heap.size + 1 + 1) 0 (by go_simp)
  have c2_7_1 := zcu w2 (w1.heap.size + 1 + 1) 1 (wL (a / b)) (by go_simp)
  have g2_7_1 := zfe w2 (w1.heap.size + 1 + 1) 1 (by go_simp)
  clear hc2 hf2 c1_0_0 c1_0_1 c1_1_0 c1_1_1 c1_2_0 g1_2_0 c1_2_1 g1_2_1 c1_3_0 g1_3_0 c1_3_1 g1_3_1 c1_4_0 g1_4_0 c1_4_1 g1_4_1
  go_wp2_with fail
  go_region
  all_goals go_wp2
  all_goals refine bodyPost_ret (v := .tuple #[.agg #[.int .i64 (wH (a / b)), .int .u64 (wL (a / b))], .agg #[.int .i64 (wH (a / b)), .int .u64 (wL (a / b))]]) (by simp only [results, Try.results117]; go_simp) rfl ⟨rfl, blw_⟩
 ·rw [cdiv_pos kb c]
  have HC := hide c
  clear c
  go_enter Try.func117, Try.ntmps117
  go_wp2_with fail
  refine (rdivide a b ka (by omega) kb kb2 _).mono ?_
  rintro e w1 ⟨rfl, hb1⟩
  obtain ⟨hc1, hf1⟩ := bcell hb1
  have hz1 := hb1.size
  try simp only [World.size_alloc, World.size_setCell] at hz1
  try have : w.heap.size < w1.heap.size := by omega
  try have : w.heap.size < w1.heap.size + 1 := by omega
  try have : w.heap.size < w1.heap.size + 1 + 1 := by omega
  try have : w.heap.size < w1.heap.size + 1 + 1 + 1 := by omega
  try have : w.heap.size ≤ w1.heap.size := by omega
  try have : w.heap.size + 1 < w1.heap.size := by omega
  try have : w.heap.size + 1 < w1.heap.size + 1 := by omega
  try have : w.heap.size + 1 < w1.heap.size + 1 + 1 := by omega
  try have : w.heap.size + 1 < w1.heap.size + 1 + 1 + 1 := by omega
  try have : w.heap.size + 1 ≤ w1.heap.size := by omega
  try have : w.heap.size + 1 + 1 < w1.heap.size := by omega
  try have : w.heap.size + 1 + 1 < w1.heap.size + 1 := by omega
  try have : w.heap.size + 1 + 1 < w1.heap.size + 1 + 1 := by omega
  try have : w.heap.size + 1 + 1 < w1.heap.size + 1 + 1 + 1 := by omega
  try have : w.heap.size + 1 + 1 ≤ w1.heap.size := by omega
  try have : w.heap.size + 1 + 1 + 1 < w1.heap.size := by omega
  try have : w.heap.size + 1 + 1 + 1 < w1.heap.size + 1 := by omega
  try have : w.heap.size + 1 + 1 + 1 < w1.heap.size + 1 + 1 := by omega
  try have : w.heap.size + 1 + 1 + 1 < w1.heap.size + 1 + 1 + 1 := by omega
  try have : w.heap.size + 1 + 1 + 1 ≤ w1.heap.size := by omega
  try have : w.heap.size + 1 + 1 + 1 + 1 < w1.heap.size := by omega
  try have : w.heap.size + 1 + 1 + 1 + 1 < w1.heap.size + 1 := by omega
  try have : w.heap.size + 1 + 1 + 1 + 1 < w1.heap.size + 1 + 1 := by omega
  try have : w.heap.size + 1 + 1 + 1 + 1 < w1.heap.size + 1 + 1 + 1 := by omega
  try have : w.heap.size + 1 + 1 + 1 + 1 ≤ w1.heap.size := by omega
  have c1_0_0 := zci w1 w.heap.size 0 (wH (a)) (by go_simp)
  have c1_0_1 := zcu w1 w.heap.size 1 (wL (a)) (by go_simp)
  have c1_1_0 := zci w1 (w.heap.size + 1) 0 (wH (b)) (by go_simp)
  have c1_1_1 := zcu w1 (w.heap.size + 1) 1 (wL (b)) (by go_simp)
  have c1_2_0 := zci w1 (w.heap.size + 1 + 1) 0 0 (by go_simp)
  have g1_2_0 := zfe w1 (w.heap.size + 1 + 1) 0 (by go_simp)
  have c1_2_1 := zcu w1 (w.heap.size + 1 + 1) 1 0 (by go_simp)
  have g1_2_1 := zfe w1 (w.heap.size + 1 + 1) 1 (by go_simp)
  have c1_3_0 := zci w1 (w.heap.size + 1 + 1 + 1) 0 0 (by go_simp)
  have g1_3_0 := zfe w1 (w.heap.size + 1 + 1 + 1) 0 (by go_simp)
  have c1_3_1 := zcu w1 (w.heap.size + 1 + 1 + 1) 1 0 (by go_simp)
  have g1_3_1 := zfe w1 (w.heap.size + 1 + 1 + 1) 1 (by go_simp)
  have c1_4_0 := zci w1 (w.heap.size + 1 + 1 + 1 + 1) 0 (wH (a)) (by go_simp)
  have g1_4_0 := zfe w1 (w.heap.size + 1 + 1 + 1 + 1) 0 (by go_simp)
  have c1_4_1 := zcu w1 (w.heap.size + 1 + 1 + 1 + 1) 1 (wL (a)) (by go_simp)
  have g1_4_1 := zfe w1 (w.heap.size + 1 + 1 + 1 + 1) 1 (by go_simp)
  clear hc1 hf1
  go_wp2_with fail
  refine (rsame0 (a % b) false (by rw [decide_eq_false_iff_not]; exact HC.out) _).mono ?_
  rintro e w2 ⟨rfl, hb2⟩
  obtain ⟨hc2, hf2⟩ := bcell hb2
  have hz2 := hb2.size
  try simp only [World.size_alloc, World.size_setCell] at hz2
  try refine zw5 w w2 (by omega) fun _ _ _ _ _ _ _ _ _ _ => ?_
  try have : w1.heap.size < w2.heap.size := by omega
  try have : w1.heap.size ≤ w2.heap.size := by omega
  try have : w1.heap.size + 1 < w2.heap.size := by omega
  try have : w1.heap.size + 1 ≤ w2.heap.size := by omega
  try have : w1.heap.size + 1 + 1 < w2.heap.size := by omega
  try have : w1.heap.size + 1 + 1 ≤ w2.heap.size := by omega
  have c2_0_0 := zci w2 w.heap.size 0 (wH (a)) (by go_simp)
  have c2_0_1 := zcu w2 w.heap.size 1 (wL (a)) (by go_simp)
  have c2_1_0 := zci w2 (w.heap.size + 1) 0 (wH (b)) (by go_simp)
  have c2_1_1 := zcu w2 (w.heap.size + 1) 1 (wL (b)) (by go_simp)
  have c2_2_0 := zci w2 (w.heap.size + 1 + 1) 0 0 (by go_simp)
  have g2_2_0 := zfe w2 (w.heap.size + 1 + 1) 0 (by go_simp)
  have c2_2_1 := zcu w2 (w.heap.size + 1 + 1) 1 0 (by go_simp)
  have g2_2_1 := zfe w2 (w.heap.size + 1 + 1) 1 (by go_simp)
  have c2_3_0 := zci w2 (w.heap.size + 1 + 1 + 1) 0 0 (by go_simp)
  have g2_3_0 := zfe w2 (w.heap.size + 1 + 1 + 1) 0 (by go_simp)
  have c2_3_1 := zcu w2 (w.heap.size + 1 + 1 + 1) 1 0 (by go_simp)
  have g2_3_1 := zfe w2 (w.heap.size + 1 + 1 + 1) 1 (by go_simp)
  have c2_4_0 := zci w2 (w.heap.size + 1 + 1 + 1 + 1) 0 (wH (a)) (by go_simp)
  have g2_4_0 := zfe w2 (w.heap.size + 1 + 1 + 1 + 1) 0 (by go_simp)
  have c2_4_1 := zcu w2 (w.heap.size + 1 + 1 + 1 + 1) 1 (wL (a)) (by go_simp)
  have g2_4_1 := zfe w2 (w.heap.size + 1 + 1 + 1 + 1) 1 (by go_simp)
  have c2_5_0 := zci w2 w1.heap.size 0 (wH (a / b)) (by go_simp)
  have g2_5_0 := zfe w2 w1.heap.size 0 (by go_simp)
  have c2_5_1 := zcu w2 w1.heap.size 1 (wL (a / b)) (by go_simp)
  have g2_5_1 := zfe w2 w1.heap.size 1 (by go_simp)
  have c2_6_0 := zci w2 (w1.heap.size + 1) 0 (wH (a % b)) (by go_simp)
  have g2_6_0 := zfe w2 (w1.heap.size + 1) 0 (by go_simp)
  have c2_6_1 := zcu w2 (w1.heap.size + 1) 1 (wL (a % b)) (by go_simp)
  have g2_6_1 := zfe w2 (w1.heap.size + 1) 1 (by go_simp)
  have c2_7_0 := zci w2 (w1.heap.size + 1 + 1) 0 (wH (a / b)) (by go_simp)
  have g2_7_0 := zfe w2 (w1.heap.size + 1 + 1) 0 (by go_simp)
  have c2_7_1 := zcu w2 (w1.heap.size + 1 + 1) 1 (wL (a / b)) (by go_simp)
  have g2_7_1 := zfe w2 (w1.heap.size + 1 + 1) 1 (by go_simp)
  clear hc2 hf2 c1_0_0 c1_0_1 c1_1_0 c1_1_1 c1_2_0 g1_2_0 c1_2_1 g1_2_1 c1_3_0 g1_3_0 c1_3_1 g1_3_1 c1_4_0 g1_4_0 c1_4_1 g1_4_1
  go_wp2_with fail
  refine (rplus1 (a / b) (by have := hq.out; constructor <;> omega) (by have := hq.out; constructor <;> omega) _).mono ?_
  rintro e w3 ⟨rfl, hb3⟩
  obtain ⟨hc3, hf3⟩ := bcell hb3
  have hz3 := hb3.size
  try simp only [World.size_alloc, World.size_setCell] at hz3
  try refine zw5 w w3 (by omega) fun _ _ _ _ _ _ _ _ _ _ => ?_
  try have : w1.heap.size < w3.heap.size := by omega
  try have : w1.heap.size ≤ w3.heap.size := by omega
  try have : w1.heap.size + 1 < w3.heap.size := by omega
  try have : w1.heap.size + 1 ≤ w3.heap.size := by omega
  try have : w1.heap.size + 1 + 1 < w3.heap.size := by omega
  try have : w1.heap.size + 1 + 1 ≤ w3.heap.size := by omega
  have c3_0_0 := zci w3 w.heap.size 0 (wH (a)) (by go_simp)
  have c3_0_1 := zcu w3 w.heap.size 1 (wL (a)) (by go_simp)
  have c3_1_0 := zci w3 (w.heap.size + 1) 0 (wH (b)) (by go_simp)
  have c3_1_1 := zcu w3 (w.heap.size + 1) 1 (wL (b)) (by go_simp)
  have c3_2_0 := zci w3 (w.heap.size + 1 + 1) 0 0 (by go_simp)
  have g3_2_0 := zfe w3 (w.heap.size + 1 + 1) 0 (by go_simp)
  have c3_2_1 := zcu w3 (w.heap.size + 1 + 1) 1 0 (by go_simp)
  have g3_2_1 := zfe w3 (w.heap.size + 1 + 1) 1 (by go_simp)
  have c3_3_0 := zci w3 (w.heap.size + 1 + 1 + 1) 0 0 (by go_simp)
  have g3_3_0 := zfe w3 (w.heap.size + 1 + 1 + 1) 0 (by go_simp)
  have c3_3_1 := zcu w3 (w.heap.size + 1 + 1 + 1) 1 0 (by go_simp)
  have g3_3_1 := zfe w3 (w.heap.size + 1 + 1 + 1) 1 (by go_simp)
  have c3_4_0 := zci w3 (w.heap.size + 1 + 1 + 1 + 1) 0 (wH (a)) (by go_simp)
  have g3_4_0 := zfe w3 (w.heap.size + 1 + 1 + 1 + 1) 0 (by go_simp)
  have c3_4_1 := zcu w3 (w.heap.size + 1 + 1 + 1 + 1) 1 (wL (a)) (by go_simp)
  have g3_4_1 := zfe w3 (w.heap.size + 1 + 1 + 1 + 1) 1 (by go_simp)
  have c3_5_0 := zci w3 w1.heap.size 0 (wH (a / b)) (by go_simp)
  have g3_5_0 := zfe w3 w1.heap.size 0 (by go_simp)
  have c3_5_1 := zcu w3 w1.heap.size 1 (wL (a / b)) (by go_simp)
  have g3_5_1 := zfe w3 w1.heap.size 1 (by go_simp)
  have c3_6_0 := zci w3 (w1.heap.size + 1) 0 (wH (a % b)) (by go_simp)
  have g3_6_0 := zfe w3 (w1.heap.size + 1) 0 (by go_simp)
  have c3_6_1 := zcu w3 (w1.heap.size + 1) 1 (wL (a % b)) (by go_simp)
  have g3_6_1 := zfe w3 (w1.heap.size + 1) 1 (by go_simp)
  have c3_7_0 := zci w3 (w1.heap.size + 1 + 1) 0 (wH (a / b)) (by go_simp)
  have g3_7_0 := zfe w3 (w1.heap.size + 1 + 1) 0 (by go_simp)
  have c3_7_1 := zcu w3 (w1.heap.size + 1 + 1) 1 (wL (a / b)) (by go_simp)
  have g3_7_1 := zfe w3 (w1.heap.size + 1 + 1) 1 (by go_simp)
  clear hc3 hf3 c2_0_0 c2_0_1 c2_1_0 c2_1_1 c2_2_0 g2_2_0 c2_2_1 g2_2_1 c2_3_0 g2_3_0 c2_3_1 g2_3_1 c2_4_0 g2_4_0 c2_4_1 g2_4_1 c2_5_0 g2_5_0 c2_5_1 g2_5_1 c2_6_0 g2_6_0 c2_6_1 g2_6_1 c2_7_0 g2_7_0 c2_7_1 g2_7_1
  go_wp2_with fail
  go_region
  all_goals go_wp2
  all_goals refine bodyPost_ret (v := .tuple #[.agg #[.int .i64 (wH (a / b)), .int .u64 (wL (a / b))], .agg #[.int .i64 (wH (a / b + 1)), .int .u64 (wL (a / b + 1))]]) (by simp only [results, Try.results117]; go_simp) rfl ⟨rfl, blw_⟩
theorem neg_div_z {a b : Int} (h : (-a) % b = 0) : a / b = -((-a) / b) ∧ cdiv a b = -((-a) / b) := by
 have h2 := cdiv_zero h
 unfold cdiv at *
 rw [Int.neg_neg] at h2
 exact ⟨by omega, by omega⟩
theorem neg_div_n {a b : Int} (hb : 0 < b) (h : ¬ (-a) % b = 0) : a / b = -((-a) / b + 1) ∧ cdiv a b = -((-a) / b) := by
 have h2 := cdiv_pos hb h
 unfold cdiv at *
 rw [Int.neg_neg] at h2
 exact ⟨by omega, by omega⟩
set_option maxHeartbeats 1000000 in
theorem rquot_n (a b : Int) (ka : a < 0) (ka2 : -85070591730234615865843651857942052864 < a) (kb : 0 < b) (kb2 : b < 85070591730234615865843651857942052864) (w : World) :
  Calls Try.prog 117 #[.agg #[.int .i64 (wH (a)), .int .u64 (wL (a))], .agg #[.int .i64 (wH (b)), .int .u64 (wL (b))]] w fun e w' => e = .returned (.tuple #[.agg #[.int .i64 (wH (a / b)), .int .u64 (wL (a / b))], .agg #[.int .i64 (wH (cdiv a b)), .int .u64 (wL (cdiv a b))]]) ∧ Below w.heap.size w w' := by
 have hs := wH_neg ka
 have hq := hide (quo_bd (a := -a) (b := b) (by omega) kb)
 have HA : Hid (R126 a) := hide ⟨by omega, by omega⟩
 by_cases c : (-a) % b = 0
 ·rw [(neg_div_z c).1, (neg_div_z c).2]
  have HC := hide c
  clear c
  go_enter Try.func117, Try.ntmps117
  go_wp2_with fail
  refine (rminus a HA.out _).mono ?_
  rintro e w1 ⟨rfl, hb1⟩
  obtain ⟨hc1, hf1⟩ := bcell hb1
  have hz1 := hb1.size
  try simp only [World.size_alloc, World.size_setCell] at hz1
  try refine zw5 w w1 (by omega) fun _ _ _ _ _ _ _ _ _ _ => ?_
  have c1_0_0 := zci w1 w.heap.size 0 (wH (a)) (by go_simp)
  have c1_0_1 := zcu w1 w.heap.size 1 (wL (a)) (by go_simp)
  have c1_1_0 := zci w1 (w.heap.size + 1) 0 (wH (b)) (by go_simp)
  have c1_1_1 := zcu w1 (w.heap.size + 1) 1 (wL (b)) (by go_simp)
  have c1_2_0 := zci w1 (w.heap.size + 1 + 1) 0 0 (by go_simp)
  have g1_2_0 := zfe w1 (w.heap.size + 1 + 1) 0 (by go_simp)
  have c1_2_1 := zcu w1 (w.heap.size + 1 + 1) 1 0 (by go_simp)
  have g1_2_1 := zfe w1 (w.heap.size + 1 + 1) 1 (by go_simp)
  have c1_3_0 := zci w1 (w.heap.size + 1 + 1 + 1) 0 0 (by go_simp)
  have g1_3_0 := zfe w1 (w.heap.size + 1 + 1 + 1) 0 (by go_simp)
  have c1_3_1 := zcu w1 (w.heap.size + 1 + 1 + 1) 1 0 (by go_simp)
  have g1_3_1 := zfe w1 (w.heap.size + 1 + 1 + 1) 1 (by go_simp)
  have c1_4_0 := zci w1 (w.heap.size + 1 + 1 + 1 + 1) 0 (wH (a)) (by go_simp)
  have g1_4_0 := zfe w1 (w.heap.size + 1 + 1 + 1 + 1) 0 (by go_simp)
  have c1_4_1 := zcu w1 (w.heap.size + 1 + 1 + 1 + 1) 1 (wL (a)) (by go_simp)
  have g1_4_1 := zfe w1 (w.heap.size + 1 + 1 + 1 + 1) 1 (by go_simp)
  clear hc1 hf1
  go_wp2_with fail
  refine (rdivide (-a) b (by omega) (by omega) kb kb2 _).mono ?_
  rintro e w2 ⟨rfl, hb2⟩
  obtain ⟨hc2, hf2⟩ := bcell hb2
  have hz2 := hb2.size
  try simp only [World.size_alloc, World.size_setCell] at hz2
  try have : w.heap.size < w2.heap.size := by omega
  try have : w.heap.size < w2.heap.size + 1 := by omega
  try have : w.heap.size < w2.heap.size + 1 + 1 := by omega
  try have : w.heap.size < w2.heap.size + 1 + 1 + 1 := by omega
  try have : w.heap.size ≤ w2.heap.size := by omega
  try have : w.heap.size + 1 < w2.heap.size := by omega
  try have : w.heap.size + 1 < w2.heap.size + 1 := by omega
  try have : w.heap.size + 1 < w2.heap.size + 1 + 1 := by omega
  try have : w.heap.size + 1 < w2.heap.size + 1 + 1 + 1 := by omega
  try have : w.heap.size + 1 ≤ w2.heap.size := by omega
  try have : w.heap.size + 1 + 1 < w2.heap.size := by omega
  try have : w.heap.size + 1 + 1 < w2.heap.size + 1 := by omega
  try have : w.heap.size + 1 + 1 < w2.heap.size + 1 + 1 := by omega
  try have : w.heap.size + 1 + 1 < w2.heap.size + 1 + 1 + 1 := by omega
  try have : w.heap.size + 1 + 1 ≤ w2.heap.size := by omega
  try have : w.heap.size + 1 + 1 + 1 < w2.heap.size := by omega
  try have : w.heap.size + 1 + 1 + 1 < w2.heap.size + 1 := by omega
  try have : w.heap.size + 1 + 1 + 1 < w2.heap.size + 1 + 1 := by omega
  try have : w.heap.size + 1 + 1 + 1 < w2.heap.size + 1 + 1 + 1 := by omega
  try have : w.heap.size + 1 + 1 + 1 ≤ w2.heap.size := by omega
  try have : w.heap.size + 1 + 1 + 1 + 1 < w2.heap.size := by omega
  try have : w.heap.size + 1 + 1 + 1 + 1 < w2.heap.size + 1 := by omega
  try have : w.heap.size + 1 + 1 + 1 + 1 < w2.heap.size + 1 + 1 := by omega
  try have : w.heap.size + 1 + 1 + 1 + 1 < w2.heap.size + 1 + 1 + 1 := by omega
  try have : w.heap.size + 1 + 1 + 1 + 1 ≤ w2.heap.size := by omega
  have c2_0_0 := zci w2 w.heap.size 0 (wH (a)) (by go_simp)
  have c2_0_1 := zcu w2 w.heap.size 1 (wL (a)) (by go_simp)
  have c2_1_0 := zci w2 (w.heap.size + 1) 0 (wH (b)) (by go_simp)
  have c2_1_1 := zcu w2 (w.heap.size + 1) 1 (wL (b)) (by go_simp)
  have c2_2_0 := zci w2 (w.heap.size + 1 + 1) 0 0 (by go_simp)
  have g2_2_0 := zfe w2 (w.heap.size + 1 + 1) 0 (by go_simp)
  have c2_2_1 := zcu w2 (w.heap.size + 1 + 1) 1 0 (by go_simp)
  have g2_2_1 := zfe w2 (w.heap.size + 1 + 1) 1 (by go_simp)
  have c2_3_0 := zci w2 (w.heap.size + 1 + 1 + 1) 0 0 (by go_simp)
  have g2_3_0 := zfe w2 (w.heap.size + 1 + 1 + 1) 0 (by go_simp)
  have c2_3_1 := zcu w2 (w.heap.size + 1 + 1 + 1) 1 0 (by go_simp)
  have g2_3_1 := zfe w2 (w.heap.size + 1 + 1 + 1) 1 (by go_simp)
  have c2_4_0 := zci w2 (w.heap.size + 1 + 1 + 1 + 1) 0 (wH (-a)) (by go_simp)
  have g2_4_0 := zfe w2 (w.heap.size + 1 + 1 + 1 + 1) 0 (by go_simp)
  have c2_4_1 := zcu w2 (w.heap.size + 1 + 1 + 1 + 1) 1 (wL (-a)) (by go_simp)
  have g2_4_1 := zfe w2 (w.heap.size + 1 + 1 + 1 + 1) 1 (by go_simp)
  clear hc2 hf2 c1_0_0 c1_0_1 c1_1_0 c1_1_1 c1_2_0 g1_2_0 c1_2_1 g1_2_1 c1_3_0 g1_3_0 c1_3_1 g1_3_1 c1_4_0 g1_4_0 c1_4_1 g1_4_1
  go_wp2_with fail
  refine (rsame0 (-a % b) true (by rw [decide_eq_true_eq]; exact HC.out) _).mono ?_
  rintro e w3 ⟨rfl, hb3⟩
  obtain ⟨hc3, hf3⟩ := bcell hb3
  have hz3 := hb3.size
  try simp only [World.size_alloc, World.size_setCell] at hz3
  try refine zw5 w w3 (by omega) fun _ _ _ _ _ _ _ _ _ _ => ?_
  try have : w2.heap.size < w3.heap.size := by omega
  try have : w2.heap.size ≤ w3.heap.size := by omega
  try have : w2.heap.size + 1 < w3.heap.size := by omega
  try have : w2.heap.size + 1 ≤ w3.heap.size := by omega
  try have : w2.heap.size + 1 + 1 < w3.heap.size := by omega
  try have : w2.heap.size + 1 + 1 ≤ w3.heap.size := by omega
  have c3_0_0 := zci w3 w.heap.size 0 (wH (a)) (by go_simp)
  have c3_0_1 := zcu w3 w.heap.size 1 (wL (a)) (by go_simp)
  have c3_1_0 := zci w3 (w.heap.size + 1) 0 (wH (b)) (by go_simp)
  have c3_1_1 := zcu w3 (w.heap.size + 1) 1 (wL (b)) (by go_simp)
  have c3_2_0 := zci w3 (w.heap.size + 1 + 1) 0 0 (by go_simp)
  have g3_2_0 := zfe w3 (w.heap.size + 1 + 1) 0 (by go_simp)
  have c3_2_1 := zcu w3 (w.heap.size + 1 + 1) 1 0 (by go_simp)
  have g3_2_1 := zfe w3 (w.heap.size + 1 + 1) 1 (by go_simp)
  have c3_3_0 := zci w3 (w.heap.size + 1 + 1 + 1) 0 0 (by go_simp)
  have g3_3_0 := zfe w3 (w.heap.size + 1 + 1 + 1) 0 (by go_simp)
  have c3_3_1 := zcu w3 (w.heap.size + 1 + 1 + 1) 1 0 (by go_simp)
  have g3_3_1 := zfe w3 (w.heap.size + 1 + 1 + 1) 1 (by go_simp)
  have c3_4_0 := zci w3 (w.heap.size + 1 + 1 + 1 + 1) 0 (wH (-a)) (by go_simp)
  have g3_4_0 := zfe w3 (w.heap.size + 1 + 1 + 1 + 1) 0 (by go_simp)
  have c3_4_1 := zcu w3 (w.heap.size + 1 + 1 + 1 + 1) 1 (wL (-a)) (by go_simp)
  have g3_4_1 := zfe w3 (w.heap.size + 1 + 1 + 1 + 1) 1 (by go_simp)
  have c3_5_0 := zci w3 w2.heap.size 0 (wH (-a / b)) (by go_simp)
  have g3_5_0 := zfe w3 w2.heap.size 0 (by go_simp)
  have c3_5_1 := zcu w3 w2.heap.size 1 (wL (-a / b)) (by go_simp)
  have g3_5_1 := zfe w3 w2.heap.size 1 (by go_simp)
  have c3_6_0 := zci w3 (w2.heap.size + 1) 0 (wH (-a % b)) (by go_simp)
  have g3_6_0 := zfe w3 (w2.heap.size + 1) 0 (by go_simp)
  have c3_6_1 := zcu w3 (w2.heap.size + 1) 1 (wL (-a % b)) (by go_simp)
  have g3_6_1 := zfe w3 (w2.heap.size + 1) 1 (by go_simp)
  have c3_7_0 := zci w3 (w2.heap.size + 1 + 1) 0 (wH (-a / b)) (by go_simp)
  have g3_7_0 := zfe w3 (w2.heap.size + 1 + 1) 0 (by go_simp)
  have c3_7_1 := zcu w3 (w2.heap.size + 1 + 1) 1 (wL (-a / b)) (by go_simp)
  have g3_7_1 := zfe w3 (w2.heap.size + 1 + 1) 1 (by go_simp)
  clear hc3 hf3 c2_0_0 c2_0_1 c2_1_0 c2_1_1 c2_2_0 g2_2_0 c2_2_1 g2_2_1 c2_3_0 g2_3_0 c2_3_1 g2_3_1 c2_4_0 g2_4_0 c2_4_1 g2_4_1
  have : ¬ w.heap.size + 1 + 1 = w2.heap.size := by omega
  have : ¬ w.heap.size + 1 + 1 = w2.heap.size + 1 + 1 := by omega
  have : ¬ w.heap.size + 1 + 1 + 1 = w2.heap.size := by omega
  have : ¬ w.heap.size + 1 + 1 + 1 = w2.heap.size + 1 + 1 := by omega
  have : ¬ w2.heap.size = w.heap.size + 1 + 1 := by omega
  have : ¬ w2.heap.size = w.heap.size + 1 + 1 + 1 := by omega
  have : ¬ w2.heap.size + 1 + 1 = w.heap.size + 1 + 1 := by omega
  have : ¬ w2.heap.size + 1 + 1 = w.heap.size + 1 + 1 + 1 := by omega
  have HQ1 : Hid (R126 (-a / b)) := hide ⟨by have := hq.out; omega, by have := hq.out; omega⟩
  have HQ2 := HQ1
  go_wp2_with fail
  go_region_with (first | (go_at_call 111; (first | ((with_reducible refine (rminus (-a / b) HQ1.out _).mono ?_); rintro e w20 ⟨rfl, hb20⟩; (first | (have hd20 := by with_reducible exact below_of_drew hb20) | (have hd20 := hb20)); obtain ⟨hc20, hf20⟩ := bcell hd20; have hz20 := hb20.size; (have : w.heap.size + 1 + 1 < w20.heap.size := by (try simp at hz20); omega); (have : w.heap.size + 1 + 1 + 1 < w20.heap.size := by (try simp at hz20); omega); (have : w2.heap.size < w20.heap.size := by (try simp at hz20); omega); (have : w2.heap.size + 1 + 1 < w20.heap.size := by (try simp at hz20); omega)) | ((with_reducible refine (rminus (-a / b) HQ2.out _).mono ?_); rintro e w21 ⟨rfl, hb21⟩; (first | (have hd21 := by with_reducible exact below_of_drew hb21) | (have hd21 := hb21)); obtain ⟨hc21, hf21⟩ := bcell hd21; have hz21 := hb21.size; (have : w.heap.size + 1 + 1 < w21.heap.size := by (try simp at hz21); omega); (have : w.heap.size + 1 + 1 + 1 < w21.heap.size := by (try simp at hz21); omega); (have : w2.heap.size < w21.heap.size := by (try simp at hz21); omega); (have : w2.heap.size + 1 + 1 < w21.heap.size := by (try simp at hz21); omega)))))
  all_goals go_wp2
  all_goals refine bodyPost_ret (v := .tuple #[.agg #[.int .i64 (wH (-(-a / b))), .int .u64 (wL (-(-a / b)))], .agg #[.int .i64 (wH (-(-a / b))), .int .u64 (wL (-(-a / b)))]]) (by simp only [results, Try.results117]; go_simp) rfl ⟨rfl, blw_⟩
 ·rw [(neg_div_n kb c).1, (neg_div_n kb c).2]
  have HC := hide c
  clear c
  go_enter Try.func117, Try.ntmps117
  go_wp2_with fail
  refine (rminus a HA.out _).mono ?_
  rintro e w1 ⟨rfl, hb1⟩
  obtain ⟨hc1, hf1⟩ := bcell hb1
  have hz1 := hb1.size
  try simp only [World.size_alloc, World.size_setCell] at hz1
  try refine zw5 w w1 (by omega) fun _ _ _ _ _ _ _ _ _ _ => ?_
  have c1_0_0 := zci w1 w.heap.size 0 (wH (a)) (by go_simp)
  have c1_0_1 := zcu w1 w.heap.size 1 (wL (a)) (by go_simp)
  have c1_1_0 := zci w1 (w.heap.size + 1) 0 (wH (b)) (by go_simp)
  have c1_1_1 := zcu w1 (w.heap.size + 1) 1 (wL (b)) (by go_simp)
  have c1_2_0 := zci w1 (w.heap.size + 1 + 1) 0 0 (by go_simp)
  have g1_2_0 := zfe w1 (w.heap.size + 1 + 1) 0 (by go_simp)
  have c1_2_1 := zcu w1 (w.heap.size + 1 + 1) 1 0 (by go_simp)
  have g1_2_1 := zfe w1 (w.heap.size + 1 + 1) 1 (by go_simp)
  have c1_3_0 := zci w1 (w.heap.size + 1 + 1 + 1) 0 0 (by go_simp)
  have g1_3_0 := zfe w1 (w.heap.size + 1 + 1 + 1) 0 (by go_simp)
  have c1_3_1 := zcu w1 (w.heap.size + 1 + 1 + 1) 1 0 (by go_simp)
  have g1_3_1 := zfe w1 (w.heap.size + 1 + 1 + 1) 1 (by go_simp)
  have c1_4_0 := zci w1 (w.heap.size + 1 + 1 + 1 + 1) 0 (wH (a)) (by go_simp)
  have g1_4_0 := zfe w1 (w.heap.size + 1 + 1 + 1 + 1) 0 (by go_simp)
  have c1_4_1 := zcu w1 (w.heap.size + 1 + 1 + 1 + 1) 1 (wL (a)) (by go_simp)
  have g1_4_1 := zfe w1 (w.heap.size + 1 + 1 + 1 + 1) 1 (by go_simp)
  clear hc1 hf1
  go_wp2_with fail
  refine (rdivide (-a) b (by omega) (by omega) kb kb2 _).mono ?_
  rintro e w2 ⟨rfl, hb2⟩
  obtain ⟨hc2, hf2⟩ := bcell hb2
  have hz2 := hb2.size
  try simp only [World.size_alloc, World.size_setCell] at hz2
  try have : w.heap.size < w2.heap.size := by omega
  try have : w.heap.size < w2.heap.size + 1 := by omega
  try have : w.heap.size < w2.heap.size + 1 + 1 := by omega
  try have : w.heap.size < w2.heap.size + 1 + 1 + 1 := by omega
  try have : w.heap.size ≤ w2.heap.size := by omega
  try have : w.heap.size + 1 < w2.heap.size := by omega
  try have : w.heap.size + 1 < w2.heap.size + 1 := by omega
  try have : w.heap.size + 1 < w2.heap.size + 1 + 1 := by omega
  try have : w.heap.size + 1 < w2.heap.size + 1 + 1 + 1 := by omega
  try have : w.heap.size + 1 ≤ w2.heap.size := by omega
  try have : w.heap.size + 1 + 1 < w2.heap.size := by omega
  try have : w.heap.size + 1 + 1 < w2.heap.size + 1 := by omega
  try have : w.heap.size + 1 + 1 < w2.heap.size + 1 + 1 := by omega
  try have : w.heap.size + 1 + 1 < w2.heap.size + 1 + 1 + 1 := by omega
  try have : w.heap.size + 1 + 1 ≤ w2.heap.size := by omega
  try have : w.heap.size + 1 + 1 + 1 < w2.heap.size := by omega
  try have : w.heap.size + 1 + 1 + 1 < w2.heap.size + 1 := by omega
  try have : w.heap.size + 1 + 1 + 1 < w2.heap.size + 1 + 1 := by omega
  try have : w.heap.size + 1 + 1 + 1 < w2.heap.size + 1 + 1 + 1 := by omega
  try have : w.heap.size + 1 + 1 + 1 ≤ w2.heap.size := by omega
  try have : w.heap.size + 1 + 1 + 1 + 1 < w2.heap.size := by omega
  try have : w.heap.size + 1 + 1 + 1 + 1 < w2.heap.size + 1 := by omega
  try have : w.heap.size + 1 + 1 + 1 + 1 < w2.heap.size + 1 + 1 := by omega
  try have : w.heap.size + 1 + 1 + 1 + 1 < w2.heap.size + 1 + 1 + 1 := by omega
  try have : w.heap.size + 1 + 1 + 1 + 1 ≤ w2.heap.size := by omega
  have c2_0_0 := zci w2 w.heap.size 0 (wH (a)) (by go_simp)
  have c2_0_1 := zcu w2 w.heap.size 1 (wL (a)) (by go_simp)
  have c2_1_0 := zci w2 (w.heap.size + 1) 0 (wH (b)) (by go_simp)
  have c2_1_1 := zcu w2 (w.heap.size + 1) 1 (wL (b)) (by go_simp)
  have c2_2_0 := zci w2 (w.heap.size + 1 + 1) 0 0 (by go_simp)
  have g2_2_0 := zfe w2 (w.heap.size + 1 + 1) 0 (by go_simp)
  have c2_2_1 := zcu w2 (w.heap.size + 1 + 1) 1 0 (by go_simp)
  have g2_2_1 := zfe w2 (w.heap.size + 1 + 1) 1 (by go_simp)
  have c2_3_0 := zci w2 (w.heap.size + 1 + 1 + 1) 0 0 (by go_simp)
  have g2_3_0 := zfe w2 (w.heap.size + 1 + 1 + 1) 0 (by go_simp)
  have c2_3_1 := zcu w2 (w.heap.size + 1 + 1 + 1) 1 0 (by go_simp)
  have g2_3_1 := zfe w2 (w.heap.size + 1 + 1 + 1) 1 (by go_simp)
  have c2_4_0 := zci w2 (w.heap.size + 1 + 1 + 1 + 1) 0 (wH (-a)) (by go_simp)
  have g2_4_0 := zfe w2 (w.heap.size + 1 + 1 + 1 + 1) 0 (by go_simp)
  have c2_4_1 := zcu w2 (w.heap.size + 1 + 1 + 1 + 1) 1 (wL (-a)) (by go_simp)
  have g2_4_1 := zfe w2 (w.heap.size + 1 + 1 + 1 + 1) 1 (by go_simp)
  clear hc2 hf2 c1_0_0 c1_0_1 c1_1_0 c1_1_1 c1_2_0 g1_2_0 c1_2_1 g1_2_1 c1_3_0 g1_3_0 c1_3_1 g1_3_1 c1_4_0 g1_4_0 c1_4_1 g1_4_1
  go_wp2_with fail
  refine (rsame0 (-a % b) false (by rw [decide_eq_false_iff_not]; exact HC.out) _).mono ?_
  rintro e w3 ⟨rfl, hb3⟩
  obtain ⟨hc3, hf3⟩ := bcell hb3
  have hz3 := hb3.size
  try simp only [World.size_alloc, World.size_setCell] at hz3
  try refine zw5 w w3 (by omega) fun _ _ _ _ _ _ _ _ _ _ => ?_
  try have : w2.heap.size < w3.heap.size := by omega
  try have : w2.heap.size ≤ w3.heap.size := by omega
  try have : w2.heap.size + 1 < w3.heap.size := by omega
  try have : w2.heap.size + 1 ≤ w3.heap.size := by omega
  try have : w2.heap.size + 1 + 1 < w3.heap.size := by omega
  try have : w2.heap.size + 1 + 1 ≤ w3.heap.size := by omega
  have c3_0_0 := zci w3 w.heap.size 0 (wH (a)) (by go_simp)
  have c3_0_1 := zcu w3 w.heap.size 1 (wL (a)) (by go_simp)
  have c3_1_0 := zci w3 (w.heap.size + 1) 0 (wH (b)) (by go_simp)
  have c3_1_1 := zcu w3 (w.heap.size + 1) 1 (wL (b)) (by go_simp)
  have c3_2_0 := zci w3 (w.heap.size + 1 + 1) 0 0 (by go_simp)
  have g3_2_0 := zfe w3 (w.heap.size + 1 + 1) 0 (by go_simp)
  have c3_2_1 := zcu w3 (w.heap.size + 1 + 1) 1 0 (by go_simp)
  have g3_2_1 := zfe w3 (w.heap.size + 1 + 1) 1 (by go_simp)
  have c3_3_0 := zci w3 (w.heap.size + 1 + 1 + 1) 0 0 (by go_simp)
  have g3_3_0 := zfe w3 (w.heap.size + 1 + 1 + 1) 0 (by go_simp)
  have c3_3_1 := zcu w3 (w.heap.size + 1 + 1 + 1) 1 0 (by go_simp)
  have g3_3_1 := zfe w3 (w.heap.size + 1 + 1 + 1) 1 (by go_simp)
  have c3_4_0 := zci w3 (w.heap.size + 1 + 1 + 1 + 1) 0 (wH (-a)) (by go_simp)
  have g3_4_0 := zfe w3 (w.heap.size + 1 + 1 + 1 + 1) 0 (by go_simp)
  have c3_4_1 := zcu w3 (w.heap.size + 1 + 1 + 1 + 1) 1 (wL (-a)) (by go_simp)
  have g3_4_1 := zfe w3 (w.heap.size + 1 + 1 + 1 + 1) 1 (by go_simp)
  have c3_5_0 := zci w3 w2.heap.size 0 (wH (-a / b)) (by go_simp)
  have g3_5_0 := zfe w3 w2.heap.size 0 (by go_simp)
  have c3_5_1 := zcu w3 w2.heap.size 1 (wL (-a / b)) (by go_simp)
  have g3_5_1 := zfe w3 w2.heap.size 1 (by go_simp)
  have c3_6_0 := zci w3 (w2.heap.size + 1) 0 (wH (-a % b)) (by go_simp)
  have g3_6_0 := zfe w3 (w2.heap.size + 1) 0 (by go_simp)
  have c3_6_1 := zcu w3 (w2.heap.size + 1) 1 (wL (-a % b)) (by go_simp)
  have g3_6_1 := zfe w3 (w2.heap.size + 1) 1 (by go_simp)
  have c3_7_0 := zci w3 (w2.heap.size + 1 + 1) 0 (wH (-a / b)) (by go_simp)
  have g3_7_0 := zfe w3 (w2.heap.size + 1 + 1) 0 (by go_simp)
  have c3_7_1 := zcu w3 (w2.heap.size + 1 + 1) 1 (wL (-a / b)) (by go_simp)
  have g3_7_1 := zfe w3 (w2.heap.size + 1 + 1) 1 (by go_simp)
  clear hc3 hf3 c2_0_0 c2_0_1 c2_1_0 c2_1_1 c2_2_0 g2_2_0 c2_2_1 g2_2_1 c2_3_0 g2_3_0 c2_3_1 g2_3_1 c2_4_0 g2_4_0 c2_4_1 g2_4_1
  go_wp2_with fail
  refine (rplus1 (-a / b) (by have := hq.out; constructor <;> omega) (by have := hq.out; constructor <;> omega) _).mono ?_
  rintro e w4 ⟨rfl, hb4⟩
  obtain ⟨hc4, hf4⟩ := bcell hb4
  have hz4 := hb4.size
  try simp only [World.size_alloc, World.size_setCell] at hz4
  try refine zw5 w w4 (by omega) fun _ _ _ _ _ _ _ _ _ _ => ?_
  try have : w2.heap.size < w4.heap.size := by omega
  try have : w2.heap.size ≤ w4.heap.size := by omega
  try have : w2.heap.size + 1 < w4.heap.size := by omega
  try have : w2.heap.size + 1 ≤ w4.heap.size := by omega
  try have : w2.heap.size + 1 + 1 < w4.heap.size := by omega
  try have : w2.heap.size + 1 + 1 ≤ w4.heap.size := by omega
  have c4_0_0 := zci w4 w.heap.size 0 (wH (a)) (by go_simp)
  have c4_0_1 := zcu w4 w.heap.size 1 (wL (a)) (by go_simp)
  have c4_1_0 := zci w4 (w.heap.size + 1) 0 (wH (b)) (by go_simp)
  have c4_1_1 := zcu w4 (w.heap.size + 1) 1 (wL (b)) (by go_simp)
  have c4_2_0 := zci w4 (w.heap.size + 1 + 1) 0 0 (by go_simp)
  have g4_2_0 := zfe w4 (w.heap.size + 1 + 1) 0 (by go_simp)
  have c4_2_1 := zcu w4 (w.heap.size + 1 + 1) 1 0 (by go_simp)
  have g4_2_1 := zfe w4 (w.heap.size + 1 + 1) 1 (by go_simp)
  have c4_3_0 := zci w4 (w.heap.size + 1 + 1 + 1) 0 0 (by go_simp)
  have g4_3_0 := zfe w4 (w.heap.size + 1 + 1 + 1) 0 (by go_simp)
  have c4_3_1 := zcu w4 (w.heap.size + 1 + 1 + 1) 1 0 (by go_simp)
  have g4_3_1 := zfe w4 (w.heap.size + 1 + 1 + 1) 1 (by go_simp)
  have c4_4_0 := zci w4 (w.heap.size + 1 + 1 + 1 + 1) 0 (wH (-a)) (by go_simp)
  have g4_4_0 := zfe w4 (w.heap.size + 1 + 1 + 1 + 1) 0 (by go_simp)
  have c4_4_1 := zcu w4 (w.heap.size + 1 + 1 + 1 + 1) 1 (wL (-a)) (by go_simp)
  have g4_4_1 := zfe w4 (w.heap.size + 1 + 1 + 1 + 1) 1 (by go_simp)
  have c4_5_0 := zci w4 w2.heap.size 0 (wH (-a / b)) (by go_simp)
  have g4_5_0 := zfe w4 w2.heap.size 0 (by go_simp)
  have c4_5_1 := zcu w4 w2.heap.size 1 (wL (-a / b)) (by go_simp)
  have g4_5_1 := zfe w4 w2.heap.size 1 (by go_simp)
  have c4_6_0 := zci w4 (w2.heap.size + 1) 0 (wH (-a % b)) (by go_simp)
  have g4_6_0 := zfe w4 (w2.heap.size + 1) 0 (by go_simp)
  have c4_6_1 := zcu w4 (w2.heap.size + 1) 1 (wL (-a % b)) (by go_simp)
  have g4_6_1 := zfe w4 (w2.heap.size + 1) 1 (by go_simp)
  have c4_7_0 := zci w4 (w2.heap.size + 1 + 1) 0 (wH (-a / b)) (by go_simp)
  have g4_7_0 := zfe w4 (w2.heap.size + 1 + 1) 0 (by go_simp)
  have c4_7_1 := zcu w4 (w2.heap.size + 1 + 1) 1 (wL (-a / b)) (by go_simp)
  have g4_7_1 := zfe w4 (w2.heap.size + 1 + 1) 1 (by go_simp)
  clear hc4 hf4 c3_0_0 c3_0_1 c3_1_0 c3_1_1 c3_2_0 g3_2_0 c3_2_1 g3_2_1 c3_3_0 g3_3_0 c3_3_1 g3_3_1 c3_4_0 g3_4_0 c3_4_1 g3_4_1 c3_5_0 g3_5_0 c3_5_1 g3_5_1 c3_6_0 g3_6_0 c3_6_1 g3_6_1 c3_7_0 g3_7_0 c3_7_1 g3_7_1
  have : ¬ w.heap.size + 1 + 1 = w2.heap.size := by omega
  have : ¬ w.heap.size + 1 + 1 = w2.heap.size + 1 + 1 := by omega
  have : ¬ w.heap.size + 1 + 1 + 1 = w2.heap.size := by omega
  have : ¬ w.heap.size + 1 + 1 + 1 = w2.heap.size + 1 + 1 := by omega
  have : ¬ w2.heap.size = w.heap.size + 1 + 1 := by omega
  have : ¬ w2.heap.size = w.heap.size + 1 + 1 + 1 := by omega
  have : ¬ w2.heap.size + 1 + 1 = w.heap.size + 1 + 1 := by omega
  have : ¬ w2.heap.size + 1 + 1 = w.heap.size + 1 + 1 + 1 := by omega
  have HQ1 : Hid (R126 (-a / b + 1)) := hide ⟨by have := hq.out; omega, by have := hq.out; omega⟩
  have HQ2 : Hid (R126 (-a / b)) := hide ⟨by have := hq.out; omega, by have := hq.out; omega⟩
  go_wp2_with fail
  go_region_with (first | (go_at_call 111; (first | ((with_reducible refine (rminus (-a / b + 1) HQ1.out _).mono ?_); rintro e w20 ⟨rfl, hb20⟩; (first | (have hd20 := by with_reducible exact below_of_drew hb20) | (have hd20 := hb20)); obtain ⟨hc20, hf20⟩ := bcell hd20; have hz20 := hb20.size; (have : w.heap.size + 1 + 1 < w20.heap.size := by (try simp at hz20); omega); (have : w.heap.size + 1 + 1 + 1 < w20.heap.size := by (try simp at hz20); omega); (have : w2.heap.size < w20.heap.size := by (try simp at hz20); omega); (have : w2.heap.size + 1 + 1 < w20.heap.size := by (try simp at hz20); omega)) | ((with_reducible refine (rminus (-a / b) HQ2.out _).mono ?_); rintro e w21 ⟨rfl, hb21⟩; (first | (have hd21 := by with_reducible exact below_of_drew hb21) | (have hd21 := hb21)); obtain ⟨hc21, hf21⟩ := bcell hd21; have hz21 := hb21.size; (have : w.heap.size + 1 + 1 < w21.heap.size := by (try simp at hz21); omega); (have : w.heap.size + 1 + 1 + 1 < w21.heap.size := by (try simp at hz21); omega); (have : w2.heap.size < w21.heap.size := by (try simp at hz21); omega); (have : w2.heap.size + 1 + 1 < w21.heap.size := by (try simp at hz21); omega)))))
  all_goals go_wp2
  all_goals refine bodyPost_ret (v := .tuple #[.agg #[.int .i64 (wH (-(-a / b + 1))), .int .u64 (wL (-(-a / b + 1)))], .agg #[.int .i64 (wH (-(-a / b))), .int .u64 (wL (-(-a / b)))]]) (by simp only [results, Try.results117]; go_simp) rfl ⟨rfl, blw_⟩
theorem rquot (a b : Int) (ka : -85070591730234615865843651857942052864 < a ∧ a < 85070591730234615865843651857942052864) (kb : 0 < b) (kb2 : b < 85070591730234615865843651857942052864) (w : World) :
  Calls Try.prog 117 #[.agg #[.int .i64 (wH (a)), .int .u64 (wL (a))], .agg #[.int .i64 (wH (b)), .int .u64 (wL (b))]] w fun e w' => e = .returned (.tuple #[.agg #[.int .i64 (wH (a / b)), .int .u64 (wL (a / b))], .agg #[.int .i64 (wH (cdiv a b)), .int .u64 (wL (cdiv a b))]]) ∧ Below w.heap.size w w' := by
 by_cases h : a < 0
 ·exact rquot_n a b h ka.1 kb kb2 w
 ·exact rquot_p a b (by omega) ka.2 kb kb2 w
end
section
open Go.RowKit
theorem rover_p (x y : Int) (hx : I64 x) (hy : I64 y) (h : 0 < y) (w : World) :
  Calls Try.prog 129 #[.agg #[.int .i64 (wH (x)), .int .u64 (wL (x))], .agg #[.int .i64 (wH (y)), .int .u64 (wL (y))]] w fun e w' => e = .returned (.tuple #[.agg #[.int .i64 (wH (x * 4294967296 / y)), .int .u64 (wL (x * 4294967296 / y))], .agg #[.int .i64 (wH (cdiv (x * 4294967296) y)), .int .u64 (wL (cdiv (x * 4294967296) y))]]) ∧ Below w.heap.size w w' := by
 have hs := wH_pos (Int.le_of_lt h)
 obtain ⟨_, _⟩ := hx
 obtain ⟨_, _⟩ := hy
 go_enter Try.func129, Try.ntmps129
 go_wp2_with fail
 refine QT.tail_b 6 (by kernel_rfl) (by kernel_rfl) ?_
 simp only [List.take_succ_cons, List.take_zero, List.drop_succ_cons, List.drop_zero]
 repeat (first
  | go_big_quiet_skip
  | (go_big_quiet_want; go_big_quiet_op; first
   | go_big_quiet_on
   | (apply Exists.intro
      refine ⟨fun _ => ?_, ?_⟩
      ·first
       | rfl
       | (intro hC; obtain ⟨hcq, hfq⟩ := bcellB hC; go_simp; done)
       | (intro hC; obtain ⟨hcq, hfq⟩ := bcellB hC; go_simp; rfl)
       | (intro hC; have hcq := bcellG hC; go_simp; done)
       | (intro hC; have hcq := bcellG hC; go_simp; rfl)
       | (intro hC; go_at_call 110; (first | (with_reducible refine (rup32 x (by constructor <;> omega) _).mono ?_)); (intro e w2 hw; exact ⟨hw.1, qtrans (by simp) hC hw.2⟩))
       | (intro hC; go_at_call 117; (first | (with_reducible refine (rquot (x * 4294967296) y (by constructor <;> omega) h (by omega) _).mono ?_)); (intro e w2 hw; exact ⟨hw.1, qtrans (by simp) hC hw.2⟩))
      go_big_quiet_on)))
 refine wpQuiet_nil ?_
 intro w9 hC9
 obtain ⟨hc9, hf9⟩ := bcellB hC9
 have hz9 := hC9.size
 go_wp2
 refine bodyPost_ret (v := .tuple #[.agg #[.int .i64 (wH (x * 4294967296 / y)), .int .u64 (wL (x * 4294967296 / y))], .agg #[.int .i64 (wH (cdiv (x * 4294967296) y)), .int .u64 (wL (cdiv (x * 4294967296) y))]]) (by simp only [results, Try.results129]; go_simp) rfl ⟨rfl, blw_⟩
theorem rover_n (x y : Int) (hx : I64 x) (hy : I64 y) (h : y < 0) (w : World) :
  Calls Try.prog 129 #[.agg #[.int .i64 (wH (x)), .int .u64 (wL (x))], .agg #[.int .i64 (wH (y)), .int .u64 (wL (y))]] w fun e w' => e = .returned (.tuple #[.agg #[.int .i64 (wH (-x * 4294967296 / -y)), .int .u64 (wL (-x * 4294967296 / -y))], .agg #[.int .i64 (wH (cdiv (-x * 4294967296) (-y))), .int .u64 (wL (cdiv (-x * 4294967296) (-y)))]]) ∧ Below w.heap.size w w' := by
 have hs := wH_neg h
 obtain ⟨_, _⟩ := hx
 obtain ⟨_, _⟩ := hy
 go_enter Try.func129, Try.ntmps129
 go_wp2_with fail
 refine (rminus x (by constructor <;> omega) _).mono ?_
 rintro e w1 ⟨rfl, hb1⟩
 obtain ⟨hc1, hf1⟩ := bcell hb1
 have hz1 := hb1.size
 try simp only [World.size_alloc, World.size_setCell] at hz1
 try refine zw4 w w1 (by omega) fun _ _ _ _ _ _ _ _ => ?_
 have c1_0_0 := zci w1 w.heap.size 0 (wH (x)) (by go_simp)
 have g1_0_0 := zfe w1 w.heap.size 0 (by go_simp)
 have c1_0_1 := zcu w1 w.heap.size 1 (wL (x)) (by go_simp)
 have g1_0_1 := zfe w1 w.heap.size 1 (by go_simp)
 have c1_1_0 := zci w1 (w.heap.size + 1) 0 (wH (y)) (by go_simp)
 have g1_1_0 := zfe w1 (w.heap.size + 1) 0 (by go_simp)
 have c1_1_1 := zcu w1 (w.heap.size + 1) 1 (wL (y)) (by go_simp)
 have g1_1_1 := zfe w1 (w.heap.size + 1) 1 (by go_simp)
 have c1_2_0 := zci w1 (w.heap.size + 1 + 1) 0 0 (by go_simp)
 have g1_2_0 := zfe w1 (w.heap.size + 1 + 1) 0 (by go_simp)
 have c1_2_1 := zcu w1 (w.heap.size + 1 + 1) 1 0 (by go_simp)
 have g1_2_1 := zfe w1 (w.heap.size + 1 + 1) 1 (by go_simp)
 have c1_3_0 := zci w1 (w.heap.size + 1 + 1 + 1) 0 0 (by go_simp)
 have g1_3_0 := zfe w1 (w.heap.size + 1 + 1 + 1) 0 (by go_simp)
 have c1_3_1 := zcu w1 (w.heap.size + 1 + 1 + 1) 1 0 (by go_simp)
 have g1_3_1 := zfe w1 (w.heap.size + 1 + 1 + 1) 1 (by go_simp)
 clear hc1 hf1
 go_wp2_with fail
 refine (rminus y (by constructor <;> omega) _).mono ?_
 rintro e w2 ⟨rfl, hb2⟩
 obtain ⟨hc2, hf2⟩ := bcell hb2
 have hz2 := hb2.size
 try simp only [World.size_alloc, World.size_setCell] at hz2
 try refine zw4 w w2 (by omega) fun _ _ _ _ _ _ _ _ => ?_
 have c2_0_0 := zci w2 w.heap.size 0 (wH (-x)) (by go_simp)
 have g2_0_0 := zfe w2 w.heap.size 0 (by go_simp)
 have c2_0_1 := zcu w2 w.heap.size 1 (wL (-x)) (by go_simp)
 have g2_0_1 := zfe w2 w.heap.size 1 (by go_simp)
 have c2_1_0 := zci w2 (w.heap.size + 1) 0 (wH (y)) (by go_simp)
 have g2_1_0 := zfe w2 (w.heap.size + 1) 0 (by go_simp)
 have c2_1_1 := zcu w2 (w.heap.size + 1) 1 (wL (y)) (by go_simp)
 have g2_1_1 := zfe w2 (w.heap.size + 1) 1 (by go_simp)
 have c2_2_0 := zci w2 (w.heap.size + 1 + 1) 0 0 (by go_simp)
 have g2_2_0 := zfe w2 (w.heap.size + 1 + 1) 0 (by go_simp)
 have c2_2_1 := zcu w2 (w.heap.size + 1 + 1) 1 0 (by go_simp)
 have g2_2_1 := zfe w2 (w.heap.size + 1 + 1) 1 (by go_simp)
 have c2_3_0 := zci w2 (w.heap.size + 1 + 1 + 1) 0 0 (by go_simp)
 have g2_3_0 := zfe w2 (w.heap.size + 1 + 1 + 1) 0 (by go_simp)
 have c2_3_1 := zcu w2 (w.heap.size + 1 + 1 + 1) 1 0 (by go_simp)
 have g2_3_1 := zfe w2 (w.heap.size + 1 + 1 + 1) 1 (by go_simp)
 clear hc2 hf2 c1_0_0 g1_0_0 c1_0_1 g1_0_1 c1_1_0 g1_1_0 c1_1_1 g1_1_1 c1_2_0 g1_2_0 c1_2_1 g1_2_1 c1_3_0 g1_3_0 c1_3_1 g1_3_1
 go_wp2_with fail
 refine QT.tail_b 6 (by kernel_rfl) (by kernel_rfl) ?_
 simp only [List.take_succ_cons, List.take_zero, List.drop_succ_cons, List.drop_zero]
 repeat (first
  | go_big_quiet_skip
  | (go_big_quiet_want; go_big_quiet_op; first
   | go_big_quiet_on
   | (apply Exists.intro
      refine ⟨fun _ => ?_, ?_⟩
      ·first
       | rfl
       | (intro hC; obtain ⟨hcq, hfq⟩ := bcellB hC; go_simp; done)
       | (intro hC; obtain ⟨hcq, hfq⟩ := bcellB hC; go_simp; rfl)
       | (intro hC; have hcq := bcellG hC; go_simp; done)
       | (intro hC; have hcq := bcellG hC; go_simp; rfl)
       | (intro hC; go_at_call 110; (first | (with_reducible refine (rup32 (-x) (by constructor <;> omega) _).mono ?_)); (intro e w2 hw; exact ⟨hw.1, qtrans (by simp) hC hw.2⟩))
       | (intro hC; go_at_call 117; (first | (with_reducible refine (rquot (-x * 4294967296) (-y) (by constructor <;> omega) (by omega) (by omega) _).mono ?_)); (intro e w2 hw; exact ⟨hw.1, qtrans (by simp) hC hw.2⟩))
      go_big_quiet_on)))
 refine wpQuiet_nil ?_
 intro w9 hC9
 obtain ⟨hc9, hf9⟩ := bcellB hC9
 have hz9 := hC9.size
 go_wp2
 refine bodyPost_ret (v := .tuple #[.agg #[.int .i64 (wH (-x * 4294967296 / -y)), .int .u64 (wL (-x * 4294967296 / -y))], .agg #[.int .i64 (wH (cdiv (-x * 4294967296) (-y))), .int .u64 (wL (cdiv (-x * 4294967296) (-y)))]]) (by simp only [results, Try.results129]; go_simp) rfl ⟨rfl, blw_⟩
end
section

end
section

end
end Go.Proofs.Ytacpahebbnnckaa
