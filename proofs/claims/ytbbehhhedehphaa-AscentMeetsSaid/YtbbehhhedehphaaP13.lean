/- Packed: MtK. -/
import Derived.Test.YtbbehhhedehphaaP12
set_option linter.unusedVariables false
set_option linter.unusedSimpArgs false
namespace Go.Proofs.Ytbbehhhedehphaa
section
set_option maxRecDepth 1000000
open Go.RowKit
open SX
theorem srch_some {P : Nat → Bool} {j : Nat} (hj : P j = true) : ∀ (k i : Nat), i ≤ j → j < i + k → (∀ m, i ≤ m → m < j → P m = false) → srch P k i = some j := by
 intro k
 induction k with
 | zero => intro i h1 h2; omega
 | succ k ih =>
  intro i h1 h2 h3
  unfold srch
  by_cases e : i = j
  ·subst e; rw [if_pos hj]
  ·rw [h3 i (Nat.le_refl _) (by omega), if_neg (by simp)]
   exact ih (i + 1) (by omega) (by omega) fun m a b => h3 m (by omega) b
theorem srch_none {P : Nat → Bool} : ∀ (k i : Nat), (∀ m, i ≤ m → m < i + k → P m = false) → srch P k i = none := by
 intro k
 induction k with
 | zero => intro i h; rfl
 | succ k ih =>
  intro i h
  unfold srch
  rw [h i (Nat.le_refl _) (by omega), if_neg (by simp)]
  exact ih (i + 1) fun m a b => h m (by omega) (by omega)
theorem next_same {p la q lb : Nat} {fa fb : Int} (hw : Win p la fa) (hv : Win q lb fb) {T : Int} (ht : tB T = true) :
  tnV T (srch (fun i => Meet.hs p la fa (T + i) && Meet.hs q lb fb (T + i)) (Meet.lc p q) 0) = nxV p la fa q lb fb T := by
 unfold nxV
 rw [if_neg (by rw [ht]; simp)]
 obtain ⟨hg, hL, hpL, hqL, hL0⟩ := Meet.lc_facts hw.p0 hv.p0
 have mi := Meet.meets_iff hw.p0 hv.p0 la lb fa fb T
 by_cases hN : both p la fa q lb fb = 0
 ·rw [if_pos hN, srch_none]
  ·rfl
  ·intro m _ _
   cases e : (Meet.hs p la fa (T + m) && Meet.hs q lb fb (T + m)) with
   | false => rfl
   | true =>
    rw [Bool.and_eq_true] at e
    have := mi.1 ⟨T + m, by omega, e.1, e.2⟩
    exact absurd hN (Nat.ne_of_gt this)
 ·rw [if_neg hN]
  obtain ⟨l0, k0⟩ := both_pos hw.p0 hv.p0 hN
  have ex := mi.2 (Nat.pos_of_ne_zero hN)
  obtain ⟨n1, n2, n3, n4⟩ := Meet.next_first hw.p0 hv.p0 l0 hw.l1 k0 hv.l1 fa fb T ex
  obtain ⟨s, s1, s2, s3⟩ := ex
  have a0 := Int.emod_nonneg (s - T) (show ((Meet.lc p q : Nat) : Int) ≠ 0 by omega)
  have a1 := Int.emod_lt_of_pos (s - T) (show (0 : Int) < (Meet.lc p q : Nat) by omega)
  have es : (T + (s - T) % (Meet.lc p q : Nat)) % (Meet.lc p q : Nat) = s % (Meet.lc p q : Nat) := by
   rw [Int.add_emod_emod]; congr 1; omega
  have le := n4 (T + (s - T) % (Meet.lc p q : Nat)) (by omega) (by rw [← Meet.hs_mod hpL, es, Meet.hs_mod hpL]; exact s2) (by rw [← Meet.hs_mod hqL, es, Meet.hs_mod hqL]; exact s3)
  obtain ⟨x, hx⟩ : ∃ x, Meet.next p la fa q lb fb T = x := ⟨_, rfl⟩
  rw [hx] at n1 n2 n3 n4 le ⊢
  obtain ⟨j, hj⟩ : ∃ j : Nat, x = T + j := ⟨(x - T).toNat, by omega⟩
  subst hj
  rw [srch_some (j := j) (by simp only [n2, n3, Bool.and_self]) _ 0 (Nat.zero_le _) (by omega) fun m _ hm => ?_]
  ·rfl
  ·cases e : (Meet.hs p la fa (T + m) && Meet.hs q lb fb (T + m)) with
   | false => rfl
   | true =>
    rw [Bool.and_eq_true] at e
    have := n4 (T + m) (by omega) e.1 e.2
    omega
theorem often_bad (p fa la q fb lb : Int) (h : (wB p fa la && wB q fb lb) = false) (w : World) : Calls Try.prog 5 #[wvI p fa la, wvI q fb lb] w fun e w' => e = .returned (.tuple #[.int .i64 0, .int .i64 2]) ∧ Below w.heap.size w w' := by
 have W1 := hide (isWindow_any p fa la)
 have W2 := hide (isWindow_any q fb lb)
 generalize wB p fa la = x at *
 generalize wB q fb lb = y at *
 simp only [wvI] at *
 cases x
 ·clear h
  cases y
  ·go_enter Try.func5, Try.ntmps5
   go_wp2_with fail
   refine (W1.out _).mono ?_
   rintro e w1 ⟨rfl, hb1⟩
   obtain ⟨hc1, hf1⟩ := bcell hb1
   have hz1 := hb1.size
   try simp only [World.size_alloc, World.size_setCell] at hz1
   try refine zw2 w w1 (by omega) fun _ _ _ _ => ?_
   go_wp2
   refine bodyPost_ret (v := .tuple #[.int .i64 0, .int .i64 2]) (by simp only [results, Try.results5]; go_simp) rfl ⟨rfl, blw_⟩
  ·go_enter Try.func5, Try.ntmps5
   go_wp2_with fail
   refine (W1.out _).mono ?_
   rintro e w1 ⟨rfl, hb1⟩
   obtain ⟨hc1, hf1⟩ := bcell hb1
   have hz1 := hb1.size
   try simp only [World.size_alloc, World.size_setCell] at hz1
   try refine zw2 w w1 (by omega) fun _ _ _ _ => ?_
   go_wp2
   refine bodyPost_ret (v := .tuple #[.int .i64 0, .int .i64 2]) (by simp only [results, Try.results5]; go_simp) rfl ⟨rfl, blw_⟩
 ·cases y
  ·clear h
   go_enter Try.func5, Try.ntmps5
   go_wp2_with fail
   refine (W1.out _).mono ?_
   rintro e w1 ⟨rfl, hb1⟩
   obtain ⟨hc1, hf1⟩ := bcell hb1
   have hz1 := hb1.size
   try simp only [World.size_alloc, World.size_setCell] at hz1
   try refine zw2 w w1 (by omega) fun _ _ _ _ => ?_
   go_wp2_with fail
   refine (W2.out _).mono ?_
   rintro e w2 ⟨rfl, hb2⟩
   obtain ⟨hc2, hf2⟩ := bcell hb2
   have hz2 := hb2.size
   try simp only [World.size_alloc, World.size_setCell] at hz2
   try refine zw2 w w2 (by omega) fun _ _ _ _ => ?_
   try have : w1.heap.size < w2.heap.size := by omega
   try have : w1.heap.size ≤ w2.heap.size := by omega
   go_wp2
   refine bodyPost_ret (v := .tuple #[.int .i64 0, .int .i64 2]) (by simp only [results, Try.results5]; go_simp) rfl ⟨rfl, blw_⟩
  ·cases h
theorem toften_bad (p fa la q fb lb : Int) (h : (wB p fa la && wB q fb lb) = false) (w : World) : Calls Try.prog 6 #[wvI p fa la, wvI q fb lb] w fun e w' => e = .returned (.tuple #[.int .i64 0, .int .i64 2]) ∧ Below w.heap.size w w' := by
 have W1 := hide (window_any p fa la)
 have W2 := hide (window_any q fb lb)
 generalize wB p fa la = x at *
 generalize wB q fb lb = y at *
 simp only [wvI] at *
 cases x
 ·clear h
  cases y
  ·go_enter Try.func6, Try.ntmps6
   go_wp2_with fail
   refine (W1.out _).mono ?_
   rintro e w1 ⟨rfl, hb1⟩
   obtain ⟨hc1, hf1⟩ := bcell hb1
   have hz1 := hb1.size
   try simp only [World.size_alloc, World.size_setCell] at hz1
   try refine zw2 w w1 (by omega) fun _ _ _ _ => ?_
   go_wp2_with fail
   refine (W2.out _).mono ?_
   rintro e w2 ⟨rfl, hb2⟩
   obtain ⟨hc2, hf2⟩ := bcell hb2
   have hz2 := hb2.size
   try simp only [World.size_alloc, World.size_setCell] at hz2
   try refine zw2 w w2 (by omega) fun _ _ _ _ => ?_
   try have : w1.heap.size < w2.heap.size := by omega
   try have : w1.heap.size ≤ w2.heap.size := by omega
   go_wp2
   refine bodyPost_ret (v := .tuple #[.int .i64 0, .int .i64 2]) (by simp only [results, Try.results6]; go_simp) rfl ⟨rfl, blw_⟩
  ·go_enter Try.func6, Try.ntmps6
   go_wp2_with fail
   refine (W1.out _).mono ?_
   rintro e w1 ⟨rfl, hb1⟩
   obtain ⟨hc1, hf1⟩ := bcell hb1
   have hz1 := hb1.size
   try simp only [World.size_alloc, World.size_setCell] at hz1
   try refine zw2 w w1 (by omega) fun _ _ _ _ => ?_
   go_wp2_with fail
   refine (W2.out _).mono ?_
   rintro e w2 ⟨rfl, hb2⟩
   obtain ⟨hc2, hf2⟩ := bcell hb2
   have hz2 := hb2.size
   try simp only [World.size_alloc, World.size_setCell] at hz2
   try refine zw2 w w2 (by omega) fun _ _ _ _ => ?_
   try have : w1.heap.size < w2.heap.size := by omega
   try have : w1.heap.size ≤ w2.heap.size := by omega
   go_wp2
   refine bodyPost_ret (v := .tuple #[.int .i64 0, .int .i64 2]) (by simp only [results, Try.results6]; go_simp) rfl ⟨rfl, blw_⟩
 ·cases y
  ·clear h
   go_enter Try.func6, Try.ntmps6
   go_wp2_with fail
   refine (W1.out _).mono ?_
   rintro e w1 ⟨rfl, hb1⟩
   obtain ⟨hc1, hf1⟩ := bcell hb1
   have hz1 := hb1.size
   try simp only [World.size_alloc, World.size_setCell] at hz1
   try refine zw2 w w1 (by omega) fun _ _ _ _ => ?_
   go_wp2_with fail
   refine (W2.out _).mono ?_
   rintro e w2 ⟨rfl, hb2⟩
   obtain ⟨hc2, hf2⟩ := bcell hb2
   have hz2 := hb2.size
   try simp only [World.size_alloc, World.size_setCell] at hz2
   try refine zw2 w w2 (by omega) fun _ _ _ _ => ?_
   try have : w1.heap.size < w2.heap.size := by omega
   try have : w1.heap.size ≤ w2.heap.size := by omega
   go_wp2
   refine bodyPost_ret (v := .tuple #[.int .i64 0, .int .i64 2]) (by simp only [results, Try.results6]; go_simp) rfl ⟨rfl, blw_⟩
  ·cases h
theorem brief_bad (p fa la q fb lb : Int) (h : (wB p fa la && wB q fb lb) = false) (w : World) : Calls Try.prog 4 #[wvI p fa la, wvI q fb lb] w fun e w' => e = .returned (.bool true) ∧ Below w.heap.size w w' := by
 have W1 := hide (window_any p fa la)
 have W2 := hide (window_any q fb lb)
 generalize wB p fa la = x at *
 generalize wB q fb lb = y at *
 simp only [wvI] at *
 cases x
 ·clear h
  cases y
  ·go_enter Try.func4, Try.ntmps4
   go_wp2_with fail
   refine (W1.out _).mono ?_
   rintro e w1 ⟨rfl, hb1⟩
   obtain ⟨hc1, hf1⟩ := bcell hb1
   have hz1 := hb1.size
   try simp only [World.size_alloc, World.size_setCell] at hz1
   try refine zw2 w w1 (by omega) fun _ _ _ _ => ?_
   go_wp2_with fail
   refine (W2.out _).mono ?_
   rintro e w2 ⟨rfl, hb2⟩
   obtain ⟨hc2, hf2⟩ := bcell hb2
   have hz2 := hb2.size
   try simp only [World.size_alloc, World.size_setCell] at hz2
   try refine zw2 w w2 (by omega) fun _ _ _ _ => ?_
   try have : w1.heap.size < w2.heap.size := by omega
   try have : w1.heap.size ≤ w2.heap.size := by omega
   go_wp2
   go_ret
   exact ⟨rfl, blw_⟩
  ·go_enter Try.func4, Try.ntmps4
   go_wp2_with fail
   refine (W1.out _).mono ?_
   rintro e w1 ⟨rfl, hb1⟩
   obtain ⟨hc1, hf1⟩ := bcell hb1
   have hz1 := hb1.size
   try simp only [World.size_alloc, World.size_setCell] at hz1
   try refine zw2 w w1 (by omega) fun _ _ _ _ => ?_
   go_wp2_with fail
   refine (W2.out _).mono ?_
   rintro e w2 ⟨rfl, hb2⟩
   obtain ⟨hc2, hf2⟩ := bcell hb2
   have hz2 := hb2.size
   try simp only [World.size_alloc, World.size_setCell] at hz2
   try refine zw2 w w2 (by omega) fun _ _ _ _ => ?_
   try have : w1.heap.size < w2.heap.size := by omega
   try have : w1.heap.size ≤ w2.heap.size := by omega
   go_wp2
   go_ret
   exact ⟨rfl, blw_⟩
 ·cases y
  ·clear h
   go_enter Try.func4, Try.ntmps4
   go_wp2_with fail
   refine (W1.out _).mono ?_
   rintro e w1 ⟨rfl, hb1⟩
   obtain ⟨hc1, hf1⟩ := bcell hb1
   have hz1 := hb1.size
   try simp only [World.size_alloc, World.size_setCell] at hz1
   try refine zw2 w w1 (by omega) fun _ _ _ _ => ?_
   go_wp2_with fail
   refine (W2.out _).mono ?_
   rintro e w2 ⟨rfl, hb2⟩
   obtain ⟨hc2, hf2⟩ := bcell hb2
   have hz2 := hb2.size
   try simp only [World.size_alloc, World.size_setCell] at hz2
   try refine zw2 w w2 (by omega) fun _ _ _ _ => ?_
   try have : w1.heap.size < w2.heap.size := by omega
   try have : w1.heap.size ≤ w2.heap.size := by omega
   go_wp2
   go_ret
   exact ⟨rfl, blw_⟩
  ·cases h
theorem next_bad (p fa la q fb lb : Int) (h : (wB p fa la && wB q fb lb) = false) (T : Int) (w : World) : Calls Try.prog 7 #[wvI p fa la, wvI q fb lb, .int .i64 T] w fun e w' => e = .returned (.tuple #[.int .i64 0, .int .i64 2]) ∧ Below w.heap.size w w' := by
 have O := hide (often_bad p fa la q fb lb h)
 simp only [wvI] at *
 clear h
 go_enter Try.func7, Try.ntmps7
 go_wp2_with fail
 refine (O.out _).mono ?_
 rintro e w1 ⟨rfl, hb1⟩
 obtain ⟨hc1, hf1⟩ := bcell hb1
 have hz1 := hb1.size
 try simp only [World.size_alloc, World.size_setCell] at hz1
 try refine zw2 w w1 (by omega) fun _ _ _ _ => ?_
 go_wp2
 refine bodyPost_ret (v := .tuple #[.int .i64 0, .int .i64 2]) (by simp only [results, Try.results7]; go_simp) rfl ⟨rfl, blw_⟩
theorem tnext_bad (p fa la q fb lb : Int) (T : Int) (h : (wB p fa la && wB q fb lb && tB T) = false) (w : World) : Calls Try.prog 8 #[wvI p fa la, wvI q fb lb, .int .i64 T] w fun e w' => e = .returned (.tuple #[.int .i64 0, .int .i64 2]) ∧ Below w.heap.size w w' := by
 have W1 := hide (window_any p fa la)
 have W2 := hide (window_any q fb lb)
 have W3 := hide (time_any T)
 generalize wB p fa la = x at *
 generalize wB q fb lb = y at *
 generalize tB T = z at *
 simp only [wvI] at *
 cases x <;> cases y <;> cases z
 case false.false.false =>
  clear h
  go_enter Try.func8, Try.ntmps8
  go_wp2_with fail
  refine (W1.out _).mono ?_
  rintro e w1 ⟨rfl, hb1⟩
  obtain ⟨hc1, hf1⟩ := bcell hb1
  have hz1 := hb1.size
  try simp only [World.size_alloc, World.size_setCell] at hz1
  try refine zw2 w w1 (by omega) fun _ _ _ _ => ?_
  go_wp2_with fail
  refine (W2.out _).mono ?_
  rintro e w2 ⟨rfl, hb2⟩
  obtain ⟨hc2, hf2⟩ := bcell hb2
  have hz2 := hb2.size
  try simp only [World.size_alloc, World.size_setCell] at hz2
  try refine zw2 w w2 (by omega) fun _ _ _ _ => ?_
  try have : w1.heap.size < w2.heap.size := by omega
  try have : w1.heap.size ≤ w2.heap.size := by omega
  go_wp2_with fail
  refine (W3.out _).mono ?_
  rintro e w3 ⟨rfl, hb3⟩
  obtain ⟨hc3, hf3⟩ := bcell hb3
  have hz3 := hb3.size
  try simp only [World.size_alloc, World.size_setCell] at hz3
  try refine zw2 w w3 (by omega) fun _ _ _ _ => ?_
  try have : w1.heap.size < w3.heap.size := by omega
  try have : w1.heap.size ≤ w3.heap.size := by omega
  try have : w2.heap.size < w3.heap.size := by omega
  try have : w2.heap.size ≤ w3.heap.size := by omega
  go_wp2
  refine bodyPost_ret (v := .tuple #[.int .i64 0, .int .i64 2]) (by simp only [results, Try.results8]; go_simp) rfl ⟨rfl, blw_⟩
 case false.false.true =>
  clear h
  go_enter Try.func8, Try.ntmps8
  go_wp2_with fail
  refine (W1.out _).mono ?_
  rintro e w1 ⟨rfl, hb1⟩
  obtain ⟨hc1, hf1⟩ := bcell hb1
  have hz1 := hb1.size
  try simp only [World.size_alloc, World.size_setCell] at hz1
  try refine zw2 w w1 (by omega) fun _ _ _ _ => ?_
  go_wp2_with fail
  refine (W2.out _).mono ?_
  rintro e w2 ⟨rfl, hb2⟩
  obtain ⟨hc2, hf2⟩ := bcell hb2
  have hz2 := hb2.size
  try simp only [World.size_alloc, World.size_setCell] at hz2
  try refine zw2 w w2 (by omega) fun _ _ _ _ => ?_
  try have : w1.heap.size < w2.heap.size := by omega
  try have : w1.heap.size ≤ w2.heap.size := by omega
  go_wp2_with fail
  refine (W3.out _).mono ?_
  rintro e w3 ⟨rfl, hb3⟩
  obtain ⟨hc3, hf3⟩ := bcell hb3
  have hz3 := hb3.size
  try simp only [World.size_alloc, World.size_setCell] at hz3
  try refine zw2 w w3 (by omega) fun _ _ _ _ => ?_
  try have : w1.heap.size < w3.heap.size := by omega
  try have : w1.heap.size ≤ w3.heap.size := by omega
  try have : w2.heap.size < w3.heap.size := by omega
  try have : w2.heap.size ≤ w3.heap.size := by omega
  go_wp2
  refine bodyPost_ret (v := .tuple #[.int .i64 0, .int .i64 2]) (by simp only [results, Try.results8]; go_simp) rfl ⟨rfl, blw_⟩
 case false.true.false =>
  clear h
  go_enter Try.func8, Try.ntmps8
  go_wp2_with fail
  refine (W1.out _).mono ?_
  rintro e w1 ⟨rfl, hb1⟩
  obtain ⟨hc1, hf1⟩ := bcell hb1
  have hz1 := hb1.size
  try simp only [World.size_alloc, World.size_setCell] at hz1
  try refine zw2 w w1 (by omega) fun _ _ _ _ => ?_
  go_wp2_with fail
  refine (W2.out _).mono ?_
  rintro e w2 ⟨rfl, hb2⟩
  obtain ⟨hc2, hf2⟩ := bcell hb2
  have hz2 := hb2.size
  try simp only [World.size_alloc, World.size_setCell] at hz2
  try refine zw2 w w2 (by omega) fun _ _ _ _ => ?_
  try have : w1.heap.size < w2.heap.size := by omega
  try have : w1.heap.size ≤ w2.heap.size := by omega
  go_wp2_with fail
  refine (W3.out _).mono ?_
  rintro e w3 ⟨rfl, hb3⟩
  obtain ⟨hc3, hf3⟩ := bcell hb3
  have hz3 := hb3.size
  try simp only [World.size_alloc, World.size_setCell] at hz3
  try refine zw2 w w3 (by omega) fun _ _ _ _ => ?_
  try have : w1.heap.size < w3.heap.size := by omega
  try have : w1.heap.size ≤ w3.heap.size := by omega
  try have : w2.heap.size < w3.heap.size := by omega
  try have : w2.heap.size ≤ w3.heap.size := by omega
  go_wp2
  refine bodyPost_ret (v := .tuple #[.int .i64 0, .int .i64 2]) (by simp only [results, Try.results8]; go_simp) rfl ⟨rfl, blw_⟩
 case false.true.true =>
  clear h
  go_enter Try.func8, Try.ntmps8
  go_wp2_with fail
  refine (W1.out _).mono ?_
  rintro e w1 ⟨rfl, hb1⟩
  obtain ⟨hc1, hf1⟩ := bcell hb1
  have hz1 := hb1.size
  try simp only [World.size_alloc, World.size_setCell] at hz1
  try refine zw2 w w1 (by omega) fun _ _ _ _ => ?_
  go_wp2_with fail
  refine (W2.out _).mono ?_
  rintro e w2 ⟨rfl, hb2⟩
  obtain ⟨hc2, hf2⟩ := bcell hb2
  have hz2 := hb2.size
  try simp only [World.size_alloc, World.size_setCell] at hz2
  try refine zw2 w w2 (by omega) fun _ _ _ _ => ?_
  try have : w1.heap.size < w2.heap.size := by omega
  try have : w1.heap.size ≤ w2.heap.size := by omega
  go_wp2_with fail
  refine (W3.out _).mono ?_
  rintro e w3 ⟨rfl, hb3⟩
  obtain ⟨hc3, hf3⟩ := bcell hb3
  have hz3 := hb3.size
  try simp only [World.size_alloc, World.size_setCell] at hz3
  try refine zw2 w w3 (by omega) fun _ _ _ _ => ?_
  try have : w1.heap.size < w3.heap.size := by omega
  try have : w1.heap.size ≤ w3.heap.size := by omega
  try have : w2.heap.size < w3.heap.size := by omega
  try have : w2.heap.size ≤ w3.heap.size := by omega
  go_wp2
  refine bodyPost_ret (v := .tuple #[.int .i64 0, .int .i64 2]) (by simp only [results, Try.results8]; go_simp) rfl ⟨rfl, blw_⟩
 case true.false.false =>
  clear h
  go_enter Try.func8, Try.ntmps8
  go_wp2_with fail
  refine (W1.out _).mono ?_
  rintro e w1 ⟨rfl, hb1⟩
  obtain ⟨hc1, hf1⟩ := bcell hb1
  have hz1 := hb1.size
  try simp only [World.size_alloc, World.size_setCell] at hz1
  try refine zw2 w w1 (by omega) fun _ _ _ _ => ?_
  go_wp2_with fail
  refine (W2.out _).mono ?_
  rintro e w2 ⟨rfl, hb2⟩
  obtain ⟨hc2, hf2⟩ := bcell hb2
  have hz2 := hb2.size
  try simp only [World.size_alloc, World.size_setCell] at hz2
  try refine zw2 w w2 (by omega) fun _ _ _ _ => ?_
  try have : w1.heap.size < w2.heap.size := by omega
  try have : w1.heap.size ≤ w2.heap.size := by omega
  go_wp2_with fail
  refine (W3.out _).mono ?_
  rintro e w3 ⟨rfl, hb3⟩
  obtain ⟨hc3, hf3⟩ := bcell hb3
  have hz3 := hb3.size
  try simp only [World.size_alloc, World.size_setCell] at hz3
  try refine zw2 w w3 (by omega) fun _ _ _ _ => ?_
  try have : w1.heap.size < w3.heap.size := by omega
  try have : w1.heap.size ≤ w3.heap.size := by omega
  try have : w2.heap.size < w3.heap.size := by omega
  try have : w2.heap.size ≤ w3.heap.size := by omega
  go_wp2
  refine bodyPost_ret (v := .tuple #[.int .i64 0, .int .i64 2]) (by simp only [results, Try.results8]; go_simp) rfl ⟨rfl, blw_⟩
 case true.false.true =>
  clear h
  go_enter Try.func8, Try.ntmps8
  go_wp2_with fail
  refine (W1.out _).mono ?_
  rintro e w1 ⟨rfl, hb1⟩
  obtain ⟨hc1, hf1⟩ := bcell hb1
  have hz1 := hb1.size
  try simp only [World.size_alloc, World.size_setCell] at hz1
  try refine zw2 w w1 (by omega) fun _ _ _ _ => ?_
  go_wp2_with fail
  refine (W2.out _).mono ?_
  rintro e w2 ⟨rfl, hb2⟩
  obtain ⟨hc2, hf2⟩ := bcell hb2
  have hz2 := hb2.size
  try simp only [World.size_alloc, World.size_setCell] at hz2
  try refine zw2 w w2 (by omega) fun _ _ _ _ => ?_
  try have : w1.heap.size < w2.heap.size := by omega
  try have : w1.heap.size ≤ w2.heap.size := by omega
  go_wp2_with fail
  refine (W3.out _).mono ?_
  rintro e w3 ⟨rfl, hb3⟩
  obtain ⟨hc3, hf3⟩ := bcell hb3
  have hz3 := hb3.size
  try simp only [World.size_alloc, World.size_setCell] at hz3
  try refine zw2 w w3 (by omega) fun _ _ _ _ => ?_
  try have : w1.heap.size < w3.heap.size := by omega
  try have : w1.heap.size ≤ w3.heap.size := by omega
  try have : w2.heap.size < w3.heap.size := by omega
  try have : w2.heap.size ≤ w3.heap.size := by omega
  go_wp2
  refine bodyPost_ret (v := .tuple #[.int .i64 0, .int .i64 2]) (by simp only [results, Try.results8]; go_simp) rfl ⟨rfl, blw_⟩
 case true.true.false =>
  clear h
  go_enter Try.func8, Try.ntmps8
  go_wp2_with fail
  refine (W1.out _).mono ?_
  rintro e w1 ⟨rfl, hb1⟩
  obtain ⟨hc1, hf1⟩ := bcell hb1
  have hz1 := hb1.size
  try simp only [World.size_alloc, World.size_setCell] at hz1
  try refine zw2 w w1 (by omega) fun _ _ _ _ => ?_
  go_wp2_with fail
  refine (W2.out _).mono ?_
  rintro e w2 ⟨rfl, hb2⟩
  obtain ⟨hc2, hf2⟩ := bcell hb2
  have hz2 := hb2.size
  try simp only [World.size_alloc, World.size_setCell] at hz2
  try refine zw2 w w2 (by omega) fun _ _ _ _ => ?_
  try have : w1.heap.size < w2.heap.size := by omega
  try have : w1.heap.size ≤ w2.heap.size := by omega
  go_wp2_with fail
  refine (W3.out _).mono ?_
  rintro e w3 ⟨rfl, hb3⟩
  obtain ⟨hc3, hf3⟩ := bcell hb3
  have hz3 := hb3.size
  try simp only [World.size_alloc, World.size_setCell] at hz3
  try refine zw2 w w3 (by omega) fun _ _ _ _ => ?_
  try have : w1.heap.size < w3.heap.size := by omega
  try have : w1.heap.size ≤ w3.heap.size := by omega
  try have : w2.heap.size < w3.heap.size := by omega
  try have : w2.heap.size ≤ w3.heap.size := by omega
  go_wp2
  refine bodyPost_ret (v := .tuple #[.int .i64 0, .int .i64 2]) (by simp only [results, Try.results8]; go_simp) rfl ⟨rfl, blw_⟩
 case true.true.true => cases h
end
end Go.Proofs.Ytbbehhhedehphaa
