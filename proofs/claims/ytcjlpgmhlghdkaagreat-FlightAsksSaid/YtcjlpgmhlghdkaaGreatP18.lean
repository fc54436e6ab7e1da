/- Packed: LineM RLine Places. -/
import Derived.Test.YtcjlpgmhlghdkaaGreatP9
import Derived.Test.YtcjlpgmhlghdkaaGreatP14
import Derived.Test.YtcjlpgmhlghdkaaGreatP17
set_option linter.unusedVariables false
set_option linter.unusedSimpArgs false
namespace Go.Proofs.YtcjlpgmhlghdkaaGreat
section
open Go.RowKit
def tabB (n : Nat) (at_ lo hi : Nat → Int) : Bool := decide (0 < n) && decide (n ≤ 64) && (List.range n).all (ptB at_ lo hi)
theorem tab_pt {n : Nat} {at_ lo hi : Nat → Int} (h : tabB n at_ lo hi = true) : 0 < n ∧ n ≤ 64 ∧ ∀ i, i < n → ptB at_ lo hi i = true := by
 simp only [tabB, Bool.and_eq_true, decide_eq_true_eq, List.all_eq_true, List.mem_range] at h
 exact ⟨h.1.1, h.1.2, h.2⟩
theorem small_bd {x : Int} (h : smallB x = true) : -2305843009213693952 ≤ x ∧ x ≤ 2305843009213693952 := of_decide_eq_true h
theorem pt_bd {at_ lo hi : Nat → Int} {i : Nat} (h : ptB at_ lo hi i = true) : smallB (at_ i) = true ∧ smallB (lo i) = true ∧ smallB (hi i) = true ∧ lo i ≤ hi i ∧ (i = 0 ∨ at_ (i - 1) < at_ i) := by
 simp only [ptB, Bool.and_eq_true, Bool.or_eq_true, decide_eq_true_eq, beq_iff_eq] at h
 exact ⟨h.1.1, h.1.2.1.1, h.1.2.1.2, h.1.2.2, h.2⟩
structure Right (n : Nat) (at_ lo hi : Nat → Int) : Prop where
 pos : 0 < n
 few : n ≤ 64
 a : ∀ i, i < n → -2305843009213693952 ≤ at_ i ∧ at_ i ≤ 2305843009213693952
 l : ∀ i, i < n → -2305843009213693952 ≤ lo i ∧ lo i ≤ 2305843009213693952
 h : ∀ i, i < n → -2305843009213693952 ≤ hi i ∧ hi i ≤ 2305843009213693952
 lh : ∀ i, i < n → lo i ≤ hi i
 up : ∀ i, i + 1 < n → at_ i < at_ (i + 1)
theorem right_of {n : Nat} {at_ lo hi : Nat → Int} (h : tabB n at_ lo hi = true) : Right n at_ lo hi := by
 obtain ⟨h0, h1, h2⟩ := tab_pt h
 exact ⟨h0, h1, fun i hi' => small_bd (pt_bd (h2 i hi')).1, fun i hi' => small_bd (pt_bd (h2 i hi')).2.1, fun i hi' => small_bd (pt_bd (h2 i hi')).2.2.1, fun i hi' => (pt_bd (h2 i hi')).2.2.2.1, fun i hi' => by
  rcases (pt_bd (h2 (i + 1) hi')).2.2.2.2 with h | h
  ·omega
  ·rwa [Nat.add_sub_cancel] at h⟩
structure Next (at_ : Nat → Int) (n : Nat) (x : Int) (m : Nat) : Prop where
 le : m ≤ n
 before : ∀ i, i < m → at_ i < x
 stop : m = n ∨ ¬ at_ m < x
theorem next_ex (at_ : Nat → Int) (n : Nat) (x : Int) : ∃ m, Next at_ n x m := by
 induction n with
 | zero => exact ⟨0, Nat.le_refl _, fun i h => absurd h (by omega), .inl rfl⟩
 | succ n ih =>
  obtain ⟨m, h1, h2, h3⟩ := ih
  rcases h3 with rfl | h3
  ·by_cases c : at_ m < x
   ·refine ⟨m + 1, Nat.le_refl _, fun i hi => ?_, .inl rfl⟩
    rcases Nat.lt_or_ge i m with h | h
    ·exact h2 i h
    ·have : i = m := by omega
     rw [this]; exact c
   ·exact ⟨m, by omega, h2, .inr c⟩
  ·exact ⟨m, by omega, h2, .inr h3⟩
def lnL (v at_ : Nat → Int) (n m : Nat) (x : Int) : Int := if m = n then v (n - 1) else if m = 0 then v 0 else v (m - 1) + (v m - v (m - 1)) * (x - at_ (m - 1)) / (at_ m - at_ (m - 1))
def lnH (v at_ : Nat → Int) (n m : Nat) (x : Int) : Int := if m = n then v (n - 1) else if m = 0 then v 0 else v (m - 1) + cdiv ((v m - v (m - 1)) * (x - at_ (m - 1))) (at_ m - at_ (m - 1))
theorem way_bd {c a d : Int} (ha : 0 ≤ a) (had : a ≤ d) (hd : 0 < d) : (0 ≤ c → 0 ≤ c * a / d ∧ c * a / d ≤ c ∧ 0 ≤ cdiv (c * a) d ∧ cdiv (c * a) d ≤ c) ∧ (c ≤ 0 → c ≤ c * a / d ∧ c * a / d ≤ 0 ∧ c ≤ cdiv (c * a) d ∧ cdiv (c * a) d ≤ 0) := by
 have up {x y : Int} (h : x ≤ y * d) : x / d ≤ y := by
  have := Int.ediv_le_ediv hd h
  rwa [Int.mul_ediv_cancel _ (by omega)] at this
 have lo {x y : Int} (h : y * d ≤ x) : y ≤ x / d := Int.le_ediv_of_mul_le hd h
 constructor
 ·intro hc
  have h1 : 0 ≤ c * a := Int.mul_nonneg hc ha
  have h2 : c * a ≤ c * d := Int.mul_le_mul_of_nonneg_left had hc
  refine ⟨lo (by omega), up h2, ?_, ?_⟩
  ·have := up (x := -(c * a)) (y := 0) (by omega)
   unfold cdiv; omega
  ·have := lo (x := -(c * a)) (y := -c) (by rw [Int.neg_mul]; omega)
   unfold cdiv; omega
 ·intro hc
  have h1 : c * a ≤ 0 := Int.mul_nonpos_of_nonpos_of_nonneg hc ha
  have h2 : c * d ≤ c * a := Int.mul_le_mul_of_nonpos_left hc had
  refine ⟨lo h2, up (by omega), ?_, ?_⟩
  ·have := up (x := -(c * a)) (y := -c) (by rw [Int.neg_mul]; omega)
   unfold cdiv; omega
  ·have := lo (x := -(c * a)) (y := 0) (by omega)
   unfold cdiv; omega
theorem share_pos {x y d : Int} (hd : 0 < d) : sL x y d = x * y / d ∧ sH x y d = cdiv (x * y) d := by
 have e : sN x y d = x * y := by unfold sN; rw [if_neg (by omega)]
 have e2 : ab d = d := by unfold ab; rw [if_neg (by omega)]
 unfold sL sH
 rw [e, e2]
 exact ⟨rfl, rfl⟩
end
section
open Go.RowKit
theorem rbound (a l h : Int) (b : Bool) (w : World) : Calls Tryz.prog 129 #[.agg #[.int .i64 a, .int .i64 l, .int .i64 h], .bool b] w fun e w' => e = .returned (.int .i64 (if b then h else l)) ∧ Below w.heap.size w w' := by
 cases b
 all_goals
  go_enter Tryz.func129, Tryz.ntmps129
  go_wp2
  go_ret
  exact ⟨rfl, blw_⟩
set_option maxHeartbeats 8000000 in
set_option maxRecDepth 100000 in
theorem rline_any (b : Bool) (n m cap : Nat) (ad : Addr) (at_ lo hi V : Nat → Int) (hV : V = fun i => if b then hi i else lo i) (hR : Right n at_ lo hi) (x : Int) (ix : I64 x) (hN : Next at_ n x m) (w : World) (hT : Tab w ad n at_ lo hi) :
  Calls Tryz.prog 116 #[.slice (some ad) n cap, .bool b, .int .i64 x] w fun e w' => e = .returned (.tuple #[.agg #[.int .i64 (wH (lnL V at_ n m x)), .int .u64 (wL (lnL V at_ n m x))], .agg #[.int .i64 (wH (lnH V at_ n m x)), .int .u64 (wL (lnH V at_ n m x))]]) ∧ Below w.heap.size w w' := by
 have hVl : ∀ i, i < n → -2305843009213693952 ≤ V i ∧ V i ≤ 2305843009213693952 := fun i h => by
  rw [hV]; cases b
  ·exact hR.l i h
  ·exact hR.h i h
 have hVe : ∀ i, (if b then hi i else lo i) = V i := fun i => by rw [hV]
 have HT := hide hT
 have hblk := hT.blk
 have hba := block_add ad
 have hn1 := hR.pos
 have hn2 := hR.few
 have hmn := hN.le
 have BN := hide (fun i => hVe i ▸ rbound (at_ i) (lo i) (hi i) b)
 have HVL := hide hVl
 clear hV hT hVe hVl
 by_cases hm0 : m = 0
 ·subst hm0
  have hst : ¬ at_ 0 < x := by rcases hN.stop with h | h; omega; exact h
  have hx : decide (x ≤ at_ 0) = true := decide_eq_true (by omega)
  have hx2 : x ≤ at_ 0 := by omega
  have e1 : lnL V at_ n 0 x = V 0 := by unfold lnL; rw [if_neg (by omega), if_pos rfl]
  have e2 : lnH V at_ n 0 x = V 0 := by unfold lnH; rw [if_neg (by omega), if_pos rfl]
  rw [e1, e2]
  have ha0 : ad.add (0 * 3) = ad := by simp [Addr.add]
  have B0 := hide (BN.out 0)
  have W0 := hide (rwide (V 0) ⟨by have := (HVL.out 0 (by omega)).1; omega, by have := (HVL.out 0 (by omega)).2; omega⟩)
  have t0 := HT.out.ca 0 (by omega)
  have t1 := HT.out.cl 0 (by omega)
  have t2 := HT.out.ch 0 (by omega)
  rw [ha0] at t0 t1 t2
  have hn0 : (0 : Int) < (n : Int) := by omega
  have yy : ad.block < w.heap.size + 1 ∧ ad.block < w.heap.size + 1 + 1 := by omega
  obtain ⟨yy1, yy2⟩ := yy
  clear hR hN hst e1 e2 BN HVL ha0
  generalize V 0 = v0 at *
  generalize at_ 0 = x0 at *
  generalize lo 0 = x1 at *
  generalize hi 0 = x2 at *
  go_enter Tryz.func116, Tryz.ntmps116
  go_wp2_with fail
  refine (B0.out _).mono ?_
  rintro e w1 ⟨rfl, hb1⟩
  obtain ⟨hc1, hf1⟩ := bcell hb1
  have hz1 := hb1.size
  try simp only [World.size_alloc, World.size_setCell] at hz1
  try refine zw2 w w1 (by omega) fun _ _ _ _ => ?_
  have c1_0_0 := zci w1 w.heap.size 0 0 (by go_simp)
  have g1_0_0 := zfe w1 w.heap.size 0 (by go_simp)
  have c1_0_1 := zcu w1 w.heap.size 1 0 (by go_simp)
  have g1_0_1 := zfe w1 w.heap.size 1 (by go_simp)
  have c1_1_0 := zci w1 (w.heap.size + 1) 0 0 (by go_simp)
  have g1_1_0 := zfe w1 (w.heap.size + 1) 0 (by go_simp)
  have c1_1_1 := zcu w1 (w.heap.size + 1) 1 0 (by go_simp)
  have g1_1_1 := zfe w1 (w.heap.size + 1) 1 (by go_simp)
  clear hc1 hf1
  go_wp2_with fail
  refine (W0.out _).mono ?_
  rintro e w2 ⟨rfl, hb2⟩
  obtain ⟨hc2, hf2⟩ := bcell hb2
  have hz2 := hb2.size
  try simp only [World.size_alloc, World.size_setCell] at hz2
  try have : w.heap.size < w2.heap.size := by omega
  try have : w.heap.size < w2.heap.size + 1 := by omega
  try have : w.heap.size ≤ w2.heap.size := by omega
  try have : w.heap.size + 1 < w2.heap.size := by omega
  try have : w.heap.size + 1 < w2.heap.size + 1 := by omega
  try have : w.heap.size + 1 ≤ w2.heap.size := by omega
  have c2_0_0 := zci w2 w.heap.size 0 0 (by go_simp)
  have g2_0_0 := zfe w2 w.heap.size 0 (by go_simp)
  have c2_0_1 := zcu w2 w.heap.size 1 0 (by go_simp)
  have g2_0_1 := zfe w2 w.heap.size 1 (by go_simp)
  have c2_1_0 := zci w2 (w.heap.size + 1) 0 0 (by go_simp)
  have g2_1_0 := zfe w2 (w.heap.size + 1) 0 (by go_simp)
  have c2_1_1 := zcu w2 (w.heap.size + 1) 1 0 (by go_simp)
  have g2_1_1 := zfe w2 (w.heap.size + 1) 1 (by go_simp)
  clear hc2 hf2 c1_0_0 g1_0_0 c1_0_1 g1_0_1 c1_1_0 g1_1_0 c1_1_1 g1_1_1
  go_wp2_with fail
  have hP8 : PairV w (w.heap.size) (w.heap.size + 1) (w2.heap.size) (w2.heap.size) (.int .i64 (wH v0)) (.int .u64 (wL v0)) (.int .i64 (wH v0)) (.int .u64 (wL v0)) (.int .i64 0) (.int .u64 0) (.int .i64 0) (.int .u64 0) ((w2.alloc (.cells #[.int .i64 (wH v0), .int .u64 (wL v0)] 114))) := ⟨blw_, by go_simp, by go_simp, by go_simp, by go_simp, by go_simp, by go_simp, by go_simp, by go_simp, by go_simp, by go_simp, by go_simp, by go_simp⟩
  refine QF.region_float_ex 2 103 (fun j => PairV w (w.heap.size) (w.heap.size + 1) (w2.heap.size) (w2.heap.size) (.int .i64 (wH v0)) (.int .u64 (wL v0)) (.int .i64 (wH v0)) (.int .u64 (wL v0)) (.int .i64 0) (.int .u64 0) (pv (.int .i64 0) j (.int .i64 (wH v0))) (pv (.int .u64 0) j (.int .u64 (wL v0)))) _ (by kernel_rfl) (by kernel_rfl) rfl rfl rfl (⟨hP8.below.drew, hP8.c1, hP8.c2, hP8.c3, hP8.c4, hP8.c5, hP8.c6, hP8.c7, hP8.c8, hP8.f1, hP8.f2, hP8.f3, hP8.f4⟩) ?_
  apply Exists.intro
  refine ⟨fun j => ?h1, ?hf, ?ht⟩
  case h1 =>
   simp only [List.take_succ_cons, List.take_zero, List.drop_succ_cons, List.drop_zero]
   repeat (first
    | go_big_quiet_skip
    | (go_big_quiet_want; go_big_quiet_op; first
     | go_big_quiet_on
     | (apply Exists.intro
        refine ⟨fun _ => ?_, ?_⟩
        ·first
         | rfl
         | (intro hC; obtain ⟨k0, k1, k2, k3, k4, k5, k6, k7, k8, k9, k10, k11, k12⟩ := hC; go_simp; done)
         | (intro hC; obtain ⟨k0, k1, k2, k3, k4, k5, k6, k7, k8, k9, k10, k11, k12⟩ := hC; go_simp; rfl)
         | (intro hC; have hcq := bcellG hC; go_simp; done)
         | (intro hC; have hcq := bcellG hC; go_simp; rfl)
        go_big_quiet_on)))
   exact wpQuiet_nil rfl
  case hf =>
   intro w8 hP7
   have hm8 := hP7.stored (by first | (simp; done) | omega) (by first | (simp; done) | omega) (by first | (simp; done) | omega) (by omega)
   obtain ⟨k0, k1, k2, k3, k4, k5, k6, k7, k8, k9, k10, k11, k12⟩ := hP7
   go_simp
   simpa [QF.floatRes, pv] using hm8
  case ht =>
   intro u9 w9 hP7
   simp only [List.drop_succ_cons, List.drop_zero]
   obtain ⟨hb9, k1, k2, k3, k4, k5, k6, k7, k8, k9, k10, k11, k12⟩ := hP7
   simp only [pv] at k1 k2
   go_wp2
   refine bodyPost_ret (v := .tuple #[.agg #[.int .i64 (wH (v0)), .int .u64 (wL (v0))], .agg #[.int .i64 (wH (v0)), .int .u64 (wL (v0))]]) (by simp only [results, Tryz.results116]; go_simp) rfl ⟨rfl, blw_⟩
 ·have hx0 : at_ 0 < x := hN.before 0 (by omega)
  have hx : decide (x ≤ at_ 0) = false := decide_eq_false (by omega)
  have hx2 : ¬ x ≤ at_ 0 := by omega
  have ha0 : ad.add (0 * 3) = ad := by simp [Addr.add]
  have t0 := HT.out.ca 0 (by omega)
  rw [ha0] at t0
  have hn0 : (0 : Int) < (n : Int) := by omega
  have HN := hide hN
  have HR := hide hR
  obtain ⟨VL, hVL⟩ : ∃ v, lnL V at_ n m x = v := ⟨_, rfl⟩
  obtain ⟨VH, hVH⟩ : ∃ v, lnH V at_ n m x = v := ⟨_, rfl⟩
  rw [hVL, hVH]
  have HL := hide hVL
  have HH := hide hVH
  have hm1 : 1 ≤ m := by omega
  have y0 : ad.block < w.heap.size + 1 := by omega
  clear hN hR ha0 hVL hVH hx0
  generalize at_ 0 = x0 at *
  go_enter Tryz.func116, Tryz.ntmps116
  go_wp2
  go_loopw [9] (fun s9 wr => ∃ k : Nat, 1 ≤ k ∧ k ≤ m ∧ s9 = .int .i64 k ∧ Below w.heap.size w wr ∧ w.heap.size + 1 < wr.heap.size ∧ wr.cell? ⟨w.heap.size, 0, none⟩ = some (.int .i64 0) ∧ wr.cell? ⟨w.heap.size, 1, none⟩ = some (.int .u64 0) ∧ wr.cell? ⟨w.heap.size + 1, 0, none⟩ = some (.int .i64 0) ∧ wr.cell? ⟨w.heap.size + 1, 1, none⟩ = some (.int .u64 0) ∧ wr.frozen? ⟨w.heap.size, 0, none⟩ = false ∧ wr.frozen? ⟨w.heap.size, 1, none⟩ = false ∧ wr.frozen? ⟨w.heap.size + 1, 0, none⟩ = false ∧ wr.frozen? ⟨w.heap.size + 1, 1, none⟩ = false) (fun s9 _ => m - (intOf s9).toNat)
  case atStart => exact ⟨1, by omega, by omega, rfl, blw_, by simp, by go_simp, by go_simp, by go_simp, by go_simp, by go_simp, by go_simp, by go_simp, by go_simp⟩
  case round =>
   obtain ⟨k, hk1, hk, rfl, hb20, hz0, c0, c1, c2, c3, f0, f1, f2, f3⟩ := hrel
   clear t0
   have hTr := HT.out.below hb20
   have hbr := hTr.blk
   have hz1 : w.heap.size < wr.heap.size := by omega
   by_cases hlt : k < m
   ·have t0 := hTr.ca k (by omega)
    have g1 : decide ((k : Int) < (n : Int)) = true := decide_eq_true (by omega)
    have hb := HN.out.before k hlt
    have hkn : k < n := by omega
    clear hTr
    generalize at_ k = z0 at *
    go_wp2
    go_roundw
    case rel => exact ⟨k + 1, by omega, by omega, by go_num, blw_, by omega, by go_simp, by go_simp, by go_simp, by go_simp, by go_simp, by go_simp, by go_simp, by go_simp⟩
    case measure => simp [intOf]; omega
   ·obtain rfl : k = m := by omega
    obtain ⟨j, rfl⟩ : ∃ j, k = j + 1 := ⟨k - 1, by omega⟩
    by_cases hkn : j + 1 = n
    ·subst hkn
     have t0 := hTr.ca j (by omega)
     have t1 := hTr.cl j (by omega)
     have t2 := hTr.ch j (by omega)
     have E1 : Hid (V j = VL) := hide (by rw [← HL.out]; unfold lnL; rw [if_pos rfl, Nat.add_sub_cancel])
     have E2 : Hid (V j = VH) := hide (by rw [← HH.out]; unfold lnH; rw [if_pos rfl, Nat.add_sub_cancel])
     have B0 := BN.out j
     have W0 := rwide (V j) ⟨by have := (HVL.out j (by omega)).1; omega, by have := (HVL.out j (by omega)).2; omega⟩
     rw [E1.out] at B0 W0
     obtain rfl : VL = VH := E1.out.symm.trans E2.out
     have B0' := hide B0
     have W0' := hide W0
     clear hTr B0 W0 E1 E2
     generalize at_ j = z0 at *
     generalize lo j = z1 at *
     generalize hi j = z2 at *
     go_wp2_with fail
     refine (B0'.out _).mono ?_
     rintro e w1 ⟨rfl, hb1⟩
     obtain ⟨hc1, hf1⟩ := bcell hb1
     have hz1 := hb1.size
     try simp only [World.size_alloc, World.size_setCell] at hz1
     try refine zw2 w w1 (by omega) fun _ _ _ _ => ?_
     have c1_0_0 := zci w1 w.heap.size 0 0 (by go_simp)
     have g1_0_0 := zfe w1 w.heap.size 0 (by go_simp)
     have c1_0_1 := zcu w1 w.heap.size 1 0 (by go_simp)
     have g1_0_1 := zfe w1 w.heap.size 1 (by go_simp)
     have c1_1_0 := zci w1 (w.heap.size + 1) 0 0 (by go_simp)
     have g1_1_0 := zfe w1 (w.heap.size + 1) 0 (by go_simp)
     have c1_1_1 := zcu w1 (w.heap.size + 1) 1 0 (by go_simp)
     have g1_1_1 := zfe w1 (w.heap.size + 1) 1 (by go_simp)
     clear hc1 hf1
     go_wp2_with fail
     refine (W0'.out _).mono ?_
     rintro e w2 ⟨rfl, hb2⟩
     obtain ⟨hc2, hf2⟩ := bcell hb2
     have hz2 := hb2.size
     try simp only [World.size_alloc, World.size_setCell] at hz2
     try have : w.heap.size < w2.heap.size := by omega
     try have : w.heap.size < w2.heap.size + 1 := by omega
     try have : w.heap.size ≤ w2.heap.size := by omega
     try have : w.heap.size + 1 < w2.heap.size := by omega
     try have : w.heap.size + 1 < w2.heap.size + 1 := by omega
     try have : w.heap.size + 1 ≤ w2.heap.size := by omega
     have c2_0_0 := zci w2 w.heap.size 0 0 (by go_simp)
     have g2_0_0 := zfe w2 w.heap.size 0 (by go_simp)
     have c2_0_1 := zcu w2 w.heap.size 1 0 (by go_simp)
     have g2_0_1 := zfe w2 w.heap.size 1 (by go_simp)
     have c2_1_0 := zci w2 (w.heap.size + 1) 0 0 (by go_simp)
     have g2_1_0 := zfe w2 (w.heap.size + 1) 0 (by go_simp)
     have c2_1_1 := zcu w2 (w.heap.size + 1) 1 0 (by go_simp)
     have g2_1_1 := zfe w2 (w.heap.size + 1) 1 (by go_simp)
     clear hc2 hf2 c1_0_0 g1_0_0 c1_0_1 g1_0_1 c1_1_0 g1_1_0 c1_1_1 g1_1_1
     go_wp2_with fail
     have hP8 : PairV w (w.heap.size) (w.heap.size + 1) (w2.heap.size) (w2.heap.size) (.int .i64 (wH VL)) (.int .u64 (wL VL)) (.int .i64 (wH VL)) (.int .u64 (wL VL)) (.int .i64 0) (.int .u64 0) (.int .i64 0) (.int .u64 0) ((w2.alloc (.cells #[.int .i64 (wH VL), .int .u64 (wL VL)] 114))) := ⟨blw_, by go_simp, by go_simp, by go_simp, by go_simp, by go_simp, by go_simp, by go_simp, by go_simp, by go_simp, by go_simp, by go_simp, by go_simp⟩
     refine QF.region_float_ex 2 103 (fun j => PairV w (w.heap.size) (w.heap.size + 1) (w2.heap.size) (w2.heap.size) (.int .i64 (wH VL)) (.int .u64 (wL VL)) (.int .i64 (wH VL)) (.int .u64 (wL VL)) (.int .i64 0) (.int .u64 0) (pv (.int .i64 0) j (.int .i64 (wH VL))) (pv (.int .u64 0) j (.int .u64 (wL VL)))) _ (by kernel_rfl) (by kernel_rfl) rfl rfl rfl (⟨hP8.below.drew, hP8.c1, hP8.c2, hP8.c3, hP8.c4, hP8.c5, hP8.c6, hP8.c7, hP8.c8, hP8.f1, hP8.f2, hP8.f3, hP8.f4⟩) ?_
     apply Exists.intro
     refine ⟨fun j => ?h1, ?hf, ?ht⟩
     case h1 =>
      simp only [List.take_succ_cons, List.take_zero, List.drop_succ_cons, List.drop_zero]
      repeat (first
       | go_big_quiet_skip
       | (go_big_quiet_want; go_big_quiet_op; first
        | go_big_quiet_on
        | (apply Exists.intro
           refine ⟨fun _ => ?_, ?_⟩
           ·first
            | rfl
            | (intro hC; obtain ⟨k0, k1, k2, k3, k4, k5, k6, k7, k8, k9, k10, k11, k12⟩ := hC; go_simp; done)
            | (intro hC; obtain ⟨k0, k1, k2, k3, k4, k5, k6, k7, k8, k9, k10, k11, k12⟩ := hC; go_simp; rfl)
            | (intro hC; have hcq := bcellG hC; go_simp; done)
            | (intro hC; have hcq := bcellG hC; go_simp; rfl)
           go_big_quiet_on)))
      exact wpQuiet_nil rfl
     case hf =>
      intro w8 hP7
      have hm8 := hP7.stored (by first | (simp; done) | omega) (by first | (simp; done) | omega) (by first | (simp; done) | omega) (by omega)
      obtain ⟨k0, k1, k2, k3, k4, k5, k6, k7, k8, k9, k10, k11, k12⟩ := hP7
      go_simp
      simpa [QF.floatRes, pv] using hm8
     case ht =>
      intro u9 w9 hP7
      simp only [List.drop_succ_cons, List.drop_zero]
      obtain ⟨hb9, k1, k2, k3, k4, k5, k6, k7, k8, k9, k10, k11, k12⟩ := hP7
      simp only [pv] at k1 k2
      go_wp2
      refine bodyPost_ret (v := .tuple #[.agg #[.int .i64 (wH (VL)), .int .u64 (wL (VL))], .agg #[.int .i64 (wH (VL)), .int .u64 (wL (VL))]]) (by simp only [results, Tryz.results116]; go_simp) rfl ⟨rfl, blw_⟩
    ·have hkn2 : j + 1 < n := by omega
     have hst : ¬ at_ (j + 1) < x := by rcases HN.out.stop with h | h; exact absurd h hkn; exact h
     have hst2 : x ≤ at_ (j + 1) := by omega
     have px := HN.out.before j (by omega)
     have hup := HR.out.up j hkn2
     have v0 := HVL.out j (by omega)
     have v1 := HVL.out (j + 1) hkn2
     have aj := HR.out.a j (by omega)
     have ak := HR.out.a (j + 1) hkn2
     have t0 := hTr.ca (j + 1) hkn2
     have t1 := hTr.cl (j + 1) hkn2
     have t2 := hTr.ch (j + 1) hkn2
     have u0 := hTr.ca j (by omega)
     have u1 := hTr.cl j (by omega)
     have u2 := hTr.ch j (by omega)
     have g4 : decide ((j : Int) + 1 < (n : Int)) = true := decide_eq_true (by omega)
     have g7 : (j : Int) + 1 < (n : Int) := by omega
     have E1 : Hid (V j + (V (j + 1) - V j) * (x - at_ j) / (at_ (j + 1) - at_ j) = VL) := hide (by rw [← HL.out]; unfold lnL; rw [if_neg hkn, if_neg hm0, Nat.add_sub_cancel])
     have E2 : Hid (V j + cdiv ((V (j + 1) - V j) * (x - at_ j)) (at_ (j + 1) - at_ j) = VH) := hide (by rw [← HH.out]; unfold lnH; rw [if_neg hkn, if_neg hm0, Nat.add_sub_cancel])
     have BJ := hide (BN.out j)
     have BK := hide (BN.out (j + 1))
     have hwb := way_bd (c := V (j + 1) - V j) (a := x - at_ j) (d := at_ (j + 1) - at_ j) (by omega) (by omega) (by omega)
     have TI := hide (rtimes (V (j + 1) - V j) (x - at_ j) ⟨by omega, by omega⟩ ⟨by omega, by omega⟩)
     have WF := hide (rwide (at_ (j + 1) - at_ j) ⟨by omega, by omega⟩)
     have WJ := hide (rwide (V j) ⟨by omega, by omega⟩)
     have bd : -(4611686018427387904 * 4611686018427387904) ≤ (V (j + 1) - V j) * (x - at_ j) ∧ (V (j + 1) - V j) * (x - at_ j) ≤ 4611686018427387904 * 4611686018427387904 := by
      rcases Int.le_total 0 (V (j + 1) - V j) with h | h
      ·exact ⟨by have := Int.mul_nonneg h (show 0 ≤ x - at_ j by omega); omega, Int.mul_le_mul (by omega) (by omega) (by omega) (by omega)⟩
      ·have h2 : -(V (j + 1) - V j) * (x - at_ j) ≤ 4611686018427387904 * 4611686018427387904 := Int.mul_le_mul (by omega) (by omega) (by omega) (by omega)
       have h3 := Int.mul_nonneg (show 0 ≤ -(V (j + 1) - V j) by omega) (show 0 ≤ x - at_ j by omega)
       rw [Int.neg_mul] at h2 h3
       omega
     have FL := rfloor ((V (j + 1) - V j) * (x - at_ j)) (at_ (j + 1) - at_ j) ⟨by omega, by omega⟩ (by omega) (by omega)
     have CE := rceil ((V (j + 1) - V j) * (x - at_ j)) (at_ (j + 1) - at_ j) ⟨by omega, by omega⟩ (by omega) (by omega)
     have bq : -4611686018427387904 ≤ (V (j + 1) - V j) * (x - at_ j) / (at_ (j + 1) - at_ j) ∧ (V (j + 1) - V j) * (x - at_ j) / (at_ (j + 1) - at_ j) ≤ 4611686018427387904 ∧ -4611686018427387904 ≤ cdiv ((V (j + 1) - V j) * (x - at_ j)) (at_ (j + 1) - at_ j) ∧ cdiv ((V (j + 1) - V j) * (x - at_ j)) (at_ (j + 1) - at_ j) ≤ 4611686018427387904 := by
      rcases Int.le_total 0 (V (j + 1) - V j) with h | h
      ·have := hwb.1 h; omega
      ·have := hwb.2 h; omega
     have PF := rplus (V j) ((V (j + 1) - V j) * (x - at_ j) / (at_ (j + 1) - at_ j)) ⟨by omega, by omega⟩ ⟨by omega, by omega⟩ ⟨by omega, by omega⟩
     have PC := rplus (V j) (cdiv ((V (j + 1) - V j) * (x - at_ j)) (at_ (j + 1) - at_ j)) ⟨by omega, by omega⟩ ⟨by omega, by omega⟩ ⟨by omega, by omega⟩
     rw [E1.out] at PF
     rw [E2.out] at PC
     have FL' := hide FL
     have CE' := hide CE
     have PF' := hide PF
     have PC' := hide PC
     have ixx : -9223372036854775808 ≤ x ∧ x ≤ 9223372036854775807 := ix
     have dv : -4611686018427387904 ≤ V (j + 1) - V j ∧ V (j + 1) - V j ≤ 4611686018427387904 := by omega
     have dx : 0 ≤ x - at_ j ∧ x - at_ j ≤ 4611686018427387904 := by omega
     have da : 0 ≤ at_ (j + 1) - at_ j ∧ at_ (j + 1) - at_ j ≤ 4611686018427387904 := by omega
     clear hTr hst FL CE PF PC bd bq hwb E1 E2 ixx ix
     generalize cdiv ((V (j + 1) - V j) * (x - at_ j)) (at_ (j + 1) - at_ j) = QH at *
     generalize (V (j + 1) - V j) * (x - at_ j) / (at_ (j + 1) - at_ j) = QL at *
     generalize (V (j + 1) - V j) * (x - at_ j) = PR at *
     have hy1 := hz1
     have hy0 := hz0
     generalize at_ (j + 1) = b0 at *
     generalize lo (j + 1) = b1 at *
     generalize hi (j + 1) = b2 at *
     generalize at_ j = a0 at *
     generalize lo j = a1 at *
     generalize hi j = a2 at *
     generalize V (j + 1) = vk at *
     generalize V j = vj at *
     go_wp2_with fail
     refine (BJ.out _).mono ?_
     rintro e w1 ⟨rfl, hb1⟩
     have hz1 := hb1.size
     have hq1 : ad.block < w1.heap.size ∧ w.heap.size < w1.heap.size ∧ w.heap.size + 1 < w1.heap.size := by omega
     obtain ⟨hA1, hB1, hC1⟩ := hq1
     have t0_1 : w1.cell? (ad.add ((j + 1) * 3)) = some (.int .i64 b0) := (bcellG hb1 (ad.add ((j + 1) * 3)) (by rw [hba]; exact hbr)).trans t0
     have t1_1 : w1.cell? ⟨ad.block, (ad.add ((j + 1) * 3)).off + 1, none⟩ = some (.int .i64 b1) := (bcellG hb1 ⟨ad.block, _, none⟩ hbr).trans t1
     have t2_1 : w1.cell? ⟨ad.block, (ad.add ((j + 1) * 3)).off + 2, none⟩ = some (.int .i64 b2) := (bcellG hb1 ⟨ad.block, _, none⟩ hbr).trans t2
     have u0_1 : w1.cell? (ad.add (j * 3)) = some (.int .i64 a0) := (bcellG hb1 (ad.add (j * 3)) (by rw [hba]; exact hbr)).trans u0
     have u1_1 : w1.cell? ⟨ad.block, (ad.add (j * 3)).off + 1, none⟩ = some (.int .i64 a1) := (bcellG hb1 ⟨ad.block, _, none⟩ hbr).trans u1
     have u2_1 : w1.cell? ⟨ad.block, (ad.add (j * 3)).off + 2, none⟩ = some (.int .i64 a2) := (bcellG hb1 ⟨ad.block, _, none⟩ hbr).trans u2
     have c0_1 : w1.cell? ⟨w.heap.size, 0, none⟩ = some (.int .i64 0) := ((bcell hb1).1 _ _ hy1).trans c0
     have c1_1 : w1.cell? ⟨w.heap.size, 1, none⟩ = some (.int .u64 0) := ((bcell hb1).1 _ _ hy1).trans c1
     have c2_1 : w1.cell? ⟨w.heap.size + 1, 0, none⟩ = some (.int .i64 0) := ((bcell hb1).1 _ _ hy0).trans c2
     have c3_1 : w1.cell? ⟨w.heap.size + 1, 1, none⟩ = some (.int .u64 0) := ((bcell hb1).1 _ _ hy0).trans c3
     have f0_1 : w1.frozen? ⟨w.heap.size, 0, none⟩ = false := ((bcell hb1).2 _ _ hy1).trans f0
     have f1_1 : w1.frozen? ⟨w.heap.size, 1, none⟩ = false := ((bcell hb1).2 _ _ hy1).trans f1
     have f2_1 : w1.frozen? ⟨w.heap.size + 1, 0, none⟩ = false := ((bcell hb1).2 _ _ hy0).trans f2
     have f3_1 : w1.frozen? ⟨w.heap.size + 1, 1, none⟩ = false := ((bcell hb1).2 _ _ hy0).trans f3
     clear t0 t1 t2 u0 u1 u2 c0 c1 c2 c3 f0 f1 f2 f3
     go_wp2_with fail
     refine (BK.out _).mono ?_
     rintro e w2 ⟨rfl, hb2⟩
     have hz2 := hb2.size
     have hq2 : ad.block < w2.heap.size ∧ w.heap.size < w2.heap.size ∧ w.heap.size + 1 < w2.heap.size := by omega
     obtain ⟨hA2, hB2, hC2⟩ := hq2
     have t0_2 : w2.cell? (ad.add ((j + 1) * 3)) = some (.int .i64 b0) := (bcellG hb2 (ad.add ((j + 1) * 3)) (by rw [hba]; exact hA1)).trans t0_1
     have t1_2 : w2.cell? ⟨ad.block, (ad.add ((j + 1) * 3)).off + 1, none⟩ = some (.int .i64 b1) := (bcellG hb2 ⟨ad.block, _, none⟩ hA1).trans t1_1
     have t2_2 : w2.cell? ⟨ad.block, (ad.add ((j + 1) * 3)).off + 2, none⟩ = some (.int .i64 b2) := (bcellG hb2 ⟨ad.block, _, none⟩ hA1).trans t2_1
     have u0_2 : w2.cell? (ad.add (j * 3)) = some (.int .i64 a0) := (bcellG hb2 (ad.add (j * 3)) (by rw [hba]; exact hA1)).trans u0_1
     have u1_2 : w2.cell? ⟨ad.block, (ad.add (j * 3)).off + 1, none⟩ = some (.int .i64 a1) := (bcellG hb2 ⟨ad.block, _, none⟩ hA1).trans u1_1
     have u2_2 : w2.cell? ⟨ad.block, (ad.add (j * 3)).off + 2, none⟩ = some (.int .i64 a2) := (bcellG hb2 ⟨ad.block, _, none⟩ hA1).trans u2_1
     have c0_2 : w2.cell? ⟨w.heap.size, 0, none⟩ = some (.int .i64 0) := ((bcell hb2).1 _ _ hB1).trans c0_1
     have c1_2 : w2.cell? ⟨w.heap.size, 1, none⟩ = some (.int .u64 0) := ((bcell hb2).1 _ _ hB1).trans c1_1
     have c2_2 : w2.cell? ⟨w.heap.size + 1, 0, none⟩ = some (.int .i64 0) := ((bcell hb2).1 _ _ hC1).trans c2_1
     have c3_2 : w2.cell? ⟨w.heap.size + 1, 1, none⟩ = some (.int .u64 0) := ((bcell hb2).1 _ _ hC1).trans c3_1
     have f0_2 : w2.frozen? ⟨w.heap.size, 0, none⟩ = false := ((bcell hb2).2 _ _ hB1).trans f0_1
     have f1_2 : w2.frozen? ⟨w.heap.size, 1, none⟩ = false := ((bcell hb2).2 _ _ hB1).trans f1_1
     have f2_2 : w2.frozen? ⟨w.heap.size + 1, 0, none⟩ = false := ((bcell hb2).2 _ _ hC1).trans f2_1
     have f3_2 : w2.frozen? ⟨w.heap.size + 1, 1, none⟩ = false := ((bcell hb2).2 _ _ hC1).trans f3_1
     clear t0_1 t1_1 t2_1 u0_1 u1_1 u2_1 c0_1 c1_1 c2_1 c3_1 f0_1 f1_1 f2_1 f3_1
     go_wp2_with fail
     refine (TI.out _).mono ?_
     rintro e w3 ⟨rfl, hb3⟩
     have hz3 := hb3.size
     have hq3 : ad.block < w3.heap.size ∧ w.heap.size < w3.heap.size ∧ w.heap.size + 1 < w3.heap.size := by omega
     obtain ⟨hA3, hB3, hC3⟩ := hq3
     have t0_3 : w3.cell? (ad.add ((j + 1) * 3)) = some (.int .i64 b0) := (bcellG hb3 (ad.add ((j + 1) * 3)) (by rw [hba]; exact hA2)).trans t0_2
     have t1_3 : w3.cell? ⟨ad.block, (ad.add ((j + 1) * 3)).off + 1, none⟩ = some (.int .i64 b1) := (bcellG hb3 ⟨ad.block, _, none⟩ hA2).trans t1_2
     have t2_3 : w3.cell? ⟨ad.block, (ad.add ((j + 1) * 3)).off + 2, none⟩ = some (.int .i64 b2) := (bcellG hb3 ⟨ad.block, _, none⟩ hA2).trans t2_2
     have u0_3 : w3.cell? (ad.add (j * 3)) = some (.int .i64 a0) := (bcellG hb3 (ad.add (j * 3)) (by rw [hba]; exact hA2)).trans u0_2
     have u1_3 : w3.cell? ⟨ad.block, (ad.add (j * 3)).off + 1, none⟩ = some (.int .i64 a1) := (bcellG hb3 ⟨ad.block, _, none⟩ hA2).trans u1_2
     have u2_3 : w3.cell? ⟨ad.block, (ad.add (j * 3)).off + 2, none⟩ = some (.int .i64 a2) := (bcellG hb3 ⟨ad.block, _, none⟩ hA2).trans u2_2
     have c0_3 : w3.cell? ⟨w.heap.size, 0, none⟩ = some (.int .i64 0) := ((bcell hb3).1 _ _ hB2).trans c0_2
     have c1_3 : w3.cell? ⟨w.heap.size, 1, none⟩ = some (.int .u64 0) := ((bcell hb3).1 _ _ hB2).trans c1_2
     have c2_3 : w3.cell? ⟨w.heap.size + 1, 0, none⟩ = some (.int .i64 0) := ((bcell hb3).1 _ _ hC2).trans c2_2
     have c3_3 : w3.cell? ⟨w.heap.size + 1, 1, none⟩ = some (.int .u64 0) := ((bcell hb3).1 _ _ hC2).trans c3_2
     have f0_3 : w3.frozen? ⟨w.heap.size, 0, none⟩ = false := ((bcell hb3).2 _ _ hB2).trans f0_2
     have f1_3 : w3.frozen? ⟨w.heap.size, 1, none⟩ = false := ((bcell hb3).2 _ _ hB2).trans f1_2
     have f2_3 : w3.frozen? ⟨w.heap.size + 1, 0, none⟩ = false := ((bcell hb3).2 _ _ hC2).trans f2_2
     have f3_3 : w3.frozen? ⟨w.heap.size + 1, 1, none⟩ = false := ((bcell hb3).2 _ _ hC2).trans f3_2
     clear t0_2 t1_2 t2_2 u0_2 u1_2 u2_2 c0_2 c1_2 c2_2 c3_2 f0_2 f1_2 f2_2 f3_2
     have hA4 : ad.block < w3.heap.size + 1 := by omega
     have hB4 : w.heap.size < w3.heap.size + 1 ∧ w.heap.size + 1 < w3.heap.size + 1 := by omega
     obtain ⟨hB5, hB6⟩ := hB4
     go_wp2_with fail
     refine QF.region_float_ex 13 103 (QF.FD _ _ (.int .i64 0) (.int .u64 0)) _ (by kernel_rfl) (by kernel_rfl) rfl rfl rfl (show Below _ _ _ from ((Below.refl (w3.heap.size + 1) _)).drew) ?_
     apply Exists.intro
     refine ⟨fun j => ?h1, ?hf, ?ht⟩
     case h1 =>
      simp only [List.take_succ_cons, List.take_zero, List.drop_succ_cons, List.drop_zero]
      repeat (first
       | go_big_quiet_skip
       | (go_big_quiet_want; go_big_quiet_op; first
        | go_big_quiet_on
        | (apply Exists.intro
           refine ⟨fun _ => ?_, ?_⟩
           ·first
            | rfl
            | (intro hC; obtain ⟨hcq, hfq⟩ := bcellB (QF.FD.below hC); go_simp; done)
            | (intro hC; obtain ⟨hcq, hfq⟩ := bcellB (QF.FD.below hC); go_simp; rfl)
            | (intro hC; have hcq := bcellG (QF.FD.below hC); go_simp; done)
            | (intro hC; have hcq := bcellG (QF.FD.below hC); go_simp; rfl)
            | (intro hC; go_at_call 95; (first | (with_reducible refine (WF.out _).mono ?_)); (intro e w2 hw; exact ⟨hw.1, QF.FD.call (by simp) hC hw.2⟩))
           go_big_quiet_on)))
      exact wpQuiet_nil rfl
     case hf =>
      intro w8 hD8
      have hm8 := QF.FD.made (t := 114) (by simp) hD8
      go_simp
      simpa [QF.floatRes] using hm8
     case ht =>
      intro u9 w9 hD9
      simp only [List.drop_succ_cons, List.drop_zero]
      obtain ⟨hC9, p9, rfl, hp9, hq9, bc0, bc1, bf0, bf1⟩ := hD9
      obtain ⟨hc9, hf9⟩ := bcellB hC9
      have hz9 := hC9.size
      try simp only [World.size_alloc, World.size_setCell] at hz9 hp9
      try have hs9 : w.heap.size < p9 := by omega
      try have hs9' : w.heap.size ≤ p9 := by omega
      try have ht9 : w.heap.size < w9.heap.size := by omega
      have hb21 := hC9
      have nn : ¬ w3.heap.size = p9 ∧ ¬ p9 = w3.heap.size ∧ ¬ p9 = w.heap.size ∧ ¬ p9 = w.heap.size + 1 ∧ ¬ w.heap.size = p9 ∧ ¬ w.heap.size + 1 = p9 ∧ w.heap.size + 1 < w9.heap.size ∧ w3.heap.size < w9.heap.size := by omega
      obtain ⟨nn1, nn2, nn3, nn4, nn5, nn6, nn7, nn8⟩ := nn
      have d0 := zci w9 w3.heap.size 0 (wH PR) (by go_simp)
      have d1 := zcu w9 w3.heap.size 1 (wL PR) (by go_simp)
      have d2 := zci w9 w.heap.size 0 0 (by go_simp)
      have d3 := zcu w9 w.heap.size 1 0 (by go_simp)
      have d4 := zci w9 (w.heap.size + 1) 0 0 (by go_simp)
      have d5 := zcu w9 (w.heap.size + 1) 1 0 (by go_simp)
      have d6 := zfe w9 w.heap.size 0 (by go_simp)
      have d7 := zfe w9 w.heap.size 1 (by go_simp)
      have d8 := zfe w9 (w.heap.size + 1) 0 (by go_simp)
      have d9 := zfe w9 (w.heap.size + 1) 1 (by go_simp)
      clear hc9 hf9
      go_wp2_with fail
      refine QT.tail_b 12 (by kernel_rfl) (by kernel_rfl) ?_
      simp only [List.take_succ_cons, List.take_zero, List.drop_succ_cons, List.drop_zero]
      repeat (first
       | go_big_quiet_skip
       | (go_big_quiet_want; go_big_quiet_op; first
        | go_big_quiet_on
        | (apply Exists.intro
           refine ⟨fun _ => ?_, ?_⟩
           ·first
            | rfl
            | (intro hC; obtain ⟨hcq, hfq⟩ := bcellB hC; go_simp; done)
            | (intro hC; obtain ⟨hcq, hfq⟩ := bcellB hC; go_simp; rfl)
            | (intro hC; have hcq := bcellG hC; go_simp; done)
            | (intro hC; have hcq := bcellG hC; go_simp; rfl)
            | (intro hC; go_at_call 95; (first | (with_reducible refine (WJ.out _).mono ?_)); (intro e w2 hw; exact ⟨hw.1, qtrans (by simp) hC hw.2⟩))
            | (intro hC; go_at_call 130; (first | (with_reducible refine (FL'.out _).mono ?_)); (intro e w2 hw; exact ⟨hw.1, qtrans (by simp) hC hw.2⟩))
            | (intro hC; go_at_call 131; (first | (with_reducible refine (CE'.out _).mono ?_)); (intro e w2 hw; exact ⟨hw.1, qtrans (by simp) hC hw.2⟩))
            | (intro hC; go_at_call 94; (first | (with_reducible refine (PF'.out _).mono ?_) | (with_reducible refine (PC'.out _).mono ?_)); (intro e w2 hw; exact ⟨hw.1, qtrans (by simp) hC hw.2⟩))
           go_big_quiet_on)))
      refine wpQuiet_nil ?_
      intro w9 hC9
      obtain ⟨hc9, hf9⟩ := bcellB hC9
      have hz9 := hC9.size
      go_wp2
      refine bodyPost_ret (v := .tuple #[.agg #[.int .i64 (wH (VL)), .int .u64 (wL (VL))], .agg #[.int .i64 (wH (VH)), .int .u64 (wL (VH))]]) (by simp only [results, Tryz.results116]; go_simp) rfl ⟨rfl, blw_⟩
end
section
open Go.RowKit
def pls (at_ : Nat → Int) (xl xh : Int) : Nat → List Int
 | 0 => [xl, xh]
 | k + 1 => if xl ≤ at_ k ∧ at_ k ≤ xh then pls at_ xl xh k ++ [at_ k] else pls at_ xl xh k
theorem pls_len (at_ : Nat → Int) (xl xh : Int) (k : Nat) : 2 ≤ (pls at_ xl xh k).length ∧ (pls at_ xl xh k).length ≤ 2 + k := by
 induction k with
 | zero => simp [pls]
 | succ k ih =>
  simp only [pls]
  split
  ·rw [List.length_append]; simp; omega
  ·omega
theorem pls_mem {at_ : Nat → Int} {xl xh : Int} {P : Int → Prop} (h1 : P xl) (h2 : P xh) : ∀ k, (∀ i, i < k → P (at_ i)) → ∀ p, p ∈ pls at_ xl xh k → P p := by
 intro k
 induction k with
 | zero => intro _ p hp; simp only [pls, List.mem_cons, List.mem_nil_iff, or_false] at hp; rcases hp with rfl | rfl <;> assumption
 | succ k ih =>
  intro h p hp
  simp only [pls] at hp
  split at hp
  ·rcases List.mem_append.1 hp with hp | hp
   ·exact ih (fun i hi => h i (by omega)) p hp
   ·simp only [List.mem_cons, List.mem_nil_iff, or_false] at hp; subst hp; exact h k (by omega)
  ·exact ih (fun i hi => h i (by omega)) p hp
theorem take_next {l : List Int} {j : Nat} (h : j < l.length) : l.take (j + 1) = l.take j ++ [l[j]] := by rw [List.take_succ_eq_append_getElem h]
noncomputable def nxt (at_ : Nat → Int) (n : Nat) (x : Int) : Nat := Classical.choose (next_ex at_ n x)
theorem nxt_is (at_ : Nat → Int) (n : Nat) (x : Int) : Next at_ n x (nxt at_ n x) := Classical.choose_spec (next_ex at_ n x)
theorem Next.uniq {at_ : Nat → Int} {n : Nat} {x : Int} {m m' : Nat} (h : Next at_ n x m) (h' : Next at_ n x m') : m = m' := by
 rcases Nat.lt_trichotomy m m' with c | c | c
 ·have := h'.before m c
  rcases h.stop with e | e
  ·have := h'.le; omega
  ·exact absurd this e
 ·exact c
 ·have := h.before m' c
  rcases h'.stop with e | e
  ·have := h.le; omega
  ·exact absurd this e
theorem rises {n : Nat} {at_ lo hi : Nat → Int} (hR : Right n at_ lo hi) : ∀ (d i : Nat), i + d + 1 < n → at_ i < at_ (i + d + 1) := by
 intro d
 induction d with
 | zero => intro i h; exact hR.up i h
 | succ d ih => intro i h; have := ih i (by omega); have h3 := hR.up (i + d + 1) h; exact Int.lt_trans this h3
theorem next_at {n : Nat} {at_ lo hi : Nat → Int} (hR : Right n at_ lo hi) {i : Nat} (hi' : i < n) : Next at_ n (at_ i) i :=
 ⟨by omega, fun j hj => by
  have := rises hR (i - j - 1) j (by omega)
  rwa [show j + (i - j - 1) + 1 = i by omega] at this, .inr (by omega)⟩
theorem ln_at {n : Nat} {at_ lo hi : Nat → Int} (hR : Right n at_ lo hi) (V : Nat → Int) {i : Nat} (hi' : i < n) : lnL V at_ n i (at_ i) = V i ∧ lnH V at_ n i (at_ i) = V i := by
 unfold lnL lnH
 have hin : ¬ i = n := by omega
 rw [if_neg hin, if_neg hin]
 by_cases h0 : i = 0
 ·rw [if_pos h0, if_pos h0, h0]; exact ⟨rfl, rfl⟩
 ·obtain ⟨j, rfl⟩ : ∃ j, i = j + 1 := ⟨i - 1, by omega⟩
  rw [if_neg h0, if_neg h0, Nat.add_sub_cancel]
  clear hin
  have hup := hR.up j hi'
  have e1 : (V (j + 1) - V j) * (at_ (j + 1) - at_ j) / (at_ (j + 1) - at_ j) = V (j + 1) - V j := Int.mul_ediv_cancel _ (by omega)
  have e2 : cdiv ((V (j + 1) - V j) * (at_ (j + 1) - at_ j)) (at_ (j + 1) - at_ j) = V (j + 1) - V j := by
   unfold cdiv
   rw [← Int.neg_mul, Int.mul_ediv_cancel _ (by omega)]; omega
  rw [e1, e2]
  constructor <;> omega
def mnOf (f : Int → Int) : List Int → Int
 | [] => 0
 | p :: t => t.foldl (fun a q => mi a (f q)) (f p)
def mxOf (f : Int → Int) : List Int → Int
 | [] => 0
 | p :: t => t.foldl (fun a q => mx a (f q)) (f p)
theorem mnOf_snoc (f : Int → Int) (l : List Int) (p : Int) (h : l ≠ []) : mnOf f (l ++ [p]) = mi (mnOf f l) (f p) := by
 cases l with
 | nil => exact absurd rfl h
 | cons a t => simp [mnOf]
theorem mxOf_snoc (f : Int → Int) (l : List Int) (p : Int) (h : l ≠ []) : mxOf f (l ++ [p]) = mx (mxOf f l) (f p) := by
 cases l with
 | nil => exact absurd rfl h
 | cons a t => simp [mxOf]
end
end Go.Proofs.YtcjlpgmhlghdkaaGreat
