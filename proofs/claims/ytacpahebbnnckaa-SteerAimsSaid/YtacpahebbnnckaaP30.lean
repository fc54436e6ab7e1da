/- Packed: Turn2 Turn3 RTurnAny. -/
import Derived.Laws.EntriesVeiled
import Derived.Test.YtacpahebbnnckaaP7
import Derived.Test.YtacpahebbnnckaaP19
import Derived.Test.YtacpahebbnnckaaP21
import Derived.Test.YtacpahebbnnckaaP22
set_option linter.unusedVariables false
set_option linter.unusedSimpArgs false
namespace Go.Proofs.Ytacpahebbnnckaa
section
open Go.RowKit
theorem small34_at (lo hi tm dd : Nat) (q dbl r n : Int) (hq : 0 ≤ q ∧ q ≤ 18446744073709551616) (hd : 0 ≤ dbl ∧ dbl ≤ 8589934592) (hr : r = dbl * 18446744073709551616 / (18446744073709551616 + q)) (n0 : 0 ≤ n) (n1 : n < 562949953421312) :
  AnswersB (HasT lo hi tm dd q dbl) 144 #[.pointer (some ⟨tm, 0, none⟩), .pointer (some ⟨dd, 0, none⟩)] n (decide (n ≤ r)) := by
 intro w hw
 obtain ⟨cl, ch, ct, cd, l1, l2, l3, l4⟩ := hw
 have TM := hide (times_at lo hi q n w hq n0 n1 cl ch)
 have e : decide (n ≤ r) = decide (n * (18446744073709551616 + q) ≤ dbl * 18446744073709551616) := by
  apply decide_eq_decide.2
  rw [hr]
  exact Int.le_ediv_iff_mul_le (by omega)
 rw [e, tm_eq]
 have hL : 0 ≤ tmL n q ∧ tmL n q < 18446744073709551616 := by unfold tmL; omega
 change Calls Try.prog 144 #[.int .u64 n, .pointer (some ⟨tm, 0, none⟩), .pointer (some ⟨dd, 0, none⟩)] w _
 generalize tmH n q = H at *
 generalize tmL n q = L at *
 have hent : ∀ args w, (callFunc 142 args).run Try.prog w = .ok (.enter 142 args) w := enters_of Try.func142 (by kernel_rfl) rfl
 clear e hr cl ch hq n0 n1
 by_cases k1 : H < dbl
 ·rw [show decide (H * 18446744073709551616 + L ≤ dbl * 18446744073709551616) = true from decide_eq_true (by omega)]
  clear hd
  go_enter Try.func144, Try.ntmps144
  go_wp2_with fail
  refine (TM.out).mono ?_
  rintro e w ⟨rfl, rfl⟩
  go_wp2
  go_ret
  exact ⟨rfl, blw_⟩
 ·by_cases k2 : H = dbl
  ·subst k2
   by_cases k3 : L = 0
   ·subst k3
    rw [show decide (H * 18446744073709551616 + 0 ≤ H * 18446744073709551616) = true from decide_eq_true (by omega)]
    clear hd
    go_enter Try.func144, Try.ntmps144
    go_wp2_with fail
    refine (TM.out).mono ?_
    rintro e w ⟨rfl, rfl⟩
    go_wp2
    go_ret
    exact ⟨rfl, blw_⟩
   ·rw [show decide (H * 18446744073709551616 + L ≤ H * 18446744073709551616) = false from decide_eq_false (by omega)]
    have k4 : (L == 0) = false := beq_eq_false_iff_ne.2 k3
    clear hd
    go_enter Try.func144, Try.ntmps144
    go_wp2_with fail
    refine (TM.out).mono ?_
    rintro e w ⟨rfl, rfl⟩
    go_wp2
    go_ret
    exact ⟨by first | rfl | (simp; done), blw_⟩
  ·rw [show decide (H * 18446744073709551616 + L ≤ dbl * 18446744073709551616) = false from decide_eq_false (by omega)]
   have k0 : dbl ≤ H := by omega
   have k4 : (H == dbl) = false := beq_eq_false_iff_ne.2 k2
   clear hd
   go_enter Try.func144, Try.ntmps144
   go_wp2_with fail
   refine (TM.out).mono ?_
   rintro e w ⟨rfl, rfl⟩
   go_wp2
   go_ret
   exact ⟨by first | rfl | (simp; done) | (simp; omega), blw_⟩
set_option maxHeartbeats 4000000 in
theorem turned_any (x t : Int) (hx : Unit1 x) (ht : Unit1 t) (w : World) :
  Calls Try.prog 132 #[.int .i64 x, .int .i64 t] w fun e w' => e = .returned (.tuple #[.agg #[.int .i64 (tuL x t), .int .i64 (tuH x t)], .int .i64 0]) ∧ Below w.heap.size w w' := by
 have ix : I64 x := by obtain ⟨_, _⟩ := hx; constructor <;> omega
 have it : I64 t := by obtain ⟨_, _⟩ := ht; constructor <;> omega
 have SX := hide (size_any x ix)
 have ST := hide (size_any t it)
 have tb := tu_bd hx ht
 have qb := sq_bd ht
 have xa : 0 ≤ ab x ∧ ab x ≤ 4294967296 := by obtain ⟨_, _⟩ := hx; unfold ab; split <;> omega
 have ta : 0 ≤ ab t ∧ ab t ≤ 4294967296 := by obtain ⟨_, _⟩ := ht; unfold ab; split <;> omega
 have qe : ab t * ab t = t * t := by unfold ab; split <;> simp [Int.neg_mul_neg]
 have MU := mul64 (ab t) (ab t) ⟨ta.1, by omega⟩ ⟨ta.1, by omega⟩
 rw [qe] at MU
 have MU' := hide MU
 have hent1 : ∀ args w, (callFunc 142 args).run Try.prog w = .ok (.enter 142 args) w := enters_of Try.func142 (by kernel_rfl) rfl
 have hent2 : ∀ args w, (callFunc 144 args).run Try.prog w = .ok (.enter 144 args) w := enters_of Try.func144 (by kernel_rfl) rfl
 have hr0 : 0 ≤ 2 * ab x * 18446744073709551616 / (18446744073709551616 + t * t) := Int.ediv_nonneg (by omega) (by omega)
 have hr1 : 2 * ab x * 18446744073709551616 / (18446744073709551616 + t * t) ≤ 8589934592 := by
  have : 2 * ab x * 18446744073709551616 / (18446744073709551616 + t * t) < 8589934593 := Int.ediv_lt_of_lt_mul (by omega) (by omega)
  omega
 have GR := hide (fun lo hi tm dd w hw => great34 (HasT lo hi tm dd (t * t) (2 * ab x)) (HasT.kept lo hi tm dd _ _) 144 (.pointer (some ⟨tm, 0, none⟩)) (.pointer (some ⟨dd, 0, none⟩)) hent2 (2 * ab x * 18446744073709551616 / (18446744073709551616 + t * t)) ⟨hr0, by omega⟩ (fun n n0 n1 => small34_at lo hi tm dd (t * t) (2 * ab x) _ n qb ⟨by omega, by omega⟩ rfl n0 n1) w hw)
 have TM := hide (fun lo hi w cl ch => times_at lo hi (t * t) (2 * ab x * 18446744073709551616 / (18446744073709551616 + t * t)) w qb hr0 (by omega) cl ch)
 have hte := tm_eq (2 * ab x * 18446744073709551616 / (18446744073709551616 + t * t)) (t * t)
 have hL : 0 ≤ tmL (2 * ab x * 18446744073709551616 / (18446744073709551616 + t * t)) (t * t) ∧ tmL (2 * ab x * 18446744073709551616 / (18446744073709551616 + t * t)) (t * t) < 18446744073709551616 := by unfold tmL; omega
 have hmod := Int.emod_add_mul_ediv (2 * ab x * 18446744073709551616) (18446744073709551616 + t * t)
 have hS : x * 36893488147419103232 = if decide (x < 0) then -(2 * ab x * 18446744073709551616) else 2 * ab x * 18446744073709551616 := by
  unfold ab; by_cases c : x < 0 <;> simp [c] <;> omega
 have se := share_ends (2 * ab x * 18446744073709551616) (18446744073709551616 + t * t) (x * 36893488147419103232) (decide (x < 0)) (by omega) hS
 have OW := outward_any (decide (x < 0)) (!(2 * ab x * 18446744073709551616 % (18446744073709551616 + t * t) == 0)) (2 * ab x * 18446744073709551616 / (18446744073709551616 + t * t)) (tuL x t) (tuH x t) ⟨hr0, by omega⟩ se.1 se.2
 have ft := out_t (lo := tuL x t) (hi := tuH x t) (decide_eq_true (by omega))
 rw [ft.1, ft.2.1, ft.2.2] at OW
 rw [Int.mul_comm (18446744073709551616 + t * t)] at hmod
 clear se ft hS tb hent1 hent2 ix it qe MU hx ht
 generalize tuL x t = LO at *
 generalize tuH x t = HI at *
 generalize tmH (2 * ab x * 18446744073709551616 / (18446744073709551616 + t * t)) (t * t) = H at *
 generalize tmL (2 * ab x * 18446744073709551616 / (18446744073709551616 + t * t)) (t * t) = L at *
 rw [hte] at hmod
 clear hte
 generalize 2 * ab x * 18446744073709551616 / (18446744073709551616 + t * t) = r at *
 obtain ⟨RR, hRR⟩ : ∃ b, (!(2 * ab x * 18446744073709551616 % (18446744073709551616 + t * t) == 0)) = b := ⟨_, rfl⟩
 rw [hRR] at OW
 generalize 2 * ab x * 18446744073709551616 % (18446744073709551616 + t * t) = m at *
 have hcase : (RR = false ∧ H = 2 * ab x ∧ L = 0) ∨ (RR = true ∧ H = 2 * ab x ∧ ¬ L = 0) ∨ (RR = true ∧ ¬ H = 2 * ab x) := by
  by_cases c : m = 0
  ·left; exact ⟨by rw [← hRR]; simp [c], by omega, by omega⟩
  ·have : RR = true := by rw [← hRR]; simp [c]
   by_cases c2 : H = 2 * ab x
   ·right; left; exact ⟨this, c2, by omega⟩
   ·right; right; exact ⟨this, c2⟩
 clear hRR hmod hL hr1
 generalize ab x = X at *
 generalize ab t = T at *
 generalize t * t = q at *
 rcases hcase with ⟨rfl, k1, k2⟩ | ⟨rfl, k1, k2⟩ | ⟨rfl, k1⟩
 ·subst k2
  have KH : Hid (H = 2 * X) := hide k1
  have OW' := hide OW
  clear OW k1
  go_enter Try.func132, Try.ntmps132
  go_wp2_with fail
  refine (SX.out _).mono ?_
  rintro e w1 ⟨rfl, hb1⟩
  obtain ⟨hc1, hf1⟩ := bcell hb1
  have hz1 := hb1.size
  try simp only [World.size_alloc, World.size_setCell] at hz1
  try have : w.heap.size < w1.heap.size := by omega
  try have : w.heap.size < w1.heap.size + 1 := by omega
  try have : w.heap.size ≤ w1.heap.size := by omega
  have c1_0_0 := zci w1 w.heap.size 0 (0) (by go_simp)
  have g1_0_0 := zfe w1 w.heap.size 0 (by go_simp)
  have c1_0_1 := zci w1 w.heap.size 1 (0) (by go_simp)
  have g1_0_1 := zfe w1 w.heap.size 1 (by go_simp)
  clear hc1 hf1
  go_wp2_with fail
  refine (ST.out _).mono ?_
  rintro e w2 ⟨rfl, hb2⟩
  obtain ⟨hc2, hf2⟩ := bcell hb2
  have hz2 := hb2.size
  try simp only [World.size_alloc, World.size_setCell] at hz2
  try refine zw1 w w2 (by omega) fun _ _ => ?_
  try have : w1.heap.size < w2.heap.size := by omega
  try have : w1.heap.size ≤ w2.heap.size := by omega
  have c2_0_0 := zci w2 w.heap.size 0 (0) (by go_simp)
  have g2_0_0 := zfe w2 w.heap.size 0 (by go_simp)
  have c2_0_1 := zci w2 w.heap.size 1 (0) (by go_simp)
  have g2_0_1 := zfe w2 w.heap.size 1 (by go_simp)
  have c2_1_0 := zcu w2 w1.heap.size 0 (2 * X) (by go_simp)
  clear hc2 hf2 c1_0_0 g1_0_0 c1_0_1 g1_0_1
  go_wp2_with fail
  refine (ST.out _).mono ?_
  rintro e w3 ⟨rfl, hb3⟩
  obtain ⟨hc3, hf3⟩ := bcell hb3
  have hz3 := hb3.size
  try simp only [World.size_alloc, World.size_setCell] at hz3
  try refine zw1 w w3 (by omega) fun _ _ => ?_
  try have : w1.heap.size < w3.heap.size := by omega
  try have : w1.heap.size ≤ w3.heap.size := by omega
  have c3_0_0 := zci w3 w.heap.size 0 (0) (by go_simp)
  have g3_0_0 := zfe w3 w.heap.size 0 (by go_simp)
  have c3_0_1 := zci w3 w.heap.size 1 (0) (by go_simp)
  have g3_0_1 := zfe w3 w.heap.size 1 (by go_simp)
  have c3_1_0 := zcu w3 w1.heap.size 0 (2 * X) (by go_simp)
  clear hc3 hf3 c2_0_0 g2_0_0 c2_0_1 g2_0_1 c2_1_0
  go_wp2_with fail
  refine (MU'.out _).mono ?_
  rintro e w3 ⟨rfl, rfl⟩
  go_wp2_with fail
  have : w.heap.size < w3.heap.size := by omega
  have : w.heap.size < w3.heap.size + 1 := by omega
  have : w.heap.size < w3.heap.size + 1 + 1 := by omega
  have : w.heap.size < w3.heap.size + 1 + 1 + 1 := by omega
  have : w1.heap.size < w3.heap.size := by omega
  have : w1.heap.size < w3.heap.size + 1 := by omega
  have : w1.heap.size < w3.heap.size + 1 + 1 := by omega
  have : w1.heap.size < w3.heap.size + 1 + 1 + 1 := by omega
  refine (GR.out (w3.heap.size + 1) w3.heap.size (w3.heap.size + 1 + 1) w1.heap.size _ ⟨by go_simp, by go_simp, by go_simp, by go_simp, by simp <;> omega, by simp <;> omega, by simp <;> omega, by simp <;> omega⟩).mono ?_
  rintro e w4 ⟨rfl, hb4⟩
  obtain ⟨hc4, hf4⟩ := bcell hb4
  have hz4 := hb4.size
  simp only [World.size_alloc, World.size_setCell] at hz4
  have zz : w.heap.size < w4.heap.size ∧ w1.heap.size < w4.heap.size ∧ w3.heap.size < w4.heap.size ∧ w3.heap.size + 1 < w4.heap.size ∧ w3.heap.size + 1 + 1 < w4.heap.size := by omega
  obtain ⟨zz1, zz2, zz3, zz4, zz5⟩ := zz
  have c4a := zci w4 w.heap.size 0 0 (by go_simp)
  have c4b := zci w4 w.heap.size 1 0 (by go_simp)
  have g4a := zfe w4 w.heap.size 0 (by go_simp)
  have g4b := zfe w4 w.heap.size 1 (by go_simp)
  have c4c := zcu w4 w1.heap.size 0 (2 * X) (by go_simp)
  have c4d := zcu w4 w3.heap.size 0 (q / 18446744073709551616) (by go_simp)
  have c4e := zcu w4 (w3.heap.size + 1) 0 (q % 18446744073709551616) (by go_simp)
  have c4f := zce w4 (w3.heap.size + 1 + 1) 0 (.func (Fn.func 142) #[] #[.pointer (some ⟨w3.heap.size + 1, 0, none⟩), .pointer (some ⟨w3.heap.size, 0, none⟩)]) (by go_simp)
  clear hc4 hf4
  go_wp2_with fail
  refine (TM.out (w3.heap.size + 1) w3.heap.size _ (by go_simp) (by go_simp)).mono ?_
  rintro e w4' ⟨rfl, rfl⟩
  try rw [KH.out]
  go_wp2_with fail
  refine (OW'.out _).mono ?_
  rintro e w5 ⟨rfl, hb5⟩
  obtain ⟨hc5, hf5⟩ := bcell hb5
  have hz5 := hb5.size
  try simp only [World.size_alloc, World.size_setCell] at hz5
  try refine zw1 w w5 (by omega) fun _ _ => ?_
  have c5_0_0 := zci w5 w.heap.size 0 (0) (by go_simp)
  have g5_0_0 := zfe w5 w.heap.size 0 (by go_simp)
  have c5_0_1 := zci w5 w.heap.size 1 (0) (by go_simp)
  have g5_0_1 := zfe w5 w.heap.size 1 (by go_simp)
  clear hc5 hf5
  go_wp2
  refine bodyPost_ret (v := .tuple #[.agg #[.int .i64 (LO), .int .i64 (HI)], .int .i64 0]) (by simp only [results, Try.results132]; go_simp) rfl ⟨rfl, blw_⟩
 ·have k3 : (L != 0) = true := bne_iff_ne.2 k2
  have KH : Hid (H = 2 * X) := hide k1
  have OW' := hide OW
  clear OW k1 k2
  go_enter Try.func132, Try.ntmps132
  go_wp2_with fail
  refine (SX.out _).mono ?_
  rintro e w1 ⟨rfl, hb1⟩
  obtain ⟨hc1, hf1⟩ := bcell hb1
  have hz1 := hb1.size
  try simp only [World.size_alloc, World.size_setCell] at hz1
  try have : w.heap.size < w1.heap.size := by omega
  try have : w.heap.size < w1.heap.size + 1 := by omega
  try have : w.heap.size ≤ w1.heap.size := by omega
  have c1_0_0 := zci w1 w.heap.size 0 (0) (by go_simp)
  have g1_0_0 := zfe w1 w.heap.size 0 (by go_simp)
  have c1_0_1 := zci w1 w.heap.size 1 (0) (by go_simp)
  have g1_0_1 := zfe w1 w.heap.size 1 (by go_simp)
  clear hc1 hf1
  go_wp2_with fail
  refine (ST.out _).mono ?_
  rintro e w2 ⟨rfl, hb2⟩
  obtain ⟨hc2, hf2⟩ := bcell hb2
  have hz2 := hb2.size
  try simp only [World.size_alloc, World.size_setCell] at hz2
  try refine zw1 w w2 (by omega) fun _ _ => ?_
  try have : w1.heap.size < w2.heap.size := by omega
  try have : w1.heap.size ≤ w2.heap.size := by omega
  have c2_0_0 := zci w2 w.heap.size 0 (0) (by go_simp)
  have g2_0_0 := zfe w2 w.heap.size 0 (by go_simp)
  have c2_0_1 := zci w2 w.heap.size 1 (0) (by go_simp)
  have g2_0_1 := zfe w2 w.heap.size 1 (by go_simp)
  have c2_1_0 := zcu w2 w1.heap.size 0 (2 * X) (by go_simp)
  clear hc2 hf2 c1_0_0 g1_0_0 c1_0_1 g1_0_1
  go_wp2_with fail
  refine (ST.out _).mono ?_
  rintro e w3 ⟨rfl, hb3⟩
  obtain ⟨hc3, hf3⟩ := bcell hb3
  have hz3 := hb3.size
  try simp only [World.size_alloc, World.size_setCell] at hz3
  try refine zw1 w w3 (by omega) fun _ _ => ?_
  try have : w1.heap.size < w3.heap.size := by omega
  try have : w1.heap.size ≤ w3.heap.size := by omega
  have c3_0_0 := zci w3 w.heap.size 0 (0) (by go_simp)
  have g3_0_0 := zfe w3 w.heap.size 0 (by go_simp)
  have c3_0_1 := zci w3 w.heap.size 1 (0) (by go_simp)
  have g3_0_1 := zfe w3 w.heap.size 1 (by go_simp)
  have c3_1_0 := zcu w3 w1.heap.size 0 (2 * X) (by go_simp)
  clear hc3 hf3 c2_0_0 g2_0_0 c2_0_1 g2_0_1 c2_1_0
  go_wp2_with fail
  refine (MU'.out _).mono ?_
  rintro e w3 ⟨rfl, rfl⟩
  go_wp2_with fail
  have : w.heap.size < w3.heap.size := by omega
  have : w.heap.size < w3.heap.size + 1 := by omega
  have : w.heap.size < w3.heap.size + 1 + 1 := by omega
  have : w.heap.size < w3.heap.size + 1 + 1 + 1 := by omega
  have : w1.heap.size < w3.heap.size := by omega
  have : w1.heap.size < w3.heap.size + 1 := by omega
  have : w1.heap.size < w3.heap.size + 1 + 1 := by omega
  have : w1.heap.size < w3.heap.size + 1 + 1 + 1 := by omega
  refine (GR.out (w3.heap.size + 1) w3.heap.size (w3.heap.size + 1 + 1) w1.heap.size _ ⟨by go_simp, by go_simp, by go_simp, by go_simp, by simp <;> omega, by simp <;> omega, by simp <;> omega, by simp <;> omega⟩).mono ?_
  rintro e w4 ⟨rfl, hb4⟩
  obtain ⟨hc4, hf4⟩ := bcell hb4
  have hz4 := hb4.size
  simp only [World.size_alloc, World.size_setCell] at hz4
  have zz : w.heap.size < w4.heap.size ∧ w1.heap.size < w4.heap.size ∧ w3.heap.size < w4.heap.size ∧ w3.heap.size + 1 < w4.heap.size ∧ w3.heap.size + 1 + 1 < w4.heap.size := by omega
  obtain ⟨zz1, zz2, zz3, zz4, zz5⟩ := zz
  have c4a := zci w4 w.heap.size 0 0 (by go_simp)
  have c4b := zci w4 w.heap.size 1 0 (by go_simp)
  have g4a := zfe w4 w.heap.size 0 (by go_simp)
  have g4b := zfe w4 w.heap.size 1 (by go_simp)
  have c4c := zcu w4 w1.heap.size 0 (2 * X) (by go_simp)
  have c4d := zcu w4 w3.heap.size 0 (q / 18446744073709551616) (by go_simp)
  have c4e := zcu w4 (w3.heap.size + 1) 0 (q % 18446744073709551616) (by go_simp)
  have c4f := zce w4 (w3.heap.size + 1 + 1) 0 (.func (Fn.func 142) #[] #[.pointer (some ⟨w3.heap.size + 1, 0, none⟩), .pointer (some ⟨w3.heap.size, 0, none⟩)]) (by go_simp)
  clear hc4 hf4
  go_wp2_with fail
  refine (TM.out (w3.heap.size + 1) w3.heap.size _ (by go_simp) (by go_simp)).mono ?_
  rintro e w4' ⟨rfl, rfl⟩
  try rw [KH.out]
  go_wp2_with fail
  refine (OW'.out _).mono ?_
  rintro e w5 ⟨rfl, hb5⟩
  obtain ⟨hc5, hf5⟩ := bcell hb5
  have hz5 := hb5.size
  try simp only [World.size_alloc, World.size_setCell] at hz5
  try refine zw1 w w5 (by omega) fun _ _ => ?_
  have c5_0_0 := zci w5 w.heap.size 0 (0) (by go_simp)
  have g5_0_0 := zfe w5 w.heap.size 0 (by go_simp)
  have c5_0_1 := zci w5 w.heap.size 1 (0) (by go_simp)
  have g5_0_1 := zfe w5 w.heap.size 1 (by go_simp)
  clear hc5 hf5
  go_wp2
  refine bodyPost_ret (v := .tuple #[.agg #[.int .i64 (LO), .int .i64 (HI)], .int .i64 0]) (by simp only [results, Try.results132]; go_simp) rfl ⟨rfl, blw_⟩
 ·have k3 : (H != 2 * X) = true := bne_iff_ne.2 k1
  have KH : Hid (H = H) := hide rfl
  have OW' := hide OW
  clear OW k1
  go_enter Try.func132, Try.ntmps132
  go_wp2_with fail
  refine (SX.out _).mono ?_
  rintro e w1 ⟨rfl, hb1⟩
  obtain ⟨hc1, hf1⟩ := bcell hb1
  have hz1 := hb1.size
  try simp only [World.size_alloc, World.size_setCell] at hz1
  try have : w.heap.size < w1.heap.size := by omega
  try have : w.heap.size < w1.heap.size + 1 := by omega
  try have : w.heap.size ≤ w1.heap.size := by omega
  have c1_0_0 := zci w1 w.heap.size 0 (0) (by go_simp)
  have g1_0_0 := zfe w1 w.heap.size 0 (by go_simp)
  have c1_0_1 := zci w1 w.heap.size 1 (0) (by go_simp)
  have g1_0_1 := zfe w1 w.heap.size 1 (by go_simp)
  clear hc1 hf1
  go_wp2_with fail
  refine (ST.out _).mono ?_
  rintro e w2 ⟨rfl, hb2⟩
  obtain ⟨hc2, hf2⟩ := bcell hb2
  have hz2 := hb2.size
  try simp only [World.size_alloc, World.size_setCell] at hz2
  try refine zw1 w w2 (by omega) fun _ _ => ?_
  try have : w1.heap.size < w2.heap.size := by omega
  try have : w1.heap.size ≤ w2.heap.size := by omega
  have c2_0_0 := zci w2 w.heap.size 0 (0) (by go_simp)
  have g2_0_0 := zfe w2 w.heap.size 0 (by go_simp)
  have c2_0_1 := zci w2 w.heap.size 1 (0) (by go_simp)
  have g2_0_1 := zfe w2 w.heap.size 1 (by go_simp)
  have c2_1_0 := zcu w2 w1.heap.size 0 (2 * X) (by go_simp)
  clear hc2 hf2 c1_0_0 g1_0_0 c1_0_1 g1_0_1
  go_wp2_with fail
  refine (ST.out _).mono ?_
  rintro e w3 ⟨rfl, hb3⟩
  obtain ⟨hc3, hf3⟩ := bcell hb3
  have hz3 := hb3.size
  try simp only [World.size_alloc, World.size_setCell] at hz3
  try refine zw1 w w3 (by omega) fun _ _ => ?_
  try have : w1.heap.size < w3.heap.size := by omega
  try have : w1.heap.size ≤ w3.heap.size := by omega
  have c3_0_0 := zci w3 w.heap.size 0 (0) (by go_simp)
  have g3_0_0 := zfe w3 w.heap.size 0 (by go_simp)
  have c3_0_1 := zci w3 w.heap.size 1 (0) (by go_simp)
  have g3_0_1 := zfe w3 w.heap.size 1 (by go_simp)
  have c3_1_0 := zcu w3 w1.heap.size 0 (2 * X) (by go_simp)
  clear hc3 hf3 c2_0_0 g2_0_0 c2_0_1 g2_0_1 c2_1_0
  go_wp2_with fail
  refine (MU'.out _).mono ?_
  rintro e w3 ⟨rfl, rfl⟩
  go_wp2_with fail
  have : w.heap.size < w3.heap.size := by omega
  have : w.heap.size < w3.heap.size + 1 := by omega
  have : w.heap.size < w3.heap.size + 1 + 1 := by omega
  have : w.heap.size < w3.heap.size + 1 + 1 + 1 := by omega
  have : w1.heap.size < w3.heap.size := by omega
  have : w1.heap.size < w3.heap.size + 1 := by omega
  have : w1.heap.size < w3.heap.size + 1 + 1 := by omega
  have : w1.heap.size < w3.heap.size + 1 + 1 + 1 := by omega
  refine (GR.out (w3.heap.size + 1) w3.heap.size (w3.heap.size + 1 + 1) w1.heap.size _ ⟨by go_simp, by go_simp, by go_simp, by go_simp, by simp <;> omega, by simp <;> omega, by simp <;> omega, by simp <;> omega⟩).mono ?_
  rintro e w4 ⟨rfl, hb4⟩
  obtain ⟨hc4, hf4⟩ := bcell hb4
  have hz4 := hb4.size
  simp only [World.size_alloc, World.size_setCell] at hz4
  have zz : w.heap.size < w4.heap.size ∧ w1.heap.size < w4.heap.size ∧ w3.heap.size < w4.heap.size ∧ w3.heap.size + 1 < w4.heap.size ∧ w3.heap.size + 1 + 1 < w4.heap.size := by omega
  obtain ⟨zz1, zz2, zz3, zz4, zz5⟩ := zz
  have c4a := zci w4 w.heap.size 0 0 (by go_simp)
  have c4b := zci w4 w.heap.size 1 0 (by go_simp)
  have g4a := zfe w4 w.heap.size 0 (by go_simp)
  have g4b := zfe w4 w.heap.size 1 (by go_simp)
  have c4c := zcu w4 w1.heap.size 0 (2 * X) (by go_simp)
  have c4d := zcu w4 w3.heap.size 0 (q / 18446744073709551616) (by go_simp)
  have c4e := zcu w4 (w3.heap.size + 1) 0 (q % 18446744073709551616) (by go_simp)
  have c4f := zce w4 (w3.heap.size + 1 + 1) 0 (.func (Fn.func 142) #[] #[.pointer (some ⟨w3.heap.size + 1, 0, none⟩), .pointer (some ⟨w3.heap.size, 0, none⟩)]) (by go_simp)
  clear hc4 hf4
  go_wp2_with fail
  refine (TM.out (w3.heap.size + 1) w3.heap.size _ (by go_simp) (by go_simp)).mono ?_
  rintro e w4' ⟨rfl, rfl⟩
  try rw [KH.out]
  go_wp2_with fail
  refine (OW'.out _).mono ?_
  rintro e w5 ⟨rfl, hb5⟩
  obtain ⟨hc5, hf5⟩ := bcell hb5
  have hz5 := hb5.size
  try simp only [World.size_alloc, World.size_setCell] at hz5
  try refine zw1 w w5 (by omega) fun _ _ => ?_
  have c5_0_0 := zci w5 w.heap.size 0 (0) (by go_simp)
  have g5_0_0 := zfe w5 w.heap.size 0 (by go_simp)
  have c5_0_1 := zci w5 w.heap.size 1 (0) (by go_simp)
  have g5_0_1 := zfe w5 w.heap.size 1 (by go_simp)
  clear hc5 hf5
  go_wp2
  refine bodyPost_ret (v := .tuple #[.agg #[.int .i64 (LO), .int .i64 (HI)], .int .i64 0]) (by simp only [results, Try.results132]; go_simp) rfl ⟨rfl, blw_⟩
theorem cosine_any (t : Int) (ht : Unit1 t) (w : World) :
  Calls Try.prog 106 #[.int .i64 t] w fun e w' => e = .returned (.tuple #[.agg #[.int .i64 (tuL 4294967296 t - 4294967296), .int .i64 (tuH 4294967296 t - 4294967296)], .int .i64 0]) ∧ Below w.heap.size w w' := by
 have TU := hide (turned_any 4294967296 t ⟨by omega, by omega⟩ ht)
 obtain ⟨b1, b2, b3⟩ := tu_bd (x := 4294967296) (t := t) ⟨by omega, by omega⟩ ht
 clear ht
 generalize tuL 4294967296 t = L at *
 generalize tuH 4294967296 t = H at *
 go_enter Try.func106, Try.ntmps106
 go_wp2_with fail
 refine (TU.out _).mono ?_
 rintro e w1 ⟨rfl, hb1⟩
 obtain ⟨hc1, hf1⟩ := bcell hb1
 have hz1 := hb1.size
 try simp only [World.size_alloc, World.size_setCell] at hz1
 try have : w.heap.size < w1.heap.size := by omega
 try have : w.heap.size < w1.heap.size + 1 := by omega
 try have : w.heap.size ≤ w1.heap.size := by omega
 have c1_0_0 := zci w1 w.heap.size 0 (0) (by go_simp)
 have g1_0_0 := zfe w1 w.heap.size 0 (by go_simp)
 have c1_0_1 := zci w1 w.heap.size 1 (0) (by go_simp)
 have g1_0_1 := zfe w1 w.heap.size 1 (by go_simp)
 clear hc1 hf1
 go_wp2
 refine bodyPost_ret (v := .tuple #[.agg #[.int .i64 (L - 4294967296), .int .i64 (H - 4294967296)], .int .i64 0]) (by simp only [results, Try.results106]; go_simp) rfl ⟨rfl, blw_⟩
theorem sine_any (t : Int) (ht : Unit1 t) (w : World) :
  Calls Try.prog 107 #[.int .i64 t] w fun e w' => e = .returned (.tuple #[.agg #[.int .i64 (tuL t t), .int .i64 (tuH t t)], .int .i64 0]) ∧ Below w.heap.size w w' := by
 have TU := hide (turned_any t t ht ht)
 clear ht
 generalize tuL t t = L at *
 generalize tuH t t = H at *
 go_enter Try.func107, Try.ntmps107
 go_wp2_with fail
 refine (TU.out _).mono ?_
 rintro e w1 ⟨rfl, hb1⟩
 obtain ⟨hc1, hf1⟩ := bcell hb1
 have hz1 := hb1.size
 try simp only [World.size_alloc, World.size_setCell] at hz1
 try refine zw1 w w1 (by omega) fun _ _ => ?_
 have c1_0_0 := zci w1 w.heap.size 0 (0) (by go_simp)
 have g1_0_0 := zfe w1 w.heap.size 0 (by go_simp)
 have c1_0_1 := zci w1 w.heap.size 1 (0) (by go_simp)
 have g1_0_1 := zfe w1 w.heap.size 1 (by go_simp)
 clear hc1 hf1
 go_wp2
 refine bodyPost_ret (v := .tuple #[.agg #[.int .i64 (L), .int .i64 (H)], .int .i64 0]) (by simp only [results, Try.results107]; go_simp) rfl ⟨rfl, blw_⟩
end
section
open Go.RowKit
theorem en_fall {l1 h1 l2 h2 : Int} (s : Bool) (a : l2 ≤ l1) (b : h2 ≤ h1) (h : s = true → l1 = l2 ∧ h1 = h2) : enL l1 0 l2 0 s = l2 ∧ enH h1 0 h2 0 s = h1 ∧ enE 0 0 s = 0 := by
 cases s
 ·simp [enL, enH, enE, mi, mx]; omega
 ·obtain ⟨rfl, rfl⟩ := h rfl
  simp [enL, enH, enE]
theorem en_rise {l1 h1 l2 h2 : Int} (s : Bool) (a : l1 ≤ l2) (b : h1 ≤ h2) (h : s = true → l1 = l2 ∧ h1 = h2) : enL l1 0 l2 0 s = l1 ∧ enH h1 0 h2 0 s = h2 ∧ enE 0 0 s = 0 := by
 cases s
 ·simp [enL, enH, enE, mi, mx]; omega
 ·obtain ⟨rfl, rfl⟩ := h rfl
  simp [enL, enH, enE]
theorem ends_cos {sl sh : Int} (f1 : 0 ≤ sl) (f2 : sl ≤ sh) (hH : sh ≤ 4294967296) (w : World) :
  Calls Try.prog 105 #[.agg #[.int .i64 (sl), .int .i64 (sh)], .func (Fn.func 106) #[] #[]] w fun e w' => e = .returned (.tuple #[.agg #[.int .i64 (tuL 4294967296 sh - 4294967296), .int .i64 (tuH 4294967296 sl - 4294967296)], .int .i64 0]) ∧ Below w.heap.size w w' := by
 have ul : Unit1 sl := ⟨by omega, by omega⟩
 have uh : Unit1 sh := ⟨by omega, by omega⟩
 obtain ⟨m1, m2⟩ := cos_anti f1 f2 hH
 have EC := ends_0 (fun _ => True) ⟨fun _ _ => trivial⟩ 106 (enters_of Try.func106 (by kernel_rfl) rfl) sl sh _ _ _ _ _ _ (fun w _ => cosine_any sl ul w) (fun w _ => cosine_any sh uh w) w trivial
 obtain ⟨c1, c2, c3⟩ := en_fall (l1 := tuL 4294967296 sl - 4294967296) (h1 := tuH 4294967296 sl - 4294967296) (l2 := tuL 4294967296 sh - 4294967296) (h2 := tuH 4294967296 sh - 4294967296) (sl == sh) (by omega) (by omega) (fun h => by rw [eq_of_beq h]; exact ⟨rfl, rfl⟩)
 rw [c1, c2, c3] at EC
 exact EC
theorem ends_sin {al ah : Int} (ua : Unit1 al) (ub : Unit1 ah) (v : al ≤ ah) (w : World) :
  Calls Try.prog 105 #[.agg #[.int .i64 (al), .int .i64 (ah)], .func (Fn.func 107) #[] #[]] w fun e w' => e = .returned (.tuple #[.agg #[.int .i64 (tuL al al), .int .i64 (tuH ah ah)], .int .i64 0]) ∧ Below w.heap.size w w' := by
 obtain ⟨m1, m2⟩ := sin_mono ua ub v
 have EC := ends_0 (fun _ => True) ⟨fun _ _ => trivial⟩ 107 (enters_of Try.func107 (by kernel_rfl) rfl) al ah _ _ _ _ _ _ (fun w _ => sine_any al ua w) (fun w _ => sine_any ah ub w) w trivial
 obtain ⟨c1, c2, c3⟩ := en_rise (l1 := tuL al al) (h1 := tuH al al) (l2 := tuL ah ah) (h2 := tuH ah ah) (al == ah) m1 m2 (fun h => by rw [eq_of_beq h]; exact ⟨rfl, rfl⟩)
 rw [c1, c2, c3] at EC
 exact EC
def tnB (al ah : Int) : Bool := vB al ah && decide (-4294967296 ≤ al ∧ ah ≤ 4294967296)
def tnE (al ah : Int) : Int := if vB al ah then (if -4294967296 ≤ al ∧ ah ≤ 4294967296 then 0 else 4) else 2
def tcL (al ah : Int) : Int := tuL 4294967296 (absH al ah) - 4294967296
def tcH (al ah : Int) : Int := tuH 4294967296 (absL al ah) - 4294967296
set_option maxHeartbeats 4000000 in
set_option maxRecDepth 100000 in
theorem turn_any (al ah : Int) (i0 : I64 al) (i1 : I64 ah) (w : World) :
  Calls Try.prog 64 #[.agg #[.int .i64 (al), .int .i64 (ah)]] w fun e w' => e = .returned (.tuple #[.agg #[.int .i64 (okI (tnB al ah) (tcL al ah)), .int .i64 (okI (tnB al ah) (tcH al ah))], .agg #[.int .i64 (okI (tnB al ah) (tuL al al)), .int .i64 (okI (tnB al ah) (tuH ah ah))], .int .i64 (tnE al ah)]) ∧ Below w.heap.size w w' := by
 have AB := abs_any al ah i0 i1
 cases hv : vB al ah
 ·have e1 : tnB al ah = false := by simp [tnB, hv]
  have e2 : tnE al ah = 2 := by simp [tnE, hv]
  rw [hv] at AB
  rw [e1, e2, ok_f, ok_f, ok_f, ok_f]
  simp only [ok_f, err_f] at AB
  have AB' := hide AB
  clear AB hv e1 e2 i0 i1
  go_enter Try.func64, Try.ntmps64
  go_wp2_with fail
  refine (AB'.out _).mono ?_
  rintro e w1 ⟨rfl, hb1⟩
  obtain ⟨hc1, hf1⟩ := bcell hb1
  have hz1 := hb1.size
  try simp only [World.size_alloc, World.size_setCell] at hz1
  try refine zw3 w w1 (by omega) fun _ _ _ _ _ _ => ?_
  have c1_0_0 := zci w1 w.heap.size 0 (al) (by go_simp)
  have c1_0_1 := zci w1 w.heap.size 1 (ah) (by go_simp)
  have c1_1_0 := zci w1 (w.heap.size + 1) 0 (0) (by go_simp)
  have g1_1_0 := zfe w1 (w.heap.size + 1) 0 (by go_simp)
  have c1_1_1 := zci w1 (w.heap.size + 1) 1 (0) (by go_simp)
  have g1_1_1 := zfe w1 (w.heap.size + 1) 1 (by go_simp)
  have c1_2_0 := zci w1 (w.heap.size + 1 + 1) 0 (0) (by go_simp)
  have g1_2_0 := zfe w1 (w.heap.size + 1 + 1) 0 (by go_simp)
  have c1_2_1 := zci w1 (w.heap.size + 1 + 1) 1 (0) (by go_simp)
  have g1_2_1 := zfe w1 (w.heap.size + 1 + 1) 1 (by go_simp)
  clear hc1 hf1
  go_wp2
  refine bodyPost_ret (v := .tuple #[.agg #[.int .i64 (0), .int .i64 (0)], .agg #[.int .i64 (0), .int .i64 (0)], .int .i64 2]) (by simp only [results, Try.results64]; go_simp) rfl ⟨rfl, blw_⟩
 ·obtain ⟨v1, v2⟩ := vB_tt hv
  obtain ⟨f1, f2, f3⟩ := abs_facts i0 i1 hv
  rw [hv] at AB
  simp only [ok_t, err_t] at AB
  have AB' := hide AB
  clear AB
  by_cases c : -4294967296 ≤ al ∧ ah ≤ 4294967296
  ·have e1 : tnB al ah = true := by unfold tnB; rw [hv, decide_eq_true c]; rfl
   have e2 : tnE al ah = 0 := by simp [tnE, hv, c]
   have hH : absH al ah ≤ 4294967296 := by unfold absH mx; split <;> (try split) <;> (try split) <;> omega
   rw [e1, e2, ok_t, ok_t, ok_t, ok_t]
   unfold tcL tcH
   have ua : Unit1 al := ⟨by omega, by omega⟩
   have ub : Unit1 ah := ⟨by omega, by omega⟩
   have ul : Unit1 (absL al ah) := ⟨by omega, by omega⟩
   have uh : Unit1 (absH al ah) := ⟨by omega, by omega⟩
   have EC' := hide (fun w => ends_cos f1 f2 hH w)
   have ES' := hide (fun w => ends_sin ua ub v2 w)
   clear ua ub ul uh e1 e2 c v1 v2 hv i0 i1 f1 f2 f3
   generalize tuL 4294967296 (absH al ah) - 4294967296 = r1 at *
   generalize tuH 4294967296 (absL al ah) - 4294967296 = r2 at *
   generalize tuL al al = r3 at *
   generalize tuH ah ah = r4 at *
   generalize absL al ah = sl at *
   generalize absH al ah = sh at *
   go_enter Try.func64, Try.ntmps64
   go_wp2_with fail
   refine (AB'.out _).mono ?_
   rintro e w1 ⟨rfl, hb1⟩
   obtain ⟨hc1, hf1⟩ := bcell hb1
   have hz1 := hb1.size
   try simp only [World.size_alloc, World.size_setCell] at hz1
   try have : w.heap.size < w1.heap.size := by omega
   try have : w.heap.size < w1.heap.size + 1 := by omega
   try have : w.heap.size ≤ w1.heap.size := by omega
   try have : w.heap.size + 1 < w1.heap.size := by omega
   try have : w.heap.size + 1 < w1.heap.size + 1 := by omega
   try have : w.heap.size + 1 ≤ w1.heap.size := by omega
   try have : w.heap.size + 1 + 1 < w1.heap.size := by omega
   try have : w.heap.size + 1 + 1 < w1.heap.size + 1 := by omega
   try have : w.heap.size + 1 + 1 ≤ w1.heap.size := by omega
   have c1_0_0 := zci w1 w.heap.size 0 (al) (by go_simp)
   have c1_0_1 := zci w1 w.heap.size 1 (ah) (by go_simp)
   have c1_1_0 := zci w1 (w.heap.size + 1) 0 (0) (by go_simp)
   have g1_1_0 := zfe w1 (w.heap.size + 1) 0 (by go_simp)
   have c1_1_1 := zci w1 (w.heap.size + 1) 1 (0) (by go_simp)
   have g1_1_1 := zfe w1 (w.heap.size + 1) 1 (by go_simp)
   have c1_2_0 := zci w1 (w.heap.size + 1 + 1) 0 (0) (by go_simp)
   have g1_2_0 := zfe w1 (w.heap.size + 1 + 1) 0 (by go_simp)
   have c1_2_1 := zci w1 (w.heap.size + 1 + 1) 1 (0) (by go_simp)
   have g1_2_1 := zfe w1 (w.heap.size + 1 + 1) 1 (by go_simp)
   clear hc1 hf1
   go_wp2_with fail
   refine (EC'.out _).mono ?_
   rintro e w2 ⟨rfl, hb2⟩
   obtain ⟨hc2, hf2⟩ := bcell hb2
   have hz2 := hb2.size
   try simp only [World.size_alloc, World.size_setCell] at hz2
   try refine zw3 w w2 (by omega) fun _ _ _ _ _ _ => ?_
   try have : w1.heap.size < w2.heap.size := by omega
   try have : w1.heap.size ≤ w2.heap.size := by omega
   have c2_0_0 := zci w2 w.heap.size 0 (al) (by go_simp)
   have c2_0_1 := zci w2 w.heap.size 1 (ah) (by go_simp)
   have c2_1_0 := zci w2 (w.heap.size + 1) 0 (0) (by go_simp)
   have g2_1_0 := zfe w2 (w.heap.size + 1) 0 (by go_simp)
   have c2_1_1 := zci w2 (w.heap.size + 1) 1 (0) (by go_simp)
   have g2_1_1 := zfe w2 (w.heap.size + 1) 1 (by go_simp)
   have c2_2_0 := zci w2 (w.heap.size + 1 + 1) 0 (0) (by go_simp)
   have g2_2_0 := zfe w2 (w.heap.size + 1 + 1) 0 (by go_simp)
   have c2_2_1 := zci w2 (w.heap.size + 1 + 1) 1 (0) (by go_simp)
   have g2_2_1 := zfe w2 (w.heap.size + 1 + 1) 1 (by go_simp)
   have c2_3_0 := zci w2 w1.heap.size 0 (sl) (by go_simp)
   have c2_3_1 := zci w2 w1.heap.size 1 (sh) (by go_simp)
   clear hc2 hf2 c1_0_0 c1_0_1 c1_1_0 g1_1_0 c1_1_1 g1_1_1 c1_2_0 g1_2_0 c1_2_1 g1_2_1
   go_wp2_with fail
   refine (ES'.out _).mono ?_
   rintro e w3 ⟨rfl, hb3⟩
   obtain ⟨hc3, hf3⟩ := bcell hb3
   have hz3 := hb3.size
   try simp only [World.size_alloc, World.size_setCell] at hz3
   try refine zw3 w w3 (by omega) fun _ _ _ _ _ _ => ?_
   try have : w1.heap.size < w3.heap.size := by omega
   try have : w1.heap.size ≤ w3.heap.size := by omega
   have c3_0_0 := zci w3 w.heap.size 0 (al) (by go_simp)
   have c3_0_1 := zci w3 w.heap.size 1 (ah) (by go_simp)
   have c3_1_0 := zci w3 (w.heap.size + 1) 0 (r1) (by go_simp)
   have g3_1_0 := zfe w3 (w.heap.size + 1) 0 (by go_simp)
   have c3_1_1 := zci w3 (w.heap.size + 1) 1 (r2) (by go_simp)
   have g3_1_1 := zfe w3 (w.heap.size + 1) 1 (by go_simp)
   have c3_2_0 := zci w3 (w.heap.size + 1 + 1) 0 (0) (by go_simp)
   have g3_2_0 := zfe w3 (w.heap.size + 1 + 1) 0 (by go_simp)
   have c3_2_1 := zci w3 (w.heap.size + 1 + 1) 1 (0) (by go_simp)
   have g3_2_1 := zfe w3 (w.heap.size + 1 + 1) 1 (by go_simp)
   have c3_3_0 := zci w3 w1.heap.size 0 (sl) (by go_simp)
   have c3_3_1 := zci w3 w1.heap.size 1 (sh) (by go_simp)
   clear hc3 hf3 c2_0_0 c2_0_1 c2_1_0 g2_1_0 c2_1_1 g2_1_1 c2_2_0 g2_2_0 c2_2_1 g2_2_1 c2_3_0 c2_3_1
   go_wp2_with fail
   have hP8 : Pair w (w.heap.size + 1) (w.heap.size + 1 + 1) r1 r2 r3 r4 ((w3.setCell ⟨w.heap.size + 1 + 1, 0, none⟩ (.int .i64 r3)).setCell ⟨w.heap.size + 1 + 1, 1, none⟩ (.int .i64 r4)) := ⟨blw_, by go_simp, by go_simp, by go_simp, by go_simp, by go_simp, by go_simp, by go_simp, by go_simp⟩
   refine QF.region_float_ex 2 43 (fun _ => Pair w (w.heap.size + 1) (w.heap.size + 1 + 1) r1 r2 r3 r4) _ (by kernel_rfl) (by kernel_rfl) rfl rfl rfl (⟨hP8.below.drew, hP8.c1, hP8.c2, hP8.c3, hP8.c4, hP8.f1, hP8.f2, hP8.f3, hP8.f4⟩) ?_
   apply Exists.intro
   refine ⟨fun j => ?h1, ?hf, ?ht⟩
   case h1 =>
    simp only [List.take_succ_cons, List.take_zero, List.drop_succ_cons, List.drop_zero]
    repeat (first
     | go_big_quiet_skip
     | (go_big_quiet_want; go_big_quiet_op; first
      | go_big_quiet_on
      | (apply Exists.intro
         refine ⟨fun _ => ?_, ?_⟩
         ·first
          | rfl
          | (intro hC; obtain ⟨k0, k1, k2, k3, k4, k5, k6, k7, k8⟩ := hC; go_simp; done)
          | (intro hC; obtain ⟨k0, k1, k2, k3, k4, k5, k6, k7, k8⟩ := hC; go_simp; rfl)
          | (intro hC; have hcq := bcellG hC; go_simp; done)
          | (intro hC; have hcq := bcellG hC; go_simp; rfl)
         go_big_quiet_on)))
    exact wpQuiet_nil rfl
   case hf =>
    intro w8 hP7
    have hm8 := hP7.stored (by simp) (by omega)
    obtain ⟨k0, k1, k2, k3, k4, k5, k6, k7, k8⟩ := hP7
    go_simp
    simpa [QF.floatRes] using hm8
   case ht =>
    intro u9 w9 hP7
    simp only [List.drop_succ_cons, List.drop_zero]
    have hP9 := hP7.stored2 (by simp) (by omega)
    obtain ⟨k0, k1, k2, k3, k4, k5, k6, k7, k8⟩ := hP7
    go_wp2
    obtain ⟨hb9, j1, j2, j3, j4, j5, j6, j7, j8⟩ := hP9
    refine bodyPost_ret (v := .tuple #[.agg #[.int .i64 (r1), .int .i64 (r2)], .agg #[.int .i64 (r3), .int .i64 (r4)], .int .i64 0]) (by simp only [results, Try.results64]; go_simp) rfl ⟨rfl, hb9⟩
  ·have e1 : tnB al ah = false := by unfold tnB; rw [hv, decide_eq_false c]; rfl
   have e2 : tnE al ah = 4 := by simp [tnE, hv, c]
   have hH : 4294967296 < absH al ah := by unfold absH mx; split <;> (try split) <;> (try split) <;> omega
   rw [e1, e2, ok_f, ok_f, ok_f, ok_f]
   clear hv e1 e2 i0 i1 c f1 f2 f3 v1 v2
   generalize absL al ah = sl at *
   generalize absH al ah = sh at *
   go_enter Try.func64, Try.ntmps64
   go_wp2_with fail
   refine (AB'.out _).mono ?_
   rintro e w1 ⟨rfl, hb1⟩
   obtain ⟨hc1, hf1⟩ := bcell hb1
   have hz1 := hb1.size
   try simp only [World.size_alloc, World.size_setCell] at hz1
   try have : w.heap.size < w1.heap.size := by omega
   try have : w.heap.size < w1.heap.size + 1 := by omega
   try have : w.heap.size ≤ w1.heap.size := by omega
   try have : w.heap.size + 1 < w1.heap.size := by omega
   try have : w.heap.size + 1 < w1.heap.size + 1 := by omega
   try have : w.heap.size + 1 ≤ w1.heap.size := by omega
   try have : w.heap.size + 1 + 1 < w1.heap.size := by omega
   try have : w.heap.size + 1 + 1 < w1.heap.size + 1 := by omega
   try have : w.heap.size + 1 + 1 ≤ w1.heap.size := by omega
   have c1_0_0 := zci w1 w.heap.size 0 (al) (by go_simp)
   have c1_0_1 := zci w1 w.heap.size 1 (ah) (by go_simp)
   have c1_1_0 := zci w1 (w.heap.size + 1) 0 (0) (by go_simp)
   have g1_1_0 := zfe w1 (w.heap.size + 1) 0 (by go_simp)
   have c1_1_1 := zci w1 (w.heap.size + 1) 1 (0) (by go_simp)
   have g1_1_1 := zfe w1 (w.heap.size + 1) 1 (by go_simp)
   have c1_2_0 := zci w1 (w.heap.size + 1 + 1) 0 (0) (by go_simp)
   have g1_2_0 := zfe w1 (w.heap.size + 1 + 1) 0 (by go_simp)
   have c1_2_1 := zci w1 (w.heap.size + 1 + 1) 1 (0) (by go_simp)
   have g1_2_1 := zfe w1 (w.heap.size + 1 + 1) 1 (by go_simp)
   clear hc1 hf1
   go_wp2
   refine bodyPost_ret (v := .tuple #[.agg #[.int .i64 (0), .int .i64 (0)], .agg #[.int .i64 (0), .int .i64 (0)], .int .i64 4]) (by simp only [results, Try.results64]; go_simp) rfl ⟨rfl, blw_⟩
end
section
open Go.RowKit
set_option maxHeartbeats 4000000 in
set_option maxRecDepth 100000 in
theorem rturn_any (al ah : Int) (i0 : I64 al) (i1 : I64 ah) (w : World) :
  Calls Try.prog 21 #[.agg #[.int .i64 (al), .int .i64 (ah)]] w fun e w' => e = .returned (.tuple #[.agg #[.int .i64 (okI (tnB al ah) (tcL al ah)), .int .i64 (okI (tnB al ah) (tcH al ah))], .agg #[.int .i64 (okI (tnB al ah) (tuL al al)), .int .i64 (okI (tnB al ah) (tuH ah ah))], .int .i64 (tnE al ah)]) ∧ Below w.heap.size w w' := by
 have AB := rabs_any al ah i0 i1
 cases hv : vB al ah
 ·have e1 : tnB al ah = false := by simp [tnB, hv]
  have e2 : tnE al ah = 2 := by simp [tnE, hv]
  have HV := hide (show chkI al ah = 2 by simp [chkI, hv])
  rw [e1, e2, ok_f, ok_f, ok_f, ok_f]
  clear AB hv e1 e2 i0 i1
  go_enter Try.func21, Try.ntmps21
  go_wp2_with fail
  refine (rcheck al ah 2 HV.out _).mono ?_
  rintro e w1 ⟨rfl, hb1⟩
  obtain ⟨hc1, hf1⟩ := bcell hb1
  have hz1 := hb1.size
  try simp only [World.size_alloc, World.size_setCell] at hz1
  try refine zw3 w w1 (by omega) fun _ _ _ _ _ _ => ?_
  have c1_0_0 := zci w1 w.heap.size 0 (al) (by go_simp)
  have c1_0_1 := zci w1 w.heap.size 1 (ah) (by go_simp)
  have c1_1_0 := zci w1 (w.heap.size + 1) 0 (0) (by go_simp)
  have g1_1_0 := zfe w1 (w.heap.size + 1) 0 (by go_simp)
  have c1_1_1 := zci w1 (w.heap.size + 1) 1 (0) (by go_simp)
  have g1_1_1 := zfe w1 (w.heap.size + 1) 1 (by go_simp)
  have c1_2_0 := zci w1 (w.heap.size + 1 + 1) 0 (0) (by go_simp)
  have g1_2_0 := zfe w1 (w.heap.size + 1 + 1) 0 (by go_simp)
  have c1_2_1 := zci w1 (w.heap.size + 1 + 1) 1 (0) (by go_simp)
  have g1_2_1 := zfe w1 (w.heap.size + 1 + 1) 1 (by go_simp)
  clear hc1 hf1
  go_wp2
  refine bodyPost_ret (v := .tuple #[.agg #[.int .i64 (0), .int .i64 (0)], .agg #[.int .i64 (0), .int .i64 (0)], .int .i64 2]) (by simp only [results, Try.results21]; go_simp) rfl ⟨rfl, blw_⟩
 ·obtain ⟨v1, v2⟩ := vB_tt hv
  obtain ⟨f1, f2, f3⟩ := abs_facts i0 i1 hv
  have HV := hide (show chkI al ah = 0 by simp [chkI, hv])
  rw [hv] at AB
  simp only [ok_t, err_t] at AB
  have AB' := hide AB
  clear AB
  by_cases c0 : al < -4294967296
  ·have e1 : tnB al ah = false := by unfold tnB; rw [hv, decide_eq_false (by omega)]; rfl
   have e2 : tnE al ah = 4 := by unfold tnE; rw [hv, if_pos rfl, if_neg (by omega)]
   rw [e1, e2, ok_f, ok_f, ok_f, ok_f]
   clear AB' hv e1 e2 i0 i1 f1 f2 f3 v1 v2
   go_enter Try.func21, Try.ntmps21
   go_wp2_with fail
   refine (rcheck al ah 0 HV.out _).mono ?_
   rintro e w1 ⟨rfl, hb1⟩
   obtain ⟨hc1, hf1⟩ := bcell hb1
   have hz1 := hb1.size
   try simp only [World.size_alloc, World.size_setCell] at hz1
   try refine zw3 w w1 (by omega) fun _ _ _ _ _ _ => ?_
   have c1_0_0 := zci w1 w.heap.size 0 (al) (by go_simp)
   have c1_0_1 := zci w1 w.heap.size 1 (ah) (by go_simp)
   have c1_1_0 := zci w1 (w.heap.size + 1) 0 (0) (by go_simp)
   have g1_1_0 := zfe w1 (w.heap.size + 1) 0 (by go_simp)
   have c1_1_1 := zci w1 (w.heap.size + 1) 1 (0) (by go_simp)
   have g1_1_1 := zfe w1 (w.heap.size + 1) 1 (by go_simp)
   have c1_2_0 := zci w1 (w.heap.size + 1 + 1) 0 (0) (by go_simp)
   have g1_2_0 := zfe w1 (w.heap.size + 1 + 1) 0 (by go_simp)
   have c1_2_1 := zci w1 (w.heap.size + 1 + 1) 1 (0) (by go_simp)
   have g1_2_1 := zfe w1 (w.heap.size + 1 + 1) 1 (by go_simp)
   clear hc1 hf1
   go_wp2
   refine bodyPost_ret (v := .tuple #[.agg #[.int .i64 (0), .int .i64 (0)], .agg #[.int .i64 (0), .int .i64 (0)], .int .i64 4]) (by simp only [results, Try.results21]; go_simp) rfl ⟨rfl, blw_⟩
  ·by_cases c1 : 4294967296 < ah
   ·have e1 : tnB al ah = false := by unfold tnB; rw [hv, decide_eq_false (by omega)]; rfl
    have e2 : tnE al ah = 4 := by unfold tnE; rw [hv, if_pos rfl, if_neg (by omega)]
    rw [e1, e2, ok_f, ok_f, ok_f, ok_f]
    clear AB' hv e1 e2 i0 i1 f1 f2 f3 v1 v2
    go_enter Try.func21, Try.ntmps21
    go_wp2_with fail
    refine (rcheck al ah 0 HV.out _).mono ?_
    rintro e w1 ⟨rfl, hb1⟩
    obtain ⟨hc1, hf1⟩ := bcell hb1
    have hz1 := hb1.size
    try simp only [World.size_alloc, World.size_setCell] at hz1
    try refine zw3 w w1 (by omega) fun _ _ _ _ _ _ => ?_
    have c1_0_0 := zci w1 w.heap.size 0 (al) (by go_simp)
    have c1_0_1 := zci w1 w.heap.size 1 (ah) (by go_simp)
    have c1_1_0 := zci w1 (w.heap.size + 1) 0 (0) (by go_simp)
    have g1_1_0 := zfe w1 (w.heap.size + 1) 0 (by go_simp)
    have c1_1_1 := zci w1 (w.heap.size + 1) 1 (0) (by go_simp)
    have g1_1_1 := zfe w1 (w.heap.size + 1) 1 (by go_simp)
    have c1_2_0 := zci w1 (w.heap.size + 1 + 1) 0 (0) (by go_simp)
    have g1_2_0 := zfe w1 (w.heap.size + 1 + 1) 0 (by go_simp)
    have c1_2_1 := zci w1 (w.heap.size + 1 + 1) 1 (0) (by go_simp)
    have g1_2_1 := zfe w1 (w.heap.size + 1 + 1) 1 (by go_simp)
    clear hc1 hf1
    go_wp2
    refine bodyPost_ret (v := .tuple #[.agg #[.int .i64 (0), .int .i64 (0)], .agg #[.int .i64 (0), .int .i64 (0)], .int .i64 4]) (by simp only [results, Try.results21]; go_simp) rfl ⟨rfl, blw_⟩
   ·have c : -4294967296 ≤ al ∧ ah ≤ 4294967296 := by omega
    have e1 : tnB al ah = true := by unfold tnB; rw [hv, decide_eq_true c]; rfl
    have e2 : tnE al ah = 0 := by unfold tnE; rw [hv, if_pos rfl, if_pos c]
    have hH : absH al ah ≤ 4294967296 := by unfold absH mx; split <;> (try split) <;> (try split) <;> omega
    rw [e1, e2, ok_t, ok_t, ok_t, ok_t]
    unfold tcL tcH
    have ua : Unit1 al := ⟨by omega, by omega⟩
    have ub : Unit1 ah := ⟨by omega, by omega⟩
    have ul : Unit1 (absL al ah) := ⟨by omega, by omega⟩
    have uh : Unit1 (absH al ah) := ⟨by omega, by omega⟩
    have T1 := hide (rturned_any (absL al ah) ul)
    have T2 := hide (rturned_any (absH al ah) uh)
    have T3 := hide (rturned_any al ua)
    have T4 := hide (rturned_any ah ub)
    have RC := rout (tuL 4294967296 (absH al ah) - 4294967296) (tuH 4294967296 (absL al ah) - 4294967296)
    have RS := rout (tuL al al) (tuH ah ah)
    have b1 := tu_bd (x := 4294967296) ⟨by omega, by omega⟩ ul
    have b2 := tu_bd (x := 4294967296) ⟨by omega, by omega⟩ uh
    have b3 := tu_bd ua ua
    have b4 := tu_bd ub ub
    have ft := out_t (lo := tuL 4294967296 (absH al ah) - 4294967296) (hi := tuH 4294967296 (absL al ah) - 4294967296) (decide_eq_true (by omega))
    have ft2 := out_t (lo := tuL al al) (hi := tuH ah ah) (decide_eq_true (by omega))
    rw [ft.1, ft.2.1, ft.2.2] at RC
    rw [ft2.1, ft2.2.1, ft2.2.2] at RS
    have RC' := hide RC
    have RS' := hide RS
    clear RC RS b1 b2 b3 b4 ft ft2 ua ub ul uh e1 e2 c v1 v2 hv i0 i1 f1 f2 f3 hH
    generalize tuL 4294967296 (absH al ah) - 4294967296 = r1 at *
    generalize tuH 4294967296 (absH al ah) - 4294967296 = r1' at *
    generalize tuL 4294967296 (absL al ah) - 4294967296 = r2' at *
    generalize tuH 4294967296 (absL al ah) - 4294967296 = r2 at *
    generalize tuL (absL al ah) (absL al ah) = j1 at *
    generalize tuH (absL al ah) (absL al ah) = j2 at *
    generalize tuL (absH al ah) (absH al ah) = j3 at *
    generalize tuH (absH al ah) (absH al ah) = j4 at *
    generalize tuL 4294967296 al - 4294967296 = k1 at *
    generalize tuH 4294967296 al - 4294967296 = k2 at *
    generalize tuL 4294967296 ah - 4294967296 = k3 at *
    generalize tuH 4294967296 ah - 4294967296 = k4 at *
    generalize tuL al al = r3 at *
    generalize tuH al al = r3' at *
    generalize tuL ah ah = r4' at *
    generalize tuH ah ah = r4 at *
    generalize absL al ah = sl at *
    generalize absH al ah = sh at *
    go_enter Try.func21, Try.ntmps21
    go_wp2_with fail
    refine (rcheck al ah 0 HV.out _).mono ?_
    rintro e w1 ⟨rfl, hb1⟩
    obtain ⟨hc1, hf1⟩ := bcell hb1
    have hz1 := hb1.size
    try simp only [World.size_alloc, World.size_setCell] at hz1
    try refine zw3 w w1 (by omega) fun _ _ _ _ _ _ => ?_
    have c1_0_0 := zci w1 w.heap.size 0 (al) (by go_simp)
    have c1_0_1 := zci w1 w.heap.size 1 (ah) (by go_simp)
    have c1_1_0 := zci w1 (w.heap.size + 1) 0 (0) (by go_simp)
    have g1_1_0 := zfe w1 (w.heap.size + 1) 0 (by go_simp)
    have c1_1_1 := zci w1 (w.heap.size + 1) 1 (0) (by go_simp)
    have g1_1_1 := zfe w1 (w.heap.size + 1) 1 (by go_simp)
    have c1_2_0 := zci w1 (w.heap.size + 1 + 1) 0 (0) (by go_simp)
    have g1_2_0 := zfe w1 (w.heap.size + 1 + 1) 0 (by go_simp)
    have c1_2_1 := zci w1 (w.heap.size + 1 + 1) 1 (0) (by go_simp)
    have g1_2_1 := zfe w1 (w.heap.size + 1 + 1) 1 (by go_simp)
    clear hc1 hf1
    go_wp2_with fail
    refine (AB'.out _).mono ?_
    rintro e w2 ⟨rfl, hb2⟩
    obtain ⟨hc2, hf2⟩ := bcell hb2
    have hz2 := hb2.size
    try simp only [World.size_alloc, World.size_setCell] at hz2
    try have : w.heap.size < w2.heap.size := by omega
    try have : w.heap.size < w2.heap.size + 1 := by omega
    try have : w.heap.size ≤ w2.heap.size := by omega
    try have : w.heap.size + 1 < w2.heap.size := by omega
    try have : w.heap.size + 1 < w2.heap.size + 1 := by omega
    try have : w.heap.size + 1 ≤ w2.heap.size := by omega
    try have : w.heap.size + 1 + 1 < w2.heap.size := by omega
    try have : w.heap.size + 1 + 1 < w2.heap.size + 1 := by omega
    try have : w.heap.size + 1 + 1 ≤ w2.heap.size := by omega
    have c2_0_0 := zci w2 w.heap.size 0 (al) (by go_simp)
    have c2_0_1 := zci w2 w.heap.size 1 (ah) (by go_simp)
    have c2_1_0 := zci w2 (w.heap.size + 1) 0 (0) (by go_simp)
    have g2_1_0 := zfe w2 (w.heap.size + 1) 0 (by go_simp)
    have c2_1_1 := zci w2 (w.heap.size + 1) 1 (0) (by go_simp)
    have g2_1_1 := zfe w2 (w.heap.size + 1) 1 (by go_simp)
    have c2_2_0 := zci w2 (w.heap.size + 1 + 1) 0 (0) (by go_simp)
    have g2_2_0 := zfe w2 (w.heap.size + 1 + 1) 0 (by go_simp)
    have c2_2_1 := zci w2 (w.heap.size + 1 + 1) 1 (0) (by go_simp)
    have g2_2_1 := zfe w2 (w.heap.size + 1 + 1) 1 (by go_simp)
    clear hc2 hf2 c1_0_0 c1_0_1 c1_1_0 g1_1_0 c1_1_1 g1_1_1 c1_2_0 g1_2_0 c1_2_1 g1_2_1
    go_wp2_with fail
    refine (T1.out _).mono ?_
    rintro e w3 ⟨rfl, hb3⟩
    obtain ⟨hc3, hf3⟩ := bcell hb3
    have hz3 := hb3.size
    try simp only [World.size_alloc, World.size_setCell] at hz3
    try have : w.heap.size < w3.heap.size := by omega
    try have : w.heap.size < w3.heap.size + 1 := by omega
    try have : w.heap.size < w3.heap.size + 1 + 1 := by omega
    try have : w.heap.size < w3.heap.size + 1 + 1 + 1 := by omega
    try have : w.heap.size < w3.heap.size + 1 + 1 + 1 + 1 := by omega
    try have : w.heap.size ≤ w3.heap.size := by omega
    try have : w.heap.size + 1 < w3.heap.size := by omega
    try have : w.heap.size + 1 < w3.heap.size + 1 := by omega
    try have : w.heap.size + 1 < w3.heap.size + 1 + 1 := by omega
    try have : w.heap.size + 1 < w3.heap.size + 1 + 1 + 1 := by omega
    try have : w.heap.size + 1 < w3.heap.size + 1 + 1 + 1 + 1 := by omega
    try have : w.heap.size + 1 ≤ w3.heap.size := by omega
    try have : w.heap.size + 1 + 1 < w3.heap.size := by omega
    try have : w.heap.size + 1 + 1 < w3.heap.size + 1 := by omega
    try have : w.heap.size + 1 + 1 < w3.heap.size + 1 + 1 := by omega
    try have : w.heap.size + 1 + 1 < w3.heap.size + 1 + 1 + 1 := by omega
    try have : w.heap.size + 1 + 1 < w3.heap.size + 1 + 1 + 1 + 1 := by omega
    try have : w.heap.size + 1 + 1 ≤ w3.heap.size := by omega
    try have : w2.heap.size < w3.heap.size := by omega
    try have : w2.heap.size < w3.heap.size + 1 := by omega
    try have : w2.heap.size < w3.heap.size + 1 + 1 := by omega
    try have : w2.heap.size < w3.heap.size + 1 + 1 + 1 := by omega
    try have : w2.heap.size < w3.heap.size + 1 + 1 + 1 + 1 := by omega
    try have : w2.heap.size ≤ w3.heap.size := by omega
    have c3_0_0 := zci w3 w.heap.size 0 (al) (by go_simp)
    have c3_0_1 := zci w3 w.heap.size 1 (ah) (by go_simp)
    have c3_1_0 := zci w3 (w.heap.size + 1) 0 (0) (by go_simp)
    have g3_1_0 := zfe w3 (w.heap.size + 1) 0 (by go_simp)
    have c3_1_1 := zci w3 (w.heap.size + 1) 1 (0) (by go_simp)
    have g3_1_1 := zfe w3 (w.heap.size + 1) 1 (by go_simp)
    have c3_2_0 := zci w3 (w.heap.size + 1 + 1) 0 (0) (by go_simp)
    have g3_2_0 := zfe w3 (w.heap.size + 1 + 1) 0 (by go_simp)
    have c3_2_1 := zci w3 (w.heap.size + 1 + 1) 1 (0) (by go_simp)
    have g3_2_1 := zfe w3 (w.heap.size + 1 + 1) 1 (by go_simp)
    have c3_3_0 := zci w3 w2.heap.size 0 (sl) (by go_simp)
    have c3_3_1 := zci w3 w2.heap.size 1 (sh) (by go_simp)
    clear hc3 hf3 c2_0_0 c2_0_1 c2_1_0 g2_1_0 c2_1_1 g2_1_1 c2_2_0 g2_2_0 c2_2_1 g2_2_1
    go_wp2_with fail
    refine (T2.out _).mono ?_
    rintro e w4 ⟨rfl, hb4⟩
    obtain ⟨hc4, hf4⟩ := bcell hb4
    have hz4 := hb4.size
    try simp only [World.size_alloc, World.size_setCell] at hz4
    try have : w.heap.size < w4.heap.size := by omega
    try have : w.heap.size < w4.heap.size + 1 := by omega
    try have : w.heap.size < w4.heap.size + 1 + 1 := by omega
    try have : w.heap.size < w4.heap.size + 1 + 1 + 1 := by omega
    try have : w.heap.size < w4.heap.size + 1 + 1 + 1 + 1 := by omega
    try have : w.heap.size ≤ w4.heap.size := by omega
    try have : w.heap.size + 1 < w4.heap.size := by omega
    try have : w.heap.size + 1 < w4.heap.size + 1 := by omega
    try have : w.heap.size + 1 < w4.heap.size + 1 + 1 := by omega
    try have : w.heap.size + 1 < w4.heap.size + 1 + 1 + 1 := by omega
    try have : w.heap.size + 1 < w4.heap.size + 1 + 1 + 1 + 1 := by omega
    try have : w.heap.size + 1 ≤ w4.heap.size := by omega
    try have : w.heap.size + 1 + 1 < w4.heap.size := by omega
    try have : w.heap.size + 1 + 1 < w4.heap.size + 1 := by omega
    try have : w.heap.size + 1 + 1 < w4.heap.size + 1 + 1 := by omega
    try have : w.heap.size + 1 + 1 < w4.heap.size + 1 + 1 + 1 := by omega
    try have : w.heap.size + 1 + 1 < w4.heap.size + 1 + 1 + 1 + 1 := by omega
    try have : w.heap.size + 1 + 1 ≤ w4.heap.size := by omega
    try have : w2.heap.size < w4.heap.size := by omega
    try have : w2.heap.size < w4.heap.size + 1 := by omega
    try have : w2.heap.size < w4.heap.size + 1 + 1 := by omega
    try have : w2.heap.size < w4.heap.size + 1 + 1 + 1 := by omega
    try have : w2.heap.size < w4.heap.size + 1 + 1 + 1 + 1 := by omega
    try have : w2.heap.size ≤ w4.heap.size := by omega
    try have : w3.heap.size < w4.heap.size := by omega
    try have : w3.heap.size < w4.heap.size + 1 := by omega
    try have : w3.heap.size < w4.heap.size + 1 + 1 := by omega
    try have : w3.heap.size < w4.heap.size + 1 + 1 + 1 := by omega
    try have : w3.heap.size < w4.heap.size + 1 + 1 + 1 + 1 := by omega
    try have : w3.heap.size ≤ w4.heap.size := by omega
    try have : w3.heap.size + 1 < w4.heap.size := by omega
    try have : w3.heap.size + 1 < w4.heap.size + 1 := by omega
    try have : w3.heap.size + 1 < w4.heap.size + 1 + 1 := by omega
    try have : w3.heap.size + 1 < w4.heap.size + 1 + 1 + 1 := by omega
    try have : w3.heap.size + 1 < w4.heap.size + 1 + 1 + 1 + 1 := by omega
    try have : w3.heap.size + 1 ≤ w4.heap.size := by omega
    try have : w3.heap.size + 1 + 1 < w4.heap.size := by omega
    try have : w3.heap.size + 1 + 1 < w4.heap.size + 1 := by omega
    try have : w3.heap.size + 1 + 1 < w4.heap.size + 1 + 1 := by omega
    try have : w3.heap.size + 1 + 1 < w4.heap.size + 1 + 1 + 1 := by omega
    try have : w3.heap.size + 1 + 1 < w4.heap.size + 1 + 1 + 1 + 1 := by omega
    try have : w3.heap.size + 1 + 1 ≤ w4.heap.size := by omega
    try have : w3.heap.size + 1 + 1 + 1 < w4.heap.size := by omega
    try have : w3.heap.size + 1 + 1 + 1 < w4.heap.size + 1 := by omega
    try have : w3.heap.size + 1 + 1 + 1 < w4.heap.size + 1 + 1 := by omega
    try have : w3.heap.size + 1 + 1 + 1 < w4.heap.size + 1 + 1 + 1 := by omega
    try have : w3.heap.size + 1 + 1 + 1 < w4.heap.size + 1 + 1 + 1 + 1 := by omega
    try have : w3.heap.size + 1 + 1 + 1 ≤ w4.heap.size := by omega
    have c4_0_0 := zci w4 w.heap.size 0 (al) (by go_simp)
    have c4_0_1 := zci w4 w.heap.size 1 (ah) (by go_simp)
    have c4_1_0 := zci w4 (w.heap.size + 1) 0 (0) (by go_simp)
    have g4_1_0 := zfe w4 (w.heap.size + 1) 0 (by go_simp)
    have c4_1_1 := zci w4 (w.heap.size + 1) 1 (0) (by go_simp)
    have g4_1_1 := zfe w4 (w.heap.size + 1) 1 (by go_simp)
    have c4_2_0 := zci w4 (w.heap.size + 1 + 1) 0 (0) (by go_simp)
    have g4_2_0 := zfe w4 (w.heap.size + 1 + 1) 0 (by go_simp)
    have c4_2_1 := zci w4 (w.heap.size + 1 + 1) 1 (0) (by go_simp)
    have g4_2_1 := zfe w4 (w.heap.size + 1 + 1) 1 (by go_simp)
    have c4_3_0 := zci w4 w2.heap.size 0 (sl) (by go_simp)
    have c4_3_1 := zci w4 w2.heap.size 1 (sh) (by go_simp)
    have c4_4_0 := zci w4 (w3.heap.size + 1) 0 (wH (r2)) (by go_simp)
    have c4_4_1 := zcu w4 (w3.heap.size + 1) 1 (wL (r2)) (by go_simp)
    clear hc4 hf4 c3_0_0 c3_0_1 c3_1_0 g3_1_0 c3_1_1 g3_1_1 c3_2_0 g3_2_0 c3_2_1 g3_2_1 c3_3_0 c3_3_1
    go_wp2_with fail
    refine (T3.out _).mono ?_
    rintro e w5 ⟨rfl, hb5⟩
    obtain ⟨hc5, hf5⟩ := bcell hb5
    have hz5 := hb5.size
    try simp only [World.size_alloc, World.size_setCell] at hz5
    try have : w.heap.size < w5.heap.size := by omega
    try have : w.heap.size < w5.heap.size + 1 := by omega
    try have : w.heap.size < w5.heap.size + 1 + 1 := by omega
    try have : w.heap.size < w5.heap.size + 1 + 1 + 1 := by omega
    try have : w.heap.size < w5.heap.size + 1 + 1 + 1 + 1 := by omega
    try have : w.heap.size ≤ w5.heap.size := by omega
    try have : w.heap.size + 1 < w5.heap.size := by omega
    try have : w.heap.size + 1 < w5.heap.size + 1 := by omega
    try have : w.heap.size + 1 < w5.heap.size + 1 + 1 := by omega
    try have : w.heap.size + 1 < w5.heap.size + 1 + 1 + 1 := by omega
    try have : w.heap.size + 1 < w5.heap.size + 1 + 1 + 1 + 1 := by omega
    try have : w.heap.size + 1 ≤ w5.heap.size := by omega
    try have : w.heap.size + 1 + 1 < w5.heap.size := by omega
    try have : w.heap.size + 1 + 1 < w5.heap.size + 1 := by omega
    try have : w.heap.size + 1 + 1 < w5.heap.size + 1 + 1 := by omega
    try have : w.heap.size + 1 + 1 < w5.heap.size + 1 + 1 + 1 := by omega
    try have : w.heap.size + 1 + 1 < w5.heap.size + 1 + 1 + 1 + 1 := by omega
    try have : w.heap.size + 1 + 1 ≤ w5.heap.size := by omega
    try have : w2.heap.size < w5.heap.size := by omega
    try have : w2.heap.size < w5.heap.size + 1 := by omega
    try have : w2.heap.size < w5.heap.size + 1 + 1 := by omega
    try have : w2.heap.size < w5.heap.size + 1 + 1 + 1 := by omega
    try have : w2.heap.size < w5.heap.size + 1 + 1 + 1 + 1 := by omega
    try have : w2.heap.size ≤ w5.heap.size := by omega
    try have : w3.heap.size < w5.heap.size := by omega
    try have : w3.heap.size < w5.heap.size + 1 := by omega
    try have : w3.heap.size < w5.heap.size + 1 + 1 := by omega
    try have : w3.heap.size < w5.heap.size + 1 + 1 + 1 := by omega
    try have : w3.heap.size < w5.heap.size + 1 + 1 + 1 + 1 := by omega
    try have : w3.heap.size ≤ w5.heap.size := by omega
    try have : w3.heap.size + 1 < w5.heap.size := by omega
    try have : w3.heap.size + 1 < w5.heap.size + 1 := by omega
    try have : w3.heap.size + 1 < w5.heap.size + 1 + 1 := by omega
    try have : w3.heap.size + 1 < w5.heap.size + 1 + 1 + 1 := by omega
    try have : w3.heap.size + 1 < w5.heap.size + 1 + 1 + 1 + 1 := by omega
    try have : w3.heap.size + 1 ≤ w5.heap.size := by omega
    try have : w3.heap.size + 1 + 1 < w5.heap.size := by omega
    try have : w3.heap.size + 1 + 1 < w5.heap.size + 1 := by omega
    try have : w3.heap.size + 1 + 1 < w5.heap.size + 1 + 1 := by omega
    try have : w3.heap.size + 1 + 1 < w5.heap.size + 1 + 1 + 1 := by omega
    try have : w3.heap.size + 1 + 1 < w5.heap.size + 1 + 1 + 1 + 1 := by omega
    try have : w3.heap.size + 1 + 1 ≤ w5.heap.size := by omega
    try have : w3.heap.size + 1 + 1 + 1 < w5.heap.size := by omega
    try have : w3.heap.size + 1 + 1 + 1 < w5.heap.size + 1 := by omega
    try have : w3.heap.size + 1 + 1 + 1 < w5.heap.size + 1 + 1 := by omega
    try have : w3.heap.size + 1 + 1 + 1 < w5.heap.size + 1 + 1 + 1 := by omega
    try have : w3.heap.size + 1 + 1 + 1 < w5.heap.size + 1 + 1 + 1 + 1 := by omega
    try have : w3.heap.size + 1 + 1 + 1 ≤ w5.heap.size := by omega
    try have : w4.heap.size < w5.heap.size := by omega
    try have : w4.heap.size < w5.heap.size + 1 := by omega
    try have : w4.heap.size < w5.heap.size + 1 + 1 := by omega
    try have : w4.heap.size < w5.heap.size + 1 + 1 + 1 := by omega
    try have : w4.heap.size < w5.heap.size + 1 + 1 + 1 + 1 := by omega
    try have : w4.heap.size ≤ w5.heap.size := by omega
    try have : w4.heap.size + 1 < w5.heap.size := by omega
    try have : w4.heap.size + 1 < w5.heap.size + 1 := by omega
    try have : w4.heap.size + 1 < w5.heap.size + 1 + 1 := by omega
    try have : w4.heap.size + 1 < w5.heap.size + 1 + 1 + 1 := by omega
    try have : w4.heap.size + 1 < w5.heap.size + 1 + 1 + 1 + 1 := by omega
    try have : w4.heap.size + 1 ≤ w5.heap.size := by omega
    try have : w4.heap.size + 1 + 1 < w5.heap.size := by omega
    try have : w4.heap.size + 1 + 1 < w5.heap.size + 1 := by omega
    try have : w4.heap.size + 1 + 1 < w5.heap.size + 1 + 1 := by omega
    try have : w4.heap.size + 1 + 1 < w5.heap.size + 1 + 1 + 1 := by omega
    try have : w4.heap.size + 1 + 1 < w5.heap.size + 1 + 1 + 1 + 1 := by omega
    try have : w4.heap.size + 1 + 1 ≤ w5.heap.size := by omega
    try have : w4.heap.size + 1 + 1 + 1 < w5.heap.size := by omega
    try have : w4.heap.size + 1 + 1 + 1 < w5.heap.size + 1 := by omega
    try have : w4.heap.size + 1 + 1 + 1 < w5.heap.size + 1 + 1 := by omega
    try have : w4.heap.size + 1 + 1 + 1 < w5.heap.size + 1 + 1 + 1 := by omega
    try have : w4.heap.size + 1 + 1 + 1 < w5.heap.size + 1 + 1 + 1 + 1 := by omega
    try have : w4.heap.size + 1 + 1 + 1 ≤ w5.heap.size := by omega
    have c5_0_0 := zci w5 w.heap.size 0 (al) (by go_simp)
    have c5_0_1 := zci w5 w.heap.size 1 (ah) (by go_simp)
    have c5_1_0 := zci w5 (w.heap.size + 1) 0 (0) (by go_simp)
    have g5_1_0 := zfe w5 (w.heap.size + 1) 0 (by go_simp)
    have c5_1_1 := zci w5 (w.heap.size + 1) 1 (0) (by go_simp)
    have g5_1_1 := zfe w5 (w.heap.size + 1) 1 (by go_simp)
    have c5_2_0 := zci w5 (w.heap.size + 1 + 1) 0 (0) (by go_simp)
    have g5_2_0 := zfe w5 (w.heap.size + 1 + 1) 0 (by go_simp)
    have c5_2_1 := zci w5 (w.heap.size + 1 + 1) 1 (0) (by go_simp)
    have g5_2_1 := zfe w5 (w.heap.size + 1 + 1) 1 (by go_simp)
    have c5_3_0 := zci w5 w2.heap.size 0 (sl) (by go_simp)
    have c5_3_1 := zci w5 w2.heap.size 1 (sh) (by go_simp)
    have c5_4_0 := zci w5 (w3.heap.size + 1) 0 (wH (r2)) (by go_simp)
    have c5_4_1 := zcu w5 (w3.heap.size + 1) 1 (wL (r2)) (by go_simp)
    have c5_5_0 := zci w5 w4.heap.size 0 (wH (r1)) (by go_simp)
    have c5_5_1 := zcu w5 w4.heap.size 1 (wL (r1)) (by go_simp)
    clear hc5 hf5 c4_0_0 c4_0_1 c4_1_0 g4_1_0 c4_1_1 g4_1_1 c4_2_0 g4_2_0 c4_2_1 g4_2_1 c4_3_0 c4_3_1 c4_4_0 c4_4_1
    go_wp2_with fail
    refine (T4.out _).mono ?_
    rintro e w6 ⟨rfl, hb6⟩
    obtain ⟨hc6, hf6⟩ := bcell hb6
    have hz6 := hb6.size
    try simp only [World.size_alloc, World.size_setCell] at hz6
    try have : w.heap.size < w6.heap.size := by omega
    try have : w.heap.size < w6.heap.size + 1 := by omega
    try have : w.heap.size < w6.heap.size + 1 + 1 := by omega
    try have : w.heap.size < w6.heap.size + 1 + 1 + 1 := by omega
    try have : w.heap.size < w6.heap.size + 1 + 1 + 1 + 1 := by omega
    try have : w.heap.size ≤ w6.heap.size := by omega
    try have : w.heap.size + 1 < w6.heap.size := by omega
    try have : w.heap.size + 1 < w6.heap.size + 1 := by omega
    try have : w.heap.size + 1 < w6.heap.size + 1 + 1 := by omega
    try have : w.heap.size + 1 < w6.heap.size + 1 + 1 + 1 := by omega
    try have : w.heap.size + 1 < w6.heap.size + 1 + 1 + 1 + 1 := by omega
    try have : w.heap.size + 1 ≤ w6.heap.size := by omega
    try have : w.heap.size + 1 + 1 < w6.heap.size := by omega
    try have : w.heap.size + 1 + 1 < w6.heap.size + 1 := by omega
    try have : w.heap.size + 1 + 1 < w6.heap.size + 1 + 1 := by omega
    try have : w.heap.size + 1 + 1 < w6.heap.size + 1 + 1 + 1 := by omega
    try have : w.heap.size + 1 + 1 < w6.heap.size + 1 + 1 + 1 + 1 := by omega
    try have : w.heap.size + 1 + 1 ≤ w6.heap.size := by omega
    try have : w2.heap.size < w6.heap.size := by omega
    try have : w2.heap.size < w6.heap.size + 1 := by omega
    try have : w2.heap.size < w6.heap.size + 1 + 1 := by omega
    try have : w2.heap.size < w6.heap.size + 1 + 1 + 1 := by omega
    try have : w2.heap.size < w6.heap.size + 1 + 1 + 1 + 1 := by omega
    try have : w2.heap.size ≤ w6.heap.size := by omega
    try have : w3.heap.size < w6.heap.size := by omega
    try have : w3.heap.size < w6.heap.size + 1 := by omega
    try have : w3.heap.size < w6.heap.size + 1 + 1 := by omega
    try have : w3.heap.size < w6.heap.size + 1 + 1 + 1 := by omega
    try have : w3.heap.size < w6.heap.size + 1 + 1 + 1 + 1 := by omega
    try have : w3.heap.size ≤ w6.heap.size := by omega
    try have : w3.heap.size + 1 < w6.heap.size := by omega
    try have : w3.heap.size + 1 < w6.heap.size + 1 := by omega
    try have : w3.heap.size + 1 < w6.heap.size + 1 + 1 := by omega
    try have : w3.heap.size + 1 < w6.heap.size + 1 + 1 + 1 := by omega
    try have : w3.heap.size + 1 < w6.heap.size + 1 + 1 + 1 + 1 := by omega
    try have : w3.heap.size + 1 ≤ w6.heap.size := by omega
    try have : w3.heap.size + 1 + 1 < w6.heap.size := by omega
    try have : w3.heap.size + 1 + 1 < w6.heap.size + 1 := by omega
    try have : w3.heap.size + 1 + 1 < w6.heap.size + 1 + 1 := by omega
    try have : w3.heap.size + 1 + 1 < w6.heap.size + 1 + 1 + 1 := by omega
    try have : w3.heap.size + 1 + 1 < w6.heap.size + 1 + 1 + 1 + 1 := by omega
    try have : w3.heap.size + 1 + 1 ≤ w6.heap.size := by omega
    try have : w3.heap.size + 1 + 1 + 1 < w6.heap.size := by omega
    try have : w3.heap.size + 1 + 1 + 1 < w6.heap.size + 1 := by omega
    try have : w3.heap.size + 1 + 1 + 1 < w6.heap.size + 1 + 1 := by omega
    try have : w3.heap.size + 1 + 1 + 1 < w6.heap.size + 1 + 1 + 1 := by omega
    try have : w3.heap.size + 1 + 1 + 1 < w6.heap.size + 1 + 1 + 1 + 1 := by omega
    try have : w3.heap.size + 1 + 1 + 1 ≤ w6.heap.size := by omega
    try have : w4.heap.size < w6.heap.size := by omega
    try have : w4.heap.size < w6.heap.size + 1 := by omega
    try have : w4.heap.size < w6.heap.size + 1 + 1 := by omega
    try have : w4.heap.size < w6.heap.size + 1 + 1 + 1 := by omega
    try have : w4.heap.size < w6.heap.size + 1 + 1 + 1 + 1 := by omega
    try have : w4.heap.size ≤ w6.heap.size := by omega
    try have : w4.heap.size + 1 < w6.heap.size := by omega
    try have : w4.heap.size + 1 < w6.heap.size + 1 := by omega
    try have : w4.heap.size + 1 < w6.heap.size + 1 + 1 := by omega
    try have : w4.heap.size + 1 < w6.heap.size + 1 + 1 + 1 := by omega
    try have : w4.heap.size + 1 < w6.heap.size + 1 + 1 + 1 + 1 := by omega
    try have : w4.heap.size + 1 ≤ w6.heap.size := by omega
    try have : w4.heap.size + 1 + 1 < w6.heap.size := by omega
    try have : w4.heap.size + 1 + 1 < w6.heap.size + 1 := by omega
    try have : w4.heap.size + 1 + 1 < w6.heap.size + 1 + 1 := by omega
    try have : w4.heap.size + 1 + 1 < w6.heap.size + 1 + 1 + 1 := by omega
    try have : w4.heap.size + 1 + 1 < w6.heap.size + 1 + 1 + 1 + 1 := by omega
    try have : w4.heap.size + 1 + 1 ≤ w6.heap.size := by omega
    try have : w4.heap.size + 1 + 1 + 1 < w6.heap.size := by omega
    try have : w4.heap.size + 1 + 1 + 1 < w6.heap.size + 1 := by omega
    try have : w4.heap.size + 1 + 1 + 1 < w6.heap.size + 1 + 1 := by omega
    try have : w4.heap.size + 1 + 1 + 1 < w6.heap.size + 1 + 1 + 1 := by omega
    try have : w4.heap.size + 1 + 1 + 1 < w6.heap.size + 1 + 1 + 1 + 1 := by omega
    try have : w4.heap.size + 1 + 1 + 1 ≤ w6.heap.size := by omega
    try have : w5.heap.size < w6.heap.size := by omega
    try have : w5.heap.size < w6.heap.size + 1 := by omega
    try have : w5.heap.size < w6.heap.size + 1 + 1 := by omega
    try have : w5.heap.size < w6.heap.size + 1 + 1 + 1 := by omega
    try have : w5.heap.size < w6.heap.size + 1 + 1 + 1 + 1 := by omega
    try have : w5.heap.size ≤ w6.heap.size := by omega
    try have : w5.heap.size + 1 < w6.heap.size := by omega
    try have : w5.heap.size + 1 < w6.heap.size + 1 := by omega
    try have : w5.heap.size + 1 < w6.heap.size + 1 + 1 := by omega
    try have : w5.heap.size + 1 < w6.heap.size + 1 + 1 + 1 := by omega
    try have : w5.heap.size + 1 < w6.heap.size + 1 + 1 + 1 + 1 := by omega
    try have : w5.heap.size + 1 ≤ w6.heap.size := by omega
    try have : w5.heap.size + 1 + 1 < w6.heap.size := by omega
    try have : w5.heap.size + 1 + 1 < w6.heap.size + 1 := by omega
    try have : w5.heap.size + 1 + 1 < w6.heap.size + 1 + 1 := by omega
    try have : w5.heap.size + 1 + 1 < w6.heap.size + 1 + 1 + 1 := by omega
    try have : w5.heap.size + 1 + 1 < w6.heap.size + 1 + 1 + 1 + 1 := by omega
    try have : w5.heap.size + 1 + 1 ≤ w6.heap.size := by omega
    try have : w5.heap.size + 1 + 1 + 1 < w6.heap.size := by omega
    try have : w5.heap.size + 1 + 1 + 1 < w6.heap.size + 1 := by omega
    try have : w5.heap.size + 1 + 1 + 1 < w6.heap.size + 1 + 1 := by omega
    try have : w5.heap.size + 1 + 1 + 1 < w6.heap.size + 1 + 1 + 1 := by omega
    try have : w5.heap.size + 1 + 1 + 1 < w6.heap.size + 1 + 1 + 1 + 1 := by omega
    try have : w5.heap.size + 1 + 1 + 1 ≤ w6.heap.size := by omega
    have c6_0_0 := zci w6 w.heap.size 0 (al) (by go_simp)
    have c6_0_1 := zci w6 w.heap.size 1 (ah) (by go_simp)
    have c6_1_0 := zci w6 (w.heap.size + 1) 0 (0) (by go_simp)
    have g6_1_0 := zfe w6 (w.heap.size + 1) 0 (by go_simp)
    have c6_1_1 := zci w6 (w.heap.size + 1) 1 (0) (by go_simp)
    have g6_1_1 := zfe w6 (w.heap.size + 1) 1 (by go_simp)
    have c6_2_0 := zci w6 (w.heap.size + 1 + 1) 0 (0) (by go_simp)
    have g6_2_0 := zfe w6 (w.heap.size + 1 + 1) 0 (by go_simp)
    have c6_2_1 := zci w6 (w.heap.size + 1 + 1) 1 (0) (by go_simp)
    have g6_2_1 := zfe w6 (w.heap.size + 1 + 1) 1 (by go_simp)
    have c6_3_0 := zci w6 w2.heap.size 0 (sl) (by go_simp)
    have c6_3_1 := zci w6 w2.heap.size 1 (sh) (by go_simp)
    have c6_4_0 := zci w6 (w3.heap.size + 1) 0 (wH (r2)) (by go_simp)
    have c6_4_1 := zcu w6 (w3.heap.size + 1) 1 (wL (r2)) (by go_simp)
    have c6_5_0 := zci w6 w4.heap.size 0 (wH (r1)) (by go_simp)
    have c6_5_1 := zcu w6 w4.heap.size 1 (wL (r1)) (by go_simp)
    have c6_6_0 := zci w6 (w5.heap.size + 1 + 1) 0 (wH (r3)) (by go_simp)
    have c6_6_1 := zcu w6 (w5.heap.size + 1 + 1) 1 (wL (r3)) (by go_simp)
    clear hc6 hf6 c5_0_0 c5_0_1 c5_1_0 g5_1_0 c5_1_1 g5_1_1 c5_2_0 g5_2_0 c5_2_1 g5_2_1 c5_3_0 c5_3_1 c5_4_0 c5_4_1 c5_5_0 c5_5_1
    go_wp2_with fail
    refine (RC'.out _).mono ?_
    rintro e w7 ⟨rfl, hb7⟩
    obtain ⟨hc7, hf7⟩ := bcell hb7
    have hz7 := hb7.size
    try simp only [World.size_alloc, World.size_setCell] at hz7
    try have : w.heap.size < w7.heap.size := by omega
    try have : w.heap.size < w7.heap.size + 1 := by omega
    try have : w.heap.size ≤ w7.heap.size := by omega
    try have : w.heap.size + 1 < w7.heap.size := by omega
    try have : w.heap.size + 1 < w7.heap.size + 1 := by omega
    try have : w.heap.size + 1 ≤ w7.heap.size := by omega
    try have : w.heap.size + 1 + 1 < w7.heap.size := by omega
    try have : w.heap.size + 1 + 1 < w7.heap.size + 1 := by omega
    try have : w.heap.size + 1 + 1 ≤ w7.heap.size := by omega
    try have : w2.heap.size < w7.heap.size := by omega
    try have : w2.heap.size < w7.heap.size + 1 := by omega
    try have : w2.heap.size ≤ w7.heap.size := by omega
    try have : w3.heap.size < w7.heap.size := by omega
    try have : w3.heap.size < w7.heap.size + 1 := by omega
    try have : w3.heap.size ≤ w7.heap.size := by omega
    try have : w3.heap.size + 1 < w7.heap.size := by omega
    try have : w3.heap.size + 1 < w7.heap.size + 1 := by omega
    try have : w3.heap.size + 1 ≤ w7.heap.size := by omega
    try have : w3.heap.size + 1 + 1 < w7.heap.size := by omega
    try have : w3.heap.size + 1 + 1 < w7.heap.size + 1 := by omega
    try have : w3.heap.size + 1 + 1 ≤ w7.heap.size := by omega
    try have : w3.heap.size + 1 + 1 + 1 < w7.heap.size := by omega
    try have : w3.heap.size + 1 + 1 + 1 < w7.heap.size + 1 := by omega
    try have : w3.heap.size + 1 + 1 + 1 ≤ w7.heap.size := by omega
    try have : w4.heap.size < w7.heap.size := by omega
    try have : w4.heap.size < w7.heap.size + 1 := by omega
    try have : w4.heap.size ≤ w7.heap.size := by omega
    try have : w4.heap.size + 1 < w7.heap.size := by omega
    try have : w4.heap.size + 1 < w7.heap.size + 1 := by omega
    try have : w4.heap.size + 1 ≤ w7.heap.size := by omega
    try have : w4.heap.size + 1 + 1 < w7.heap.size := by omega
    try have : w4.heap.size + 1 + 1 < w7.heap.size + 1 := by omega
    try have : w4.heap.size + 1 + 1 ≤ w7.heap.size := by omega
    try have : w4.heap.size + 1 + 1 + 1 < w7.heap.size := by omega
    try have : w4.heap.size + 1 + 1 + 1 < w7.heap.size + 1 := by omega
    try have : w4.heap.size + 1 + 1 + 1 ≤ w7.heap.size := by omega
    try have : w5.heap.size < w7.heap.size := by omega
    try have : w5.heap.size < w7.heap.size + 1 := by omega
    try have : w5.heap.size ≤ w7.heap.size := by omega
    try have : w5.heap.size + 1 < w7.heap.size := by omega
    try have : w5.heap.size + 1 < w7.heap.size + 1 := by omega
    try have : w5.heap.size + 1 ≤ w7.heap.size := by omega
    try have : w5.heap.size + 1 + 1 < w7.heap.size := by omega
    try have : w5.heap.size + 1 + 1 < w7.heap.size + 1 := by omega
    try have : w5.heap.size + 1 + 1 ≤ w7.heap.size := by omega
    try have : w5.heap.size + 1 + 1 + 1 < w7.heap.size := by omega
    try have : w5.heap.size + 1 + 1 + 1 < w7.heap.size + 1 := by omega
    try have : w5.heap.size + 1 + 1 + 1 ≤ w7.heap.size := by omega
    try have : w6.heap.size < w7.heap.size := by omega
    try have : w6.heap.size < w7.heap.size + 1 := by omega
    try have : w6.heap.size ≤ w7.heap.size := by omega
    try have : w6.heap.size + 1 < w7.heap.size := by omega
    try have : w6.heap.size + 1 < w7.heap.size + 1 := by omega
    try have : w6.heap.size + 1 ≤ w7.heap.size := by omega
    try have : w6.heap.size + 1 + 1 < w7.heap.size := by omega
    try have : w6.heap.size + 1 + 1 < w7.heap.size + 1 := by omega
    try have : w6.heap.size + 1 + 1 ≤ w7.heap.size := by omega
    try have : w6.heap.size + 1 + 1 + 1 < w7.heap.size := by omega
    try have : w6.heap.size + 1 + 1 + 1 < w7.heap.size + 1 := by omega
    try have : w6.heap.size + 1 + 1 + 1 ≤ w7.heap.size := by omega
    have c7_0_0 := zci w7 w.heap.size 0 (al) (by go_simp)
    have c7_0_1 := zci w7 w.heap.size 1 (ah) (by go_simp)
    have c7_1_0 := zci w7 (w.heap.size + 1) 0 (0) (by go_simp)
    have g7_1_0 := zfe w7 (w.heap.size + 1) 0 (by go_simp)
    have c7_1_1 := zci w7 (w.heap.size + 1) 1 (0) (by go_simp)
    have g7_1_1 := zfe w7 (w.heap.size + 1) 1 (by go_simp)
    have c7_2_0 := zci w7 (w.heap.size + 1 + 1) 0 (0) (by go_simp)
    have g7_2_0 := zfe w7 (w.heap.size + 1 + 1) 0 (by go_simp)
    have c7_2_1 := zci w7 (w.heap.size + 1 + 1) 1 (0) (by go_simp)
    have g7_2_1 := zfe w7 (w.heap.size + 1 + 1) 1 (by go_simp)
    have c7_3_0 := zci w7 w2.heap.size 0 (sl) (by go_simp)
    have c7_3_1 := zci w7 w2.heap.size 1 (sh) (by go_simp)
    have c7_4_0 := zci w7 (w3.heap.size + 1) 0 (wH (r2)) (by go_simp)
    have c7_4_1 := zcu w7 (w3.heap.size + 1) 1 (wL (r2)) (by go_simp)
    have c7_5_0 := zci w7 w4.heap.size 0 (wH (r1)) (by go_simp)
    have c7_5_1 := zcu w7 w4.heap.size 1 (wL (r1)) (by go_simp)
    have c7_6_0 := zci w7 (w5.heap.size + 1 + 1) 0 (wH (r3)) (by go_simp)
    have c7_6_1 := zcu w7 (w5.heap.size + 1 + 1) 1 (wL (r3)) (by go_simp)
    have c7_7_0 := zci w7 (w6.heap.size + 1 + 1 + 1) 0 (wH (r4)) (by go_simp)
    have c7_7_1 := zcu w7 (w6.heap.size + 1 + 1 + 1) 1 (wL (r4)) (by go_simp)
    clear hc7 hf7 c6_0_0 c6_0_1 c6_1_0 g6_1_0 c6_1_1 g6_1_1 c6_2_0 g6_2_0 c6_2_1 g6_2_1 c6_3_0 c6_3_1 c6_4_0 c6_4_1 c6_5_0 c6_5_1 c6_6_0 c6_6_1
    go_wp2_with fail
    refine (RS'.out _).mono ?_
    rintro e w8 ⟨rfl, hb8⟩
    obtain ⟨hc8, hf8⟩ := bcell hb8
    have hz8 := hb8.size
    try simp only [World.size_alloc, World.size_setCell] at hz8
    try have : w.heap.size < w8.heap.size := by omega
    try have : w.heap.size < w8.heap.size + 1 := by omega
    try have : w.heap.size ≤ w8.heap.size := by omega
    try have : w.heap.size + 1 < w8.heap.size := by omega
    try have : w.heap.size + 1 < w8.heap.size + 1 := by omega
    try have : w.heap.size + 1 ≤ w8.heap.size := by omega
    try have : w.heap.size + 1 + 1 < w8.heap.size := by omega
    try have : w.heap.size + 1 + 1 < w8.heap.size + 1 := by omega
    try have : w.heap.size + 1 + 1 ≤ w8.heap.size := by omega
    try have : w2.heap.size < w8.heap.size := by omega
    try have : w2.heap.size < w8.heap.size + 1 := by omega
    try have : w2.heap.size ≤ w8.heap.size := by omega
    try have : w3.heap.size < w8.heap.size := by omega
    try have : w3.heap.size < w8.heap.size + 1 := by omega
    try have : w3.heap.size ≤ w8.heap.size := by omega
    try have : w3.heap.size + 1 < w8.heap.size := by omega
    try have : w3.heap.size + 1 < w8.heap.size + 1 := by omega
    try have : w3.heap.size + 1 ≤ w8.heap.size := by omega
    try have : w3.heap.size + 1 + 1 < w8.heap.size := by omega
    try have : w3.heap.size + 1 + 1 < w8.heap.size + 1 := by omega
    try have : w3.heap.size + 1 + 1 ≤ w8.heap.size := by omega
    try have : w3.heap.size + 1 + 1 + 1 < w8.heap.size := by omega
    try have : w3.heap.size + 1 + 1 + 1 < w8.heap.size + 1 := by omega
    try have : w3.heap.size + 1 + 1 + 1 ≤ w8.heap.size := by omega
    try have : w4.heap.size < w8.heap.size := by omega
    try have : w4.heap.size < w8.heap.size + 1 := by omega
    try have : w4.heap.size ≤ w8.heap.size := by omega
    try have : w4.heap.size + 1 < w8.heap.size := by omega
    try have : w4.heap.size + 1 < w8.heap.size + 1 := by omega
    try have : w4.heap.size + 1 ≤ w8.heap.size := by omega
    try have : w4.heap.size + 1 + 1 < w8.heap.size := by omega
    try have : w4.heap.size + 1 + 1 < w8.heap.size + 1 := by omega
    try have : w4.heap.size + 1 + 1 ≤ w8.heap.size := by omega
    try have : w4.heap.size + 1 + 1 + 1 < w8.heap.size := by omega
    try have : w4.heap.size + 1 + 1 + 1 < w8.heap.size + 1 := by omega
    try have : w4.heap.size + 1 + 1 + 1 ≤ w8.heap.size := by omega
    try have : w5.heap.size < w8.heap.size := by omega
    try have : w5.heap.size < w8.heap.size + 1 := by omega
    try have : w5.heap.size ≤ w8.heap.size := by omega
    try have : w5.heap.size + 1 < w8.heap.size := by omega
    try have : w5.heap.size + 1 < w8.heap.size + 1 := by omega
    try have : w5.heap.size + 1 ≤ w8.heap.size := by omega
    try have : w5.heap.size + 1 + 1 < w8.heap.size := by omega
    try have : w5.heap.size + 1 + 1 < w8.heap.size + 1 := by omega
    try have : w5.heap.size + 1 + 1 ≤ w8.heap.size := by omega
    try have : w5.heap.size + 1 + 1 + 1 < w8.heap.size := by omega
    try have : w5.heap.size + 1 + 1 + 1 < w8.heap.size + 1 := by omega
    try have : w5.heap.size + 1 + 1 + 1 ≤ w8.heap.size := by omega
    try have : w6.heap.size < w8.heap.size := by omega
    try have : w6.heap.size < w8.heap.size + 1 := by omega
    try have : w6.heap.size ≤ w8.heap.size := by omega
    try have : w6.heap.size + 1 < w8.heap.size := by omega
    try have : w6.heap.size + 1 < w8.heap.size + 1 := by omega
    try have : w6.heap.size + 1 ≤ w8.heap.size := by omega
    try have : w6.heap.size + 1 + 1 < w8.heap.size := by omega
    try have : w6.heap.size + 1 + 1 < w8.heap.size + 1 := by omega
    try have : w6.heap.size + 1 + 1 ≤ w8.heap.size := by omega
    try have : w6.heap.size + 1 + 1 + 1 < w8.heap.size := by omega
    try have : w6.heap.size + 1 + 1 + 1 < w8.heap.size + 1 := by omega
    try have : w6.heap.size + 1 + 1 + 1 ≤ w8.heap.size := by omega
    try have : w7.heap.size < w8.heap.size := by omega
    try have : w7.heap.size < w8.heap.size + 1 := by omega
    try have : w7.heap.size ≤ w8.heap.size := by omega
    have c8_0_0 := zci w8 w.heap.size 0 (al) (by go_simp)
    have c8_0_1 := zci w8 w.heap.size 1 (ah) (by go_simp)
    have c8_1_0 := zci w8 (w.heap.size + 1) 0 (0) (by go_simp)
    have g8_1_0 := zfe w8 (w.heap.size + 1) 0 (by go_simp)
    have c8_1_1 := zci w8 (w.heap.size + 1) 1 (0) (by go_simp)
    have g8_1_1 := zfe w8 (w.heap.size + 1) 1 (by go_simp)
    have c8_2_0 := zci w8 (w.heap.size + 1 + 1) 0 (0) (by go_simp)
    have g8_2_0 := zfe w8 (w.heap.size + 1 + 1) 0 (by go_simp)
    have c8_2_1 := zci w8 (w.heap.size + 1 + 1) 1 (0) (by go_simp)
    have g8_2_1 := zfe w8 (w.heap.size + 1 + 1) 1 (by go_simp)
    have c8_3_0 := zci w8 w2.heap.size 0 (sl) (by go_simp)
    have c8_3_1 := zci w8 w2.heap.size 1 (sh) (by go_simp)
    have c8_4_0 := zci w8 (w3.heap.size + 1) 0 (wH (r2)) (by go_simp)
    have c8_4_1 := zcu w8 (w3.heap.size + 1) 1 (wL (r2)) (by go_simp)
    have c8_5_0 := zci w8 w4.heap.size 0 (wH (r1)) (by go_simp)
    have c8_5_1 := zcu w8 w4.heap.size 1 (wL (r1)) (by go_simp)
    have c8_6_0 := zci w8 (w5.heap.size + 1 + 1) 0 (wH (r3)) (by go_simp)
    have c8_6_1 := zcu w8 (w5.heap.size + 1 + 1) 1 (wL (r3)) (by go_simp)
    have c8_7_0 := zci w8 (w6.heap.size + 1 + 1 + 1) 0 (wH (r4)) (by go_simp)
    have c8_7_1 := zcu w8 (w6.heap.size + 1 + 1 + 1) 1 (wL (r4)) (by go_simp)
    have c8_8_0 := zci w8 w7.heap.size 0 (r1) (by go_simp)
    have c8_8_1 := zci w8 w7.heap.size 1 (r2) (by go_simp)
    clear hc8 hf8 c7_0_0 c7_0_1 c7_1_0 g7_1_0 c7_1_1 g7_1_1 c7_2_0 g7_2_0 c7_2_1 g7_2_1 c7_3_0 c7_3_1 c7_4_0 c7_4_1 c7_5_0 c7_5_1 c7_6_0 c7_6_1 c7_7_0 c7_7_1
    go_wp2_with fail
    have hP8 : Pair4 w (w.heap.size + 1) (w.heap.size + 1 + 1) (w7.heap.size) (w8.heap.size) r1 r2 r3 r4 0 0 ((w8.alloc (.cells #[.int .i64 r3, .int .i64 r4] 24))) := ⟨blw_, by go_simp, by go_simp, by go_simp, by go_simp, by go_simp, by go_simp, by go_simp, by go_simp, by go_simp, by go_simp, by go_simp, by go_simp⟩
    refine QF.region_float_ex 2 93 (fun j => Pair4 w (w.heap.size + 1) (w.heap.size + 1 + 1) (w7.heap.size) (w8.heap.size) r1 r2 r3 r4 (px j r1) (px j r2)) _ (by kernel_rfl) (by kernel_rfl) rfl rfl rfl (⟨hP8.below.drew, hP8.c1, hP8.c2, hP8.c3, hP8.c4, hP8.c5, hP8.c6, hP8.c7, hP8.c8, hP8.f1, hP8.f2, hP8.f3, hP8.f4⟩) ?_
    apply Exists.intro
    refine ⟨fun j => ?h1, ?hf, ?ht⟩
    case h1 =>
     simp only [List.take_succ_cons, List.take_zero, List.drop_succ_cons, List.drop_zero]
     repeat (first
      | go_big_quiet_skip
      | (go_big_quiet_want; go_big_quiet_op; first
       | go_big_quiet_on
       | (apply Exists.intro
          refine ⟨fun _ => ?_, ?_⟩
          ·first
           | rfl
           | (intro hC; obtain ⟨k0, k1, k2, k3, k4, k5, k6, k7, k8, k9, k10, k11, k12⟩ := hC; go_simp; done)
           | (intro hC; obtain ⟨k0, k1, k2, k3, k4, k5, k6, k7, k8, k9, k10, k11, k12⟩ := hC; go_simp; rfl)
           | (intro hC; have hcq := bcellG hC; go_simp; done)
           | (intro hC; have hcq := bcellG hC; go_simp; rfl)
          go_big_quiet_on)))
     exact wpQuiet_nil rfl
    case hf =>
     intro w8 hP7
     have hm8 := hP7.stored (by first | (simp; done) | omega) (by first | (simp; done) | omega) (by first | (simp; done) | omega) (by omega)
     obtain ⟨k0, k1, k2, k3, k4, k5, k6, k7, k8, k9, k10, k11, k12⟩ := hP7
     go_simp
     simpa [QF.floatRes, px] using hm8
    case ht =>
     intro u9 w9 hP7
     simp only [List.drop_succ_cons, List.drop_zero]
     obtain ⟨hb9, k1, k2, k3, k4, k5, k6, k7, k8, k9, k10, k11, k12⟩ := hP7
     simp only [px] at k1 k2
     go_wp2
     refine bodyPost_ret (v := .tuple #[.agg #[.int .i64 (r1), .int .i64 (r2)], .agg #[.int .i64 (r3), .int .i64 (r4)], .int .i64 0]) (by simp only [results, Try.results21]; go_simp) rfl ⟨rfl, blw_⟩
end
end Go.Proofs.Ytacpahebbnnckaa
