/- Packed: RTurn. -/
import Derived.Test.YtacpahebbnnckaaP6
import Derived.Test.YtacpahebbnnckaaP7
import Derived.Test.YtacpahebbnnckaaP21
set_option linter.unusedVariables false
set_option linter.unusedSimpArgs false
namespace Go.Proofs.Ytacpahebbnnckaa
section
open Go.RowKit
theorem rceil (a b : Int) (ka : -85070591730234615865843651857942052864 < a ∧ a < 85070591730234615865843651857942052864) (kb : 0 < b) (kb2 : b < 85070591730234615865843651857942052864) (w : World) :
  Calls Try.prog 112 #[.agg #[.int .i64 (wH (a)), .int .u64 (wL (a))], .agg #[.int .i64 (wH (b)), .int .u64 (wL (b))]] w fun e w' => e = .returned (.agg #[.int .i64 (wH (cdiv a b)), .int .u64 (wL (cdiv a b))]) ∧ Below w.heap.size w w' := by
 go_enter Try.func112, Try.ntmps112
 go_wp2_with fail
 refine (rquot a b ka kb kb2 _).mono ?_
 rintro e w1 ⟨rfl, hb1⟩
 obtain ⟨hc1, hf1⟩ := bcell hb1
 have hz1 := hb1.size
 try simp only [World.size_alloc, World.size_setCell] at hz1
 try have : w.heap.size < w1.heap.size := by omega
 try have : w.heap.size < w1.heap.size + 1 := by omega
 try have : w.heap.size < w1.heap.size + 1 + 1 := by omega
 try have : w.heap.size ≤ w1.heap.size := by omega
 try have : w.heap.size + 1 < w1.heap.size := by omega
 try have : w.heap.size + 1 < w1.heap.size + 1 := by omega
 try have : w.heap.size + 1 < w1.heap.size + 1 + 1 := by omega
 try have : w.heap.size + 1 ≤ w1.heap.size := by omega
 try have : w.heap.size + 1 + 1 < w1.heap.size := by omega
 try have : w.heap.size + 1 + 1 < w1.heap.size + 1 := by omega
 try have : w.heap.size + 1 + 1 < w1.heap.size + 1 + 1 := by omega
 try have : w.heap.size + 1 + 1 ≤ w1.heap.size := by omega
 have c1_0_0 := zci w1 (w.heap.size + 1 + 1) 0 0 (by go_simp)
 have g1_0_0 := zfe w1 (w.heap.size + 1 + 1) 0 (by go_simp)
 have c1_0_1 := zcu w1 (w.heap.size + 1 + 1) 1 0 (by go_simp)
 have g1_0_1 := zfe w1 (w.heap.size + 1 + 1) 1 (by go_simp)
 clear hc1 hf1
 go_wp2
 refine bodyPost_ret (v := .agg #[.int .i64 (wH (cdiv a b)), .int .u64 (wL (cdiv a b))]) (by simp only [results, Try.results112]; go_simp) rfl ⟨rfl, blw_⟩
set_option maxHeartbeats 4000000 in
theorem rturned_any (t : Int) (ht : Unit1 t) (w : World) :
  Calls Try.prog 69 #[.int .i64 t] w fun e w' => e = .returned (.tuple #[.agg #[.int .i64 (wH (tuL 4294967296 t - 4294967296)), .int .u64 (wL (tuL 4294967296 t - 4294967296))], .agg #[.int .i64 (wH (tuH 4294967296 t - 4294967296)), .int .u64 (wL (tuH 4294967296 t - 4294967296))], .agg #[.int .i64 (wH (tuL t t)), .int .u64 (wL (tuL t t))], .agg #[.int .i64 (wH (tuH t t)), .int .u64 (wL (tuH t t))]]) ∧ Below w.heap.size w w' := by
 have it : I64 t := by obtain ⟨_, _⟩ := ht; constructor <;> omega
 have hb := tuD_bd ht
 have qb := sq_bd ht
 obtain ⟨c1, c2⟩ := cos_ref ht
 rw [← c1, ← c2]
 obtain ⟨t0, t1⟩ := ht
 unfold tuL tuH
 obtain ⟨F, hF⟩ : ∃ F : Int, F = 18446744073709551616 := ⟨_, rfl⟩
 have T1 := hide (rtimes t t it it)
 have T2 : Hid (∀ w, Calls Try.prog 109 #[.int .i64 4294967296, .int .i64 4294967296] w fun e w' => e = .returned (.agg #[.int .i64 (wH (F)), .int .u64 (wL (F))]) ∧ Below w.heap.size w w') := hide (by
  have e : (4294967296 : Int) * 4294967296 = F := by omega
  rw [← e]
  exact rtimes 4294967296 4294967296 ⟨by omega, by omega⟩ ⟨by omega, by omega⟩)
 have e1 : tuD t = F + t * t := by unfold tuD; omega
 have e2 : 18446744073709551616 - t * t = F + -(t * t) := by omega
 rw [e2, e1]
 have PL := hide (rplus F (t * t) ⟨by omega, by omega⟩ ⟨by omega, by omega⟩ ⟨by omega, by omega⟩)
 have MI := hide (rminus (t * t) ⟨by omega, by omega⟩)
 have PM := hide (rplus F (-(t * t)) ⟨by omega, by omega⟩ ⟨by omega, by omega⟩ ⟨by omega, by omega⟩)
 have UP := hide (rup32 (F + -(t * t)) ⟨by omega, by omega⟩)
 have WI := hide (rwide t it)
 have U6 := hide (rup65 t ⟨by omega, by omega⟩)
 have FA := hide (rfloor ((F + -(t * t)) * 4294967296) (F + t * t) ⟨by omega, by omega⟩ (by omega) (by omega))
 have CA := hide (rceil ((F + -(t * t)) * 4294967296) (F + t * t) ⟨by omega, by omega⟩ (by omega) (by omega))
 have FB := hide (rfloor (t * 36893488147419103232) (F + t * t) ⟨by omega, by omega⟩ (by omega) (by omega))
 have CB := hide (rceil (t * 36893488147419103232) (F + t * t) ⟨by omega, by omega⟩ (by omega) (by omega))
 clear hb qb c1 c2 it t0 t1 e1 e2 hF
 generalize (F + -(t * t)) * 4294967296 = AA at *
 generalize t * 36893488147419103232 = BB at *
 generalize F + t * t = BY at *
 generalize t * t = sq at *
 go_enter Try.func69, Try.ntmps69
 go_wp2_with fail
 refine (T1.out _).mono ?_
 rintro e w1 ⟨rfl, hb1⟩
 obtain ⟨hc1, hf1⟩ := bcell hb1
 have hz1 := hb1.size
 try simp only [World.size_alloc, World.size_setCell] at hz1
 try have : w.heap.size < w1.heap.size := by omega
 try have : w.heap.size < w1.heap.size + 1 := by omega
 try have : w.heap.size ≤ w1.heap.size := by omega
 try have : w.heap.size + 1 < w1.heap.size := by omega
 try have : w.heap.size + 1 < w1.heap.size + 1 := by omega
 try have : w.heap.size + 1 ≤ w1.heap.size := by omega
 try have : w.heap.size + 1 + 1 < w1.heap.size := by omega
 try have : w.heap.size + 1 + 1 < w1.heap.size + 1 := by omega
 try have : w.heap.size + 1 + 1 ≤ w1.heap.size := by omega
 try have : w.heap.size + 1 + 1 + 1 < w1.heap.size := by omega
 try have : w.heap.size + 1 + 1 + 1 < w1.heap.size + 1 := by omega
 try have : w.heap.size + 1 + 1 + 1 ≤ w1.heap.size := by omega
 have c1_0_0 := zci w1 w.heap.size 0 0 (by go_simp)
 have g1_0_0 := zfe w1 w.heap.size 0 (by go_simp)
 have c1_0_1 := zcu w1 w.heap.size 1 0 (by go_simp)
 have g1_0_1 := zfe w1 w.heap.size 1 (by go_simp)
 have c1_1_0 := zci w1 (w.heap.size + 1) 0 0 (by go_simp)
 have g1_1_0 := zfe w1 (w.heap.size + 1) 0 (by go_simp)
 have c1_1_1 := zcu w1 (w.heap.size + 1) 1 0 (by go_simp)
 have g1_1_1 := zfe w1 (w.heap.size + 1) 1 (by go_simp)
 have c1_2_0 := zci w1 (w.heap.size + 1 + 1) 0 0 (by go_simp)
 have g1_2_0 := zfe w1 (w.heap.size + 1 + 1) 0 (by go_simp)
 have c1_2_1 := zcu w1 (w.heap.size + 1 + 1) 1 0 (by go_simp)
 have g1_2_1 := zfe w1 (w.heap.size + 1 + 1) 1 (by go_simp)
 have c1_3_0 := zci w1 (w.heap.size + 1 + 1 + 1) 0 0 (by go_simp)
 have g1_3_0 := zfe w1 (w.heap.size + 1 + 1 + 1) 0 (by go_simp)
 have c1_3_1 := zcu w1 (w.heap.size + 1 + 1 + 1) 1 0 (by go_simp)
 have g1_3_1 := zfe w1 (w.heap.size + 1 + 1 + 1) 1 (by go_simp)
 clear hc1 hf1
 go_wp2_with fail
 refine (T2.out _).mono ?_
 rintro e w2 ⟨rfl, hb2⟩
 obtain ⟨hc2, hf2⟩ := bcell hb2
 have hz2 := hb2.size
 try simp only [World.size_alloc, World.size_setCell] at hz2
 try have : w.heap.size < w2.heap.size := by omega
 try have : w.heap.size < w2.heap.size + 1 := by omega
 try have : w.heap.size ≤ w2.heap.size := by omega
 try have : w.heap.size + 1 < w2.heap.size := by omega
 try have : w.heap.size + 1 < w2.heap.size + 1 := by omega
 try have : w.heap.size + 1 ≤ w2.heap.size := by omega
 try have : w.heap.size + 1 + 1 < w2.heap.size := by omega
 try have : w.heap.size + 1 + 1 < w2.heap.size + 1 := by omega
 try have : w.heap.size + 1 + 1 ≤ w2.heap.size := by omega
 try have : w.heap.size + 1 + 1 + 1 < w2.heap.size := by omega
 try have : w.heap.size + 1 + 1 + 1 < w2.heap.size + 1 := by omega
 try have : w.heap.size + 1 + 1 + 1 ≤ w2.heap.size := by omega
 try have : w1.heap.size < w2.heap.size := by omega
 try have : w1.heap.size < w2.heap.size + 1 := by omega
 try have : w1.heap.size ≤ w2.heap.size := by omega
 have c2_0_0 := zci w2 w.heap.size 0 0 (by go_simp)
 have g2_0_0 := zfe w2 w.heap.size 0 (by go_simp)
 have c2_0_1 := zcu w2 w.heap.size 1 0 (by go_simp)
 have g2_0_1 := zfe w2 w.heap.size 1 (by go_simp)
 have c2_1_0 := zci w2 (w.heap.size + 1) 0 0 (by go_simp)
 have g2_1_0 := zfe w2 (w.heap.size + 1) 0 (by go_simp)
 have c2_1_1 := zcu w2 (w.heap.size + 1) 1 0 (by go_simp)
 have g2_1_1 := zfe w2 (w.heap.size + 1) 1 (by go_simp)
 have c2_2_0 := zci w2 (w.heap.size + 1 + 1) 0 0 (by go_simp)
 have g2_2_0 := zfe w2 (w.heap.size + 1 + 1) 0 (by go_simp)
 have c2_2_1 := zcu w2 (w.heap.size + 1 + 1) 1 0 (by go_simp)
 have g2_2_1 := zfe w2 (w.heap.size + 1 + 1) 1 (by go_simp)
 have c2_3_0 := zci w2 (w.heap.size + 1 + 1 + 1) 0 0 (by go_simp)
 have g2_3_0 := zfe w2 (w.heap.size + 1 + 1 + 1) 0 (by go_simp)
 have c2_3_1 := zcu w2 (w.heap.size + 1 + 1 + 1) 1 0 (by go_simp)
 have g2_3_1 := zfe w2 (w.heap.size + 1 + 1 + 1) 1 (by go_simp)
 have c2_4_0 := zci w2 w1.heap.size 0 (wH (sq)) (by go_simp)
 have c2_4_1 := zcu w2 w1.heap.size 1 (wL (sq)) (by go_simp)
 clear hc2 hf2 c1_0_0 g1_0_0 c1_0_1 g1_0_1 c1_1_0 g1_1_0 c1_1_1 g1_1_1 c1_2_0 g1_2_0 c1_2_1 g1_2_1 c1_3_0 g1_3_0 c1_3_1 g1_3_1
 go_wp2_with fail
 refine (PL.out _).mono ?_
 rintro e w3 ⟨rfl, hb3⟩
 obtain ⟨hc3, hf3⟩ := bcell hb3
 have hz3 := hb3.size
 try simp only [World.size_alloc, World.size_setCell] at hz3
 try have : w.heap.size < w3.heap.size := by omega
 try have : w.heap.size < w3.heap.size + 1 := by omega
 try have : w.heap.size ≤ w3.heap.size := by omega
 try have : w.heap.size + 1 < w3.heap.size := by omega
 try have : w.heap.size + 1 < w3.heap.size + 1 := by omega
 try have : w.heap.size + 1 ≤ w3.heap.size := by omega
 try have : w.heap.size + 1 + 1 < w3.heap.size := by omega
 try have : w.heap.size + 1 + 1 < w3.heap.size + 1 := by omega
 try have : w.heap.size + 1 + 1 ≤ w3.heap.size := by omega
 try have : w.heap.size + 1 + 1 + 1 < w3.heap.size := by omega
 try have : w.heap.size + 1 + 1 + 1 < w3.heap.size + 1 := by omega
 try have : w.heap.size + 1 + 1 + 1 ≤ w3.heap.size := by omega
 try have : w1.heap.size < w3.heap.size := by omega
 try have : w1.heap.size < w3.heap.size + 1 := by omega
 try have : w1.heap.size ≤ w3.heap.size := by omega
 try have : w2.heap.size < w3.heap.size := by omega
 try have : w2.heap.size < w3.heap.size + 1 := by omega
 try have : w2.heap.size ≤ w3.heap.size := by omega
 have c3_0_0 := zci w3 w.heap.size 0 0 (by go_simp)
 have g3_0_0 := zfe w3 w.heap.size 0 (by go_simp)
 have c3_0_1 := zcu w3 w.heap.size 1 0 (by go_simp)
 have g3_0_1 := zfe w3 w.heap.size 1 (by go_simp)
 have c3_1_0 := zci w3 (w.heap.size + 1) 0 0 (by go_simp)
 have g3_1_0 := zfe w3 (w.heap.size + 1) 0 (by go_simp)
 have c3_1_1 := zcu w3 (w.heap.size + 1) 1 0 (by go_simp)
 have g3_1_1 := zfe w3 (w.heap.size + 1) 1 (by go_simp)
 have c3_2_0 := zci w3 (w.heap.size + 1 + 1) 0 0 (by go_simp)
 have g3_2_0 := zfe w3 (w.heap.size + 1 + 1) 0 (by go_simp)
 have c3_2_1 := zcu w3 (w.heap.size + 1 + 1) 1 0 (by go_simp)
 have g3_2_1 := zfe w3 (w.heap.size + 1 + 1) 1 (by go_simp)
 have c3_3_0 := zci w3 (w.heap.size + 1 + 1 + 1) 0 0 (by go_simp)
 have g3_3_0 := zfe w3 (w.heap.size + 1 + 1 + 1) 0 (by go_simp)
 have c3_3_1 := zcu w3 (w.heap.size + 1 + 1 + 1) 1 0 (by go_simp)
 have g3_3_1 := zfe w3 (w.heap.size + 1 + 1 + 1) 1 (by go_simp)
 have c3_4_0 := zci w3 w1.heap.size 0 (wH (sq)) (by go_simp)
 have c3_4_1 := zcu w3 w1.heap.size 1 (wL (sq)) (by go_simp)
 have c3_5_0 := zci w3 w2.heap.size 0 (wH (F)) (by go_simp)
 have c3_5_1 := zcu w3 w2.heap.size 1 (wL (F)) (by go_simp)
 clear hc3 hf3 c2_0_0 g2_0_0 c2_0_1 g2_0_1 c2_1_0 g2_1_0 c2_1_1 g2_1_1 c2_2_0 g2_2_0 c2_2_1 g2_2_1 c2_3_0 g2_3_0 c2_3_1 g2_3_1 c2_4_0 c2_4_1
 go_wp2_with fail
 refine QF.region_float_ex 5 38 (QF.FD _ _ (.int .i64 0) (.int .u64 0)) _ (by kernel_rfl) (by kernel_rfl) rfl rfl rfl (show Below _ _ _ from ((Below.refl (w3.heap.size + 1) _)).drew) ?_
 apply Exists.intro
 refine ⟨fun j => ?h1, ?hf, ?ht⟩
 case h1 =>
  simp only [List.take_succ_cons, List.take_zero, List.drop_succ_cons, List.drop_zero]
  repeat (first
   | go_big_quiet_skip
   | (go_big_quiet_want; go_big_quiet_op; first
    | go_big_quiet_on
    | (apply Exists.intro
       refine ⟨fun _ => ?_, ?_⟩
       ·first
        | rfl
        | (intro hC; obtain ⟨hcq, hfq⟩ := bcellB (QF.FD.below hC); go_simp; done)
        | (intro hC; obtain ⟨hcq, hfq⟩ := bcellB (QF.FD.below hC); go_simp; rfl)
        | (intro hC; have hcq := bcellG (QF.FD.below hC); go_simp; done)
        | (intro hC; have hcq := bcellG (QF.FD.below hC); go_simp; rfl)
        | (intro hC; go_at_call 111; (first | (with_reducible refine (MI.out _).mono ?_)); (intro e w2 hw; exact ⟨hw.1, QF.FD.call (by simp) hC hw.2⟩))
        | (intro hC; go_at_call 78; (first | (with_reducible refine (PM.out _).mono ?_)); (intro e w2 hw; exact ⟨hw.1, QF.FD.call (by simp) hC hw.2⟩))
        | (intro hC; go_at_call 110; (first | (with_reducible refine (UP.out _).mono ?_)); (intro e w2 hw; exact ⟨hw.1, QF.FD.call (by simp) hC hw.2⟩))
       go_big_quiet_on)))
  exact wpQuiet_nil rfl
 case hf =>
  intro w8 hD8
  have hm8 := QF.FD.made (t := 107) (by simp) hD8
  go_simp
  simpa [QF.floatRes] using hm8
 case ht =>
  intro u9 w9 hD9
  simp only [List.drop_succ_cons, List.drop_zero]
  obtain ⟨hC9, p9, rfl, hp9, hq9, bc0, bc1, bf0, bf1⟩ := hD9
  obtain ⟨hc9, hf9⟩ := bcellB hC9
  have hz9 := hC9.size
  try simp only [World.size_alloc, World.size_setCell] at hz9 hp9
  try have hs9 : w.heap.size < p9 := by omega
  try have hs9' : w.heap.size ≤ p9 := by omega
  try have ht9 : w.heap.size < w9.heap.size := by omega
  have hb20 := hC9
  have hp : ¬ w3.heap.size = p9 ∧ ¬ p9 = w3.heap.size ∧ ¬ p9 = w.heap.size ∧ ¬ p9 = w.heap.size + 1 ∧ ¬ p9 = w.heap.size + 1 + 1 ∧ ¬ p9 = w.heap.size + 1 + 1 + 1 ∧ ¬ w.heap.size = p9 ∧ ¬ w.heap.size + 1 = p9 ∧ ¬ w.heap.size + 1 + 1 = p9 ∧ ¬ w.heap.size + 1 + 1 + 1 = p9 := by omega
  obtain ⟨np1, np2, np3, np4, np5, np6, np7, np8, np9, np10⟩ := hp
  have wz1 : w.heap.size + 1 < w9.heap.size ∧ w.heap.size + 1 + 1 < w9.heap.size ∧ w.heap.size + 1 + 1 + 1 < w9.heap.size ∧ w3.heap.size < w9.heap.size := by omega
  obtain ⟨wz1, wz2, wz3, wz4⟩ := wz1
  go_wp2_with fail
  refine (WI.out _).mono ?_
  rintro e w10 ⟨rfl, hb10⟩
  obtain ⟨hc10, hf10⟩ := bcell hb10
  have hz10 := hb10.size
  try simp only [World.size_alloc, World.size_setCell] at hz10
  try refine zw4 w w10 (by omega) fun _ _ _ _ _ _ _ _ => ?_
  try have : w3.heap.size < w10.heap.size := by omega
  try have : w3.heap.size ≤ w10.heap.size := by omega
  try refine zb p9 w10 (by omega) fun _ _ => ?_
  have c10_0_0 := zci w10 w.heap.size 0 0 (by go_simp)
  have g10_0_0 := zfe w10 w.heap.size 0 (by go_simp)
  have c10_0_1 := zcu w10 w.heap.size 1 0 (by go_simp)
  have g10_0_1 := zfe w10 w.heap.size 1 (by go_simp)
  have c10_1_0 := zci w10 (w.heap.size + 1) 0 0 (by go_simp)
  have g10_1_0 := zfe w10 (w.heap.size + 1) 0 (by go_simp)
  have c10_1_1 := zcu w10 (w.heap.size + 1) 1 0 (by go_simp)
  have g10_1_1 := zfe w10 (w.heap.size + 1) 1 (by go_simp)
  have c10_2_0 := zci w10 (w.heap.size + 1 + 1) 0 0 (by go_simp)
  have g10_2_0 := zfe w10 (w.heap.size + 1 + 1) 0 (by go_simp)
  have c10_2_1 := zcu w10 (w.heap.size + 1 + 1) 1 0 (by go_simp)
  have g10_2_1 := zfe w10 (w.heap.size + 1 + 1) 1 (by go_simp)
  have c10_3_0 := zci w10 (w.heap.size + 1 + 1 + 1) 0 0 (by go_simp)
  have g10_3_0 := zfe w10 (w.heap.size + 1 + 1 + 1) 0 (by go_simp)
  have c10_3_1 := zcu w10 (w.heap.size + 1 + 1 + 1) 1 0 (by go_simp)
  have g10_3_1 := zfe w10 (w.heap.size + 1 + 1 + 1) 1 (by go_simp)
  have c10_4_0 := zci w10 w3.heap.size 0 (wH (BY)) (by go_simp)
  have c10_4_1 := zcu w10 w3.heap.size 1 (wL (BY)) (by go_simp)
  have c10_5_0 := zci w10 p9 0 (wH (AA)) (by go_simp)
  have c10_5_1 := zcu w10 p9 1 (wL (AA)) (by go_simp)
  clear hc10 hf10
  go_wp2_with fail
  refine (U6.out _).mono ?_
  rintro e w11 ⟨rfl, hb11⟩
  obtain ⟨hc11, hf11⟩ := bcell hb11
  have hz11 := hb11.size
  try simp only [World.size_alloc, World.size_setCell] at hz11
  try have : w.heap.size < w11.heap.size := by omega
  try have : w.heap.size < w11.heap.size + 1 := by omega
  try have : w.heap.size ≤ w11.heap.size := by omega
  try have : w.heap.size + 1 < w11.heap.size := by omega
  try have : w.heap.size + 1 < w11.heap.size + 1 := by omega
  try have : w.heap.size + 1 ≤ w11.heap.size := by omega
  try have : w.heap.size + 1 + 1 < w11.heap.size := by omega
  try have : w.heap.size + 1 + 1 < w11.heap.size + 1 := by omega
  try have : w.heap.size + 1 + 1 ≤ w11.heap.size := by omega
  try have : w.heap.size + 1 + 1 + 1 < w11.heap.size := by omega
  try have : w.heap.size + 1 + 1 + 1 < w11.heap.size + 1 := by omega
  try have : w.heap.size + 1 + 1 + 1 ≤ w11.heap.size := by omega
  try have : w3.heap.size < w11.heap.size := by omega
  try have : w3.heap.size < w11.heap.size + 1 := by omega
  try have : w3.heap.size ≤ w11.heap.size := by omega
  try have : p9 < w11.heap.size := by omega
  try have : p9 < w11.heap.size + 1 := by omega
  try have : p9 ≤ w11.heap.size := by omega
  have c11_0_0 := zci w11 w.heap.size 0 0 (by go_simp)
  have g11_0_0 := zfe w11 w.heap.size 0 (by go_simp)
  have c11_0_1 := zcu w11 w.heap.size 1 0 (by go_simp)
  have g11_0_1 := zfe w11 w.heap.size 1 (by go_simp)
  have c11_1_0 := zci w11 (w.heap.size + 1) 0 0 (by go_simp)
  have g11_1_0 := zfe w11 (w.heap.size + 1) 0 (by go_simp)
  have c11_1_1 := zcu w11 (w.heap.size + 1) 1 0 (by go_simp)
  have g11_1_1 := zfe w11 (w.heap.size + 1) 1 (by go_simp)
  have c11_2_0 := zci w11 (w.heap.size + 1 + 1) 0 0 (by go_simp)
  have g11_2_0 := zfe w11 (w.heap.size + 1 + 1) 0 (by go_simp)
  have c11_2_1 := zcu w11 (w.heap.size + 1 + 1) 1 0 (by go_simp)
  have g11_2_1 := zfe w11 (w.heap.size + 1 + 1) 1 (by go_simp)
  have c11_3_0 := zci w11 (w.heap.size + 1 + 1 + 1) 0 0 (by go_simp)
  have g11_3_0 := zfe w11 (w.heap.size + 1 + 1 + 1) 0 (by go_simp)
  have c11_3_1 := zcu w11 (w.heap.size + 1 + 1 + 1) 1 0 (by go_simp)
  have g11_3_1 := zfe w11 (w.heap.size + 1 + 1 + 1) 1 (by go_simp)
  have c11_4_0 := zci w11 w3.heap.size 0 (wH (BY)) (by go_simp)
  have c11_4_1 := zcu w11 w3.heap.size 1 (wL (BY)) (by go_simp)
  have c11_5_0 := zci w11 p9 0 (wH (AA)) (by go_simp)
  have c11_5_1 := zcu w11 p9 1 (wL (AA)) (by go_simp)
  clear hc11 hf11 c10_0_0 g10_0_0 c10_0_1 g10_0_1 c10_1_0 g10_1_0 c10_1_1 g10_1_1 c10_2_0 g10_2_0 c10_2_1 g10_2_1 c10_3_0 g10_3_0 c10_3_1 g10_3_1 c10_4_0 c10_4_1 c10_5_0 c10_5_1
  go_wp2_with fail
  refine QT.tail_b 12 (by kernel_rfl) (by kernel_rfl) ?_
  simp only [List.take_succ_cons, List.take_zero, List.drop_succ_cons, List.drop_zero]
  repeat (first
   | go_big_quiet_skip
   | (go_big_quiet_want; go_big_quiet_op; first
    | go_big_quiet_on
    | (apply Exists.intro
       refine ⟨fun _ => ?_, ?_⟩
       ·first
        | rfl
        | (intro hC; obtain ⟨hcq, hfq⟩ := bcellB hC; go_simp; done)
        | (intro hC; obtain ⟨hcq, hfq⟩ := bcellB hC; go_simp; rfl)
        | (intro hC; have hcq := bcellG hC; go_simp; done)
        | (intro hC; have hcq := bcellG hC; go_simp; rfl)
        | (intro hC; go_at_call 77; (first | (with_reducible refine (FA.out _).mono ?_) | (with_reducible refine (FB.out _).mono ?_)); (intro e w2 hw; exact ⟨hw.1, qtrans (by simp) hC hw.2⟩))
        | (intro hC; go_at_call 112; (first | (with_reducible refine (CA.out _).mono ?_) | (with_reducible refine (CB.out _).mono ?_)); (intro e w2 hw; exact ⟨hw.1, qtrans (by simp) hC hw.2⟩))
       go_big_quiet_on)))
  refine wpQuiet_nil ?_
  intro w9 hC9
  obtain ⟨hc9, hf9⟩ := bcellB hC9
  have hz9 := hC9.size
  go_wp2
  refine bodyPost_ret (v := .tuple #[.agg #[.int .i64 (wH (AA / BY)), .int .u64 (wL (AA / BY))], .agg #[.int .i64 (wH (cdiv AA BY)), .int .u64 (wL (cdiv AA BY))], .agg #[.int .i64 (wH (BB / BY)), .int .u64 (wL (BB / BY))], .agg #[.int .i64 (wH (cdiv BB BY)), .int .u64 (wL (cdiv BB BY))]]) (by simp only [results, Try.results69]; go_simp) rfl ⟨rfl, blw_⟩
end
end Go.Proofs.Ytacpahebbnnckaa
