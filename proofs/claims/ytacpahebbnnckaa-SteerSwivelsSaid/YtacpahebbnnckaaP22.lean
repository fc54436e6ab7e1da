/- Packed: RDivN. -/
import Derived.Test.YtacpahebbnnckaaP7
import Derived.Test.YtacpahebbnnckaaP21
set_option linter.unusedVariables false
set_option linter.unusedSimpArgs false
namespace Go.Proofs.Ytacpahebbnnckaa
section
open Go.RowKit
set_option maxHeartbeats 40000000 in
set_option maxRecDepth 100000 in
theorem rdiv_loop_NP (al ah bl bh p0 p1 p2 p3 q0 q1 q2 q3 : Int) (v : vB al ah && vB bl bh) (zz : (bl ≤ 0 ∧ ¬ 0 ≤ bh) ∨ ¬ bl ≤ 0) (i0 : I64 al) (j0 : I64 ah) (i1 : I64 bl) (j1 : I64 bh)
  (t0 : ∀ w, Calls Try.prog 129 #[.agg #[.int .i64 (wH (al)), .int .u64 (wL (al))], .agg #[.int .i64 (wH (bl)), .int .u64 (wL (bl))]] w fun e w' => e = .returned (.tuple #[.agg #[.int .i64 (wH (p0)), .int .u64 (wL (p0))], .agg #[.int .i64 (wH (q0)), .int .u64 (wL (q0))]]) ∧ Below w.heap.size w w')
  (t1 : ∀ w, Calls Try.prog 129 #[.agg #[.int .i64 (wH (al)), .int .u64 (wL (al))], .agg #[.int .i64 (wH (bh)), .int .u64 (wL (bh))]] w fun e w' => e = .returned (.tuple #[.agg #[.int .i64 (wH (p1)), .int .u64 (wL (p1))], .agg #[.int .i64 (wH (q1)), .int .u64 (wL (q1))]]) ∧ Below w.heap.size w w')
  (t2 : ∀ w, Calls Try.prog 129 #[.agg #[.int .i64 (wH (ah)), .int .u64 (wL (ah))], .agg #[.int .i64 (wH (bl)), .int .u64 (wL (bl))]] w fun e w' => e = .returned (.tuple #[.agg #[.int .i64 (wH (p2)), .int .u64 (wL (p2))], .agg #[.int .i64 (wH (q2)), .int .u64 (wL (q2))]]) ∧ Below w.heap.size w w')
  (t3 : ∀ w, Calls Try.prog 129 #[.agg #[.int .i64 (wH (ah)), .int .u64 (wL (ah))], .agg #[.int .i64 (wH (bh)), .int .u64 (wL (bh))]] w fun e w' => e = .returned (.tuple #[.agg #[.int .i64 (wH (p3)), .int .u64 (wL (p3))], .agg #[.int .i64 (wH (q3)), .int .u64 (wL (q3))]]) ∧ Below w.heap.size w w')
  (rl rh re : Int) (fin : oLo (mi (mi (mi p0 p1) p2) p3) (mx (mx (mx q0 q1) q2) q3) = rl ∧ oHi (mi (mi (mi p0 p1) p2) p3) (mx (mx (mx q0 q1) q2) q3) = rh ∧ oE (mi (mi (mi p0 p1) p2) p3) (mx (mx (mx q0 q1) q2) q3) = re) (w : World) :
  Calls Try.prog 101 #[.agg #[.int .i64 (al), .int .i64 (ah)], .agg #[.int .i64 (bl), .int .i64 (bh)]] w fun e w' => e = .returned (.tuple #[.agg #[.int .i64 (rl), .int .i64 (rh)], .int .i64 re]) ∧ Below w.heap.size w w' := by
 rcases zz with ⟨zz0, zz1⟩ | zz0
 all_goals
  have FIN := hide fin
  have T0 := hide t0
  have T1 := hide t1
  have T2 := hide t2
  have T3 := hide t3
  have WA := hide (rwide al i0)
  have WB := hide (rwide ah j0)
  have WC := hide (rwide bl i1)
  have WD := hide (rwide bh j1)
  have HV := hide (rboth al ah bl bh 0 (by rw [v]; rfl))
  clear t0 t1 t2 t3 v i0 j0 i1 j1 fin
  go_enter Try.func101, Try.ntmps101
  go_wp2_with fail
  refine (HV.out _).mono ?_
  rintro e w1 ⟨rfl, hb1⟩
  obtain ⟨hc1, hf1⟩ := bcell hb1
  have hz1 := hb1.size
  try simp only [World.size_alloc, World.size_setCell] at hz1
  try have : w.heap.size < w1.heap.size := by omega
  try have : w.heap.size < w1.heap.size + 1 := by omega
  try have : w.heap.size < w1.heap.size + 1 + 1 := by omega
  try have : w.heap.size ≤ w1.heap.size := by omega
  try have : w.heap.size + 1 < w1.heap.size := by omega
  try have : w.heap.size + 1 < w1.heap.size + 1 := by omega
  try have : w.heap.size + 1 < w1.heap.size + 1 + 1 := by omega
  try have : w.heap.size + 1 ≤ w1.heap.size := by omega
  try have : w.heap.size + 1 + 1 < w1.heap.size := by omega
  try have : w.heap.size + 1 + 1 < w1.heap.size + 1 := by omega
  try have : w.heap.size + 1 + 1 < w1.heap.size + 1 + 1 := by omega
  try have : w.heap.size + 1 + 1 ≤ w1.heap.size := by omega
  have c1_0_0 := zci w1 w.heap.size 0 (al) (by go_simp)
  have c1_0_1 := zci w1 w.heap.size 1 (ah) (by go_simp)
  have c1_1_0 := zci w1 (w.heap.size + 1) 0 (bl) (by go_simp)
  have c1_1_1 := zci w1 (w.heap.size + 1) 1 (bh) (by go_simp)
  have c1_2_0 := zci w1 (w.heap.size + 1 + 1) 0 (0) (by go_simp)
  have g1_2_0 := zfe w1 (w.heap.size + 1 + 1) 0 (by go_simp)
  have c1_2_1 := zci w1 (w.heap.size + 1 + 1) 1 (0) (by go_simp)
  have g1_2_1 := zfe w1 (w.heap.size + 1 + 1) 1 (by go_simp)
  clear hc1 hf1
  go_wp2_with fail
  refine (corners_any al ah bl bh _).mono ?_
  rintro e w2 ⟨rfl, hb2, hk2, hcor⟩
  obtain ⟨hc2, hf2⟩ := bcell hb2
  simp only [World.size_alloc] at hk2 hcor
  have hz2 := hb2.size
  simp only [World.size_alloc] at hz2
  have z0 : wH 0 = 0 := rfl
  have z1 : wL 0 = 0 := rfl
  go_wp2
  go_loopw [9, 10, 11] (fun i q q' wr => ∃ k l h : Int, i = .int .i64 k ∧ RunD p0 p1 p2 p3 q0 q1 q2 q3 k l h ∧ MInv w wr (w.heap.size + 1 + 1) w1.heap.size (w1.heap.size + 1) (w1.heap.size + 1 + 1 + 1 + 1) l h ∧ Cor wr (w1.heap.size + 1 + 1 + 1 + 1) al ah bl bh) (fun i _ _ _ => (4 - intOf i).toNat)
  case atStart =>
   exact ⟨0, 0, 0, rfl, Or.inl ⟨rfl, rfl, rfl⟩, ⟨blw_, by omega, by omega, by omega, by omega, by omega, by go_simp, by go_simp, by go_simp, by go_simp, by go_simp, by go_simp, by go_simp, by go_simp, by go_simp, by go_simp, by go_simp, by go_simp⟩, hcor⟩
  case round =>
   obtain ⟨k, l, h, rfl, hR, hM, hC⟩ := hrel
   clear hcor hk2 hc2 hf2 hz2 hb2
   obtain ⟨CC, hCC⟩ : ∃ b, w1.heap.size + 1 + 1 + 1 + 1 = b := ⟨_, rfl⟩
   obtain ⟨HI, hHI⟩ : ∃ b, w1.heap.size + 1 = b := ⟨_, rfl⟩
   obtain ⟨LO, hLO⟩ : ∃ b, w1.heap.size = b := ⟨_, rfl⟩
   obtain ⟨RR, hRR⟩ : ∃ b, w.heap.size + 1 + 1 = b := ⟨_, rfl⟩
   rw [hCC] at hM hC ⊢
   rw [hRR] at hM ⊢
   rw [hHI, hLO] at hM ⊢
   obtain ⟨hB, h0, h1, h2, h3, h4, r0, r1, l0, l1, g0, g1, fr0, fr1, fl0, fl1, fg0, fg1⟩ := hM
   obtain ⟨x0, x1, x2, x3, x4, x5, x6, x7⟩ := hC
   clear hCC hHI hLO hRR
   have : ¬ RR = LO := by omega
   have : ¬ RR = HI := by omega
   have : ¬ RR = CC := by omega
   have : ¬ LO = RR := by omega
   have : ¬ LO = HI := by omega
   have : ¬ LO = CC := by omega
   have : ¬ HI = RR := by omega
   have : ¬ HI = LO := by omega
   have : ¬ HI = CC := by omega
   have : ¬ CC = RR := by omega
   have : ¬ CC = LO := by omega
   have : ¬ CC = HI := by omega
   have : RR < wr.heap.size := by omega
   have : LO < wr.heap.size := by omega
   have : HI < wr.heap.size := by omega
   have : CC < wr.heap.size := by omega
   rcases hR with hR | hR | hR | hR | hR
   ·-- round 0
    have hbr : Below wr.heap.size wr wr := Below.refl _ _
    obtain ⟨rfl, rfl, rfl⟩ := hR
    go_wp2_with fail
    refine QG.region_float2_ex 16 72 (QG.FD2 _ _ (.int .i64 0) (.int .u64 0) (.int .i64 (wH p0)) (.int .u64 (wL p0))) _ _ _ (by kernel_rfl) (by kernel_rfl) rfl rfl rfl rfl rfl rfl rfl (by kernel_rfl) (by kernel_rfl) rfl (show QG.FD2 _ _ _ _ _ _ (none, none, false) _ from ⟨(hbr).drew, trivial, trivial, trivial⟩) ?_
    apply Exists.intro
    refine ⟨fun j => ?h1, ?hf1, ?hf2, ?hf3, ?ht⟩
    case h1 =>
     simp only [List.take_succ_cons, List.take_zero, List.drop_succ_cons, List.drop_zero]
     repeat (first
      | go_big_quiet_skip
      | (go_big_quiet_want; go_big_quiet_op; first
       | go_big_quiet_on
       | (apply Exists.intro
          refine ⟨fun _ => ?_, ?_⟩
          ·first
           | rfl
           | (intro hC; obtain ⟨hcq, hfq⟩ := bcellB (QG.FD2.below hC); go_simp; done)
           | (intro hC; obtain ⟨hcq, hfq⟩ := bcellB (QG.FD2.below hC); go_simp; rfl)
           | (intro hC; have hcq := bcellG (QG.FD2.below hC); go_simp; done)
           | (intro hC; have hcq := bcellG (QG.FD2.below hC); go_simp; rfl)
           | (intro hC; go_at_call 79; (first | (with_reducible refine (WA.out _).mono ?_) | (with_reducible refine (WC.out _).mono ?_)); (intro e w2 hw; exact ⟨hw.1, QG.FD2.call (by simp) hC hw.2⟩))
           | (intro hC; go_at_call 129; (first | (with_reducible refine (T0.out _).mono ?_)); (intro e w2 hw; exact ⟨hw.1, QG.FD2.call (by simp) hC hw.2⟩))
          go_big_quiet_on)))
     exact wpQuiet_nil rfl
    case hf1 =>
     intro f8 w8 hD8
     have hm8 := QG.FD2.made1 (t := 107) (by simp) hD8
     go_simp
     simpa [QF.floatRes] using hm8
    case hf2 =>
     intro f8 b8 w8 hD8
     have hm8 := QG.FD2.made2 (t := 107) (by simp) hD8
     go_simp
     simpa [QF.floatRes] using hm8
    case hf3 =>
     intro u8 f8 w8 hD8
     obtain ⟨p8, rfl, hp8, fc0, fc1, ff0, ff1⟩ := QG.FD2.open_ hD8
     have hm8 := QG.FD2.stored (by simp) hD8
     go_simp
     simpa [QF.floatRes] using hm8
    case ht =>
     intro u9 v9 w9 hD9
     simp only [List.drop_succ_cons, List.drop_zero]
     obtain ⟨hC9, ⟨p9, rfl, hp9, hq9, bc0, bc1, bf0, bf1⟩, ⟨q9, rfl, hp8, hq8, dc0, dc1, df0, df1⟩, htw⟩ := hD9
     simp only [if_true] at bc0 bc1
     have hne9 : ¬ p9 = q9 := fun h => htw (by rw [h])
     have hne8 : ¬ q9 = p9 := fun h => hne9 h.symm
     obtain ⟨hc9, hf9⟩ := bcellB hC9
     have hz9 := hC9.size
     try simp only [World.size_alloc, World.size_setCell] at hz9 hp9 hp8
     clear htw
     have hp : ¬ RR = p9 ∧ ¬ LO = p9 ∧ ¬ HI = p9 ∧ ¬ CC = p9 ∧ ¬ p9 = RR ∧ ¬ p9 = LO ∧ ¬ p9 = HI ∧ ¬ p9 = CC := by omega
     obtain ⟨np1, np2, np3, np4, np5, np6, np7, np8⟩ := hp
     have hq : ¬ RR = q9 ∧ ¬ LO = q9 ∧ ¬ HI = q9 ∧ ¬ CC = q9 ∧ ¬ q9 = RR ∧ ¬ q9 = LO ∧ ¬ q9 = HI ∧ ¬ q9 = CC := by omega
     obtain ⟨mp1, mp2, mp3, mp4, mp5, mp6, mp7, mp8⟩ := hq
     have wz1 : RR < w9.heap.size ∧ LO < w9.heap.size ∧ HI < w9.heap.size ∧ CC < w9.heap.size := by omega
     obtain ⟨wz1, wz2, wz3, wz4⟩ := wz1
     go_wp2
     go_roundw
     case rel => exact ⟨1, p0, q0, by first | rfl | go_num, Or.inr (Or.inl ⟨by omega, rfl, rfl⟩), ⟨by first | exact (hB.trans blw_) | skip, by omega, by omega, by omega, by omega, by first | omega | (simp <;> omega), by go_simp, by go_simp, by go_simp, by go_simp, by go_simp, by go_simp, by go_simp, by go_simp, by go_simp, by go_simp, by go_simp, by go_simp⟩, ⟨by go_simp, by go_simp, by go_simp, by go_simp, by go_simp, by go_simp, by go_simp, by go_simp⟩⟩
     case measure => simp [intOf]
   ·-- round 1
    have hbr : Below wr.heap.size wr wr := Below.refl _ _
    obtain ⟨rfl, hl, hh⟩ := hR
    have HL := hide hl
    have HH := hide hh
    clear hl hh
    go_wp2_with fail
    refine QG.region_float2_ex 16 72 (QG.FD2 _ _ (.int .i64 0) (.int .u64 0) (.int .i64 (wH p1)) (.int .u64 (wL p1))) _ _ _ (by kernel_rfl) (by kernel_rfl) rfl rfl rfl rfl rfl rfl rfl (by kernel_rfl) (by kernel_rfl) rfl (show QG.FD2 _ _ _ _ _ _ (none, none, false) _ from ⟨(hbr).drew, trivial, trivial, trivial⟩) ?_
    apply Exists.intro
    refine ⟨fun j => ?h1, ?hf1, ?hf2, ?hf3, ?ht⟩
    case h1 =>
     simp only [List.take_succ_cons, List.take_zero, List.drop_succ_cons, List.drop_zero]
     repeat (first
      | go_big_quiet_skip
      | (go_big_quiet_want; go_big_quiet_op; first
       | go_big_quiet_on
       | (apply Exists.intro
          refine ⟨fun _ => ?_, ?_⟩
          ·first
           | rfl
           | (intro hC; obtain ⟨hcq, hfq⟩ := bcellB (QG.FD2.below hC); go_simp; done)
           | (intro hC; obtain ⟨hcq, hfq⟩ := bcellB (QG.FD2.below hC); go_simp; rfl)
           | (intro hC; have hcq := bcellG (QG.FD2.below hC); go_simp; done)
           | (intro hC; have hcq := bcellG (QG.FD2.below hC); go_simp; rfl)
           | (intro hC; go_at_call 79; (first | (with_reducible refine (WA.out _).mono ?_) | (with_reducible refine (WD.out _).mono ?_)); (intro e w2 hw; exact ⟨hw.1, QG.FD2.call (by simp) hC hw.2⟩))
           | (intro hC; go_at_call 129; (first | (with_reducible refine (T1.out _).mono ?_)); (intro e w2 hw; exact ⟨hw.1, QG.FD2.call (by simp) hC hw.2⟩))
          go_big_quiet_on)))
     exact wpQuiet_nil rfl
    case hf1 =>
     intro f8 w8 hD8
     have hm8 := QG.FD2.made1 (t := 107) (by simp) hD8
     go_simp
     simpa [QF.floatRes] using hm8
    case hf2 =>
     intro f8 b8 w8 hD8
     have hm8 := QG.FD2.made2 (t := 107) (by simp) hD8
     go_simp
     simpa [QF.floatRes] using hm8
    case hf3 =>
     intro u8 f8 w8 hD8
     obtain ⟨p8, rfl, hp8, fc0, fc1, ff0, ff1⟩ := QG.FD2.open_ hD8
     have hm8 := QG.FD2.stored (by simp) hD8
     go_simp
     simpa [QF.floatRes] using hm8
    case ht =>
     intro u9 v9 w9 hD9
     simp only [List.drop_succ_cons, List.drop_zero]
     obtain ⟨hC9, ⟨p9, rfl, hp9, hq9, bc0, bc1, bf0, bf1⟩, ⟨q9, rfl, hp8, hq8, dc0, dc1, df0, df1⟩, htw⟩ := hD9
     simp only [if_true] at bc0 bc1
     have hne9 : ¬ p9 = q9 := fun h => htw (by rw [h])
     have hne8 : ¬ q9 = p9 := fun h => hne9 h.symm
     obtain ⟨hc9, hf9⟩ := bcellB hC9
     have hz9 := hC9.size
     try simp only [World.size_alloc, World.size_setCell] at hz9 hp9 hp8
     clear htw
     have hp : ¬ RR = p9 ∧ ¬ LO = p9 ∧ ¬ HI = p9 ∧ ¬ CC = p9 ∧ ¬ p9 = RR ∧ ¬ p9 = LO ∧ ¬ p9 = HI ∧ ¬ p9 = CC := by omega
     obtain ⟨np1, np2, np3, np4, np5, np6, np7, np8⟩ := hp
     have hq : ¬ RR = q9 ∧ ¬ LO = q9 ∧ ¬ HI = q9 ∧ ¬ CC = q9 ∧ ¬ q9 = RR ∧ ¬ q9 = LO ∧ ¬ q9 = HI ∧ ¬ q9 = CC := by omega
     obtain ⟨mp1, mp2, mp3, mp4, mp5, mp6, mp7, mp8⟩ := hq
     have wz1 : RR < w9.heap.size ∧ LO < w9.heap.size ∧ HI < w9.heap.size ∧ CC < w9.heap.size := by omega
     obtain ⟨wz1, wz2, wz3, wz4⟩ := wz1
     by_cases c1 : p1 < l
     ·have D1 := hide (rless_r p1 l true (decide_eq_true c1))
      by_cases c2 : h < q1
      ·have D2 := hide (rless_r h q1 true (decide_eq_true c2))
       have EL : Hid (p1 = mi l p1) := hide ((if_pos c1).symm)
       have EH : Hid (q1 = mx h q1) := hide ((if_pos c2).symm)
       clear c1 c2
       go_wp2_with fail
       refine (D1.out _).mono ?_
       rintro e w1 ⟨rfl, hb1⟩
       obtain ⟨hc1, hf1⟩ := bcell hb1
       have hz1 := hb1.size
       try simp only [World.size_alloc, World.size_setCell] at hz1
       try refine zb RR w1 (by omega) fun _ _ => ?_
       try refine zb LO w1 (by omega) fun _ _ => ?_
       try refine zb HI w1 (by omega) fun _ _ => ?_
       try refine zb CC w1 (by omega) fun _ _ => ?_
       try refine zb p9 w1 (by omega) fun _ _ => ?_
       try refine zb q9 w1 (by omega) fun _ _ => ?_
       have c1_0_0 := zci w1 RR 0 (0) (by go_simp)
       have g1_0_0 := zfe w1 RR 0 (by go_simp)
       have c1_0_1 := zci w1 RR 1 (0) (by go_simp)
       have g1_0_1 := zfe w1 RR 1 (by go_simp)
       have c1_1_0 := zci w1 LO 0 (wH (l)) (by go_simp)
       have g1_1_0 := zfe w1 LO 0 (by go_simp)
       have c1_1_1 := zcu w1 LO 1 (wL (l)) (by go_simp)
       have g1_1_1 := zfe w1 LO 1 (by go_simp)
       have c1_2_0 := zci w1 HI 0 (wH (h)) (by go_simp)
       have g1_2_0 := zfe w1 HI 0 (by go_simp)
       have c1_2_1 := zcu w1 HI 1 (wL (h)) (by go_simp)
       have g1_2_1 := zfe w1 HI 1 (by go_simp)
       have c1_3_0 := zci w1 CC 0 (al) (by go_simp)
       have c1_3_1 := zci w1 CC 1 (bl) (by go_simp)
       have c1_3_2 := zci w1 CC 2 (al) (by go_simp)
       have c1_3_3 := zci w1 CC 3 (bh) (by go_simp)
       have c1_3_4 := zci w1 CC 4 (ah) (by go_simp)
       have c1_3_5 := zci w1 CC 5 (bl) (by go_simp)
       have c1_3_6 := zci w1 CC 6 (ah) (by go_simp)
       have c1_3_7 := zci w1 CC 7 (bh) (by go_simp)
       have c1_4_0 := zci w1 p9 0 (wH (p1)) (by go_simp)
       have c1_4_1 := zcu w1 p9 1 (wL (p1)) (by go_simp)
       have c1_5_0 := zci w1 q9 0 (wH (q1)) (by go_simp)
       have c1_5_1 := zcu w1 q9 1 (wL (q1)) (by go_simp)
       clear hc1 hf1
       go_wp2_with fail
       refine (D2.out _).mono ?_
       rintro e w2 ⟨rfl, hb2⟩
       obtain ⟨hc2, hf2⟩ := bcell hb2
       have hz2 := hb2.size
       try simp only [World.size_alloc, World.size_setCell] at hz2
       try refine zb RR w2 (by omega) fun _ _ => ?_
       try refine zb LO w2 (by omega) fun _ _ => ?_
       try refine zb HI w2 (by omega) fun _ _ => ?_
       try refine zb CC w2 (by omega) fun _ _ => ?_
       try refine zb p9 w2 (by omega) fun _ _ => ?_
       try refine zb q9 w2 (by omega) fun _ _ => ?_
       have c2_0_0 := zci w2 RR 0 (0) (by go_simp)
       have g2_0_0 := zfe w2 RR 0 (by go_simp)
       have c2_0_1 := zci w2 RR 1 (0) (by go_simp)
       have g2_0_1 := zfe w2 RR 1 (by go_simp)
       have c2_1_0 := zci w2 LO 0 (wH (p1)) (by go_simp)
       have g2_1_0 := zfe w2 LO 0 (by go_simp)
       have c2_1_1 := zcu w2 LO 1 (wL (p1)) (by go_simp)
       have g2_1_1 := zfe w2 LO 1 (by go_simp)
       have c2_2_0 := zci w2 HI 0 (wH (h)) (by go_simp)
       have g2_2_0 := zfe w2 HI 0 (by go_simp)
       have c2_2_1 := zcu w2 HI 1 (wL (h)) (by go_simp)
       have g2_2_1 := zfe w2 HI 1 (by go_simp)
       have c2_3_0 := zci w2 CC 0 (al) (by go_simp)
       have c2_3_1 := zci w2 CC 1 (bl) (by go_simp)
       have c2_3_2 := zci w2 CC 2 (al) (by go_simp)
       have c2_3_3 := zci w2 CC 3 (bh) (by go_simp)
       have c2_3_4 := zci w2 CC 4 (ah) (by go_simp)
       have c2_3_5 := zci w2 CC 5 (bl) (by go_simp)
       have c2_3_6 := zci w2 CC 6 (ah) (by go_simp)
       have c2_3_7 := zci w2 CC 7 (bh) (by go_simp)
       have c2_4_0 := zci w2 p9 0 (wH (p1)) (by go_simp)
       have c2_4_1 := zcu w2 p9 1 (wL (p1)) (by go_simp)
       have c2_5_0 := zci w2 q9 0 (wH (q1)) (by go_simp)
       have c2_5_1 := zcu w2 q9 1 (wL (q1)) (by go_simp)
       clear hc2 hf2 c1_0_0 g1_0_0 c1_0_1 g1_0_1 c1_1_0 g1_1_0 c1_1_1 g1_1_1 c1_2_0 g1_2_0 c1_2_1 g1_2_1 c1_3_0 c1_3_1 c1_3_2 c1_3_3 c1_3_4 c1_3_5 c1_3_6 c1_3_7 c1_4_0 c1_4_1 c1_5_0 c1_5_1
       go_wp2
       go_roundw
       case rel => exact ⟨2, p1, q1, by first | rfl | go_num, Or.inr (Or.inr (Or.inl ⟨by omega, EL.out.trans (congrArg (fun t => mi t p1) HL.out), EH.out.trans (congrArg (fun t => mx t q1) HH.out)⟩)), ⟨by first | exact (hB.trans blw_) | skip, by omega, by omega, by omega, by omega, by first | omega | (simp <;> omega), by go_simp, by go_simp, by go_simp, by go_simp, by go_simp, by go_simp, by go_simp, by go_simp, by go_simp, by go_simp, by go_simp, by go_simp⟩, ⟨by go_simp, by go_simp, by go_simp, by go_simp, by go_simp, by go_simp, by go_simp, by go_simp⟩⟩
       case measure => simp [intOf]
      ·have D2 := hide (rless_r h q1 false (decide_eq_false c2))
       have EL : Hid (p1 = mi l p1) := hide ((if_pos c1).symm)
       have EH : Hid (h = mx h q1) := hide ((if_neg c2).symm)
       clear c1 c2
       go_wp2_with fail
       refine (D1.out _).mono ?_
       rintro e w1 ⟨rfl, hb1⟩
       obtain ⟨hc1, hf1⟩ := bcell hb1
       have hz1 := hb1.size
       try simp only [World.size_alloc, World.size_setCell] at hz1
       try refine zb RR w1 (by omega) fun _ _ => ?_
       try refine zb LO w1 (by omega) fun _ _ => ?_
       try refine zb HI w1 (by omega) fun _ _ => ?_
       try refine zb CC w1 (by omega) fun _ _ => ?_
       try refine zb p9 w1 (by omega) fun _ _ => ?_
       try refine zb q9 w1 (by omega) fun _ _ => ?_
       have c1_0_0 := zci w1 RR 0 (0) (by go_simp)
       have g1_0_0 := zfe w1 RR 0 (by go_simp)
       have c1_0_1 := zci w1 RR 1 (0) (by go_simp)
       have g1_0_1 := zfe w1 RR 1 (by go_simp)
       have c1_1_0 := zci w1 LO 0 (wH (l)) (by go_simp)
       have g1_1_0 := zfe w1 LO 0 (by go_simp)
       have c1_1_1 := zcu w1 LO 1 (wL (l)) (by go_simp)
       have g1_1_1 := zfe w1 LO 1 (by go_simp)
       have c1_2_0 := zci w1 HI 0 (wH (h)) (by go_simp)
       have g1_2_0 := zfe w1 HI 0 (by go_simp)
       have c1_2_1 := zcu w1 HI 1 (wL (h)) (by go_simp)
       have g1_2_1 := zfe w1 HI 1 (by go_simp)
       have c1_3_0 := zci w1 CC 0 (al) (by go_simp)
       have c1_3_1 := zci w1 CC 1 (bl) (by go_simp)
       have c1_3_2 := zci w1 CC 2 (al) (by go_simp)
       have c1_3_3 := zci w1 CC 3 (bh) (by go_simp)
       have c1_3_4 := zci w1 CC 4 (ah) (by go_simp)
       have c1_3_5 := zci w1 CC 5 (bl) (by go_simp)
       have c1_3_6 := zci w1 CC 6 (ah) (by go_simp)
       have c1_3_7 := zci w1 CC 7 (bh) (by go_simp)
       have c1_4_0 := zci w1 p9 0 (wH (p1)) (by go_simp)
       have c1_4_1 := zcu w1 p9 1 (wL (p1)) (by go_simp)
       have c1_5_0 := zci w1 q9 0 (wH (q1)) (by go_simp)
       have c1_5_1 := zcu w1 q9 1 (wL (q1)) (by go_simp)
       clear hc1 hf1
       go_wp2_with fail
       refine (D2.out _).mono ?_
       rintro e w2 ⟨rfl, hb2⟩
       obtain ⟨hc2, hf2⟩ := bcell hb2
       have hz2 := hb2.size
       try simp only [World.size_alloc, World.size_setCell] at hz2
       try refine zb RR w2 (by omega) fun _ _ => ?_
       try refine zb LO w2 (by omega) fun _ _ => ?_
       try refine zb HI w2 (by omega) fun _ _ => ?_
       try refine zb CC w2 (by omega) fun _ _ => ?_
       try refine zb p9 w2 (by omega) fun _ _ => ?_
       try refine zb q9 w2 (by omega) fun _ _ => ?_
       have c2_0_0 := zci w2 RR 0 (0) (by go_simp)
       have g2_0_0 := zfe w2 RR 0 (by go_simp)
       have c2_0_1 := zci w2 RR 1 (0) (by go_simp)
       have g2_0_1 := zfe w2 RR 1 (by go_simp)
       have c2_1_0 := zci w2 LO 0 (wH (p1)) (by go_simp)
       have g2_1_0 := zfe w2 LO 0 (by go_simp)
       have c2_1_1 := zcu w2 LO 1 (wL (p1)) (by go_simp)
       have g2_1_1 := zfe w2 LO 1 (by go_simp)
       have c2_2_0 := zci w2 HI 0 (wH (h)) (by go_simp)
       have g2_2_0 := zfe w2 HI 0 (by go_simp)
       have c2_2_1 := zcu w2 HI 1 (wL (h)) (by go_simp)
       have g2_2_1 := zfe w2 HI 1 (by go_simp)
       have c2_3_0 := zci w2 CC 0 (al) (by go_simp)
       have c2_3_1 := zci w2 CC 1 (bl) (by go_simp)
       have c2_3_2 := zci w2 CC 2 (al) (by go_simp)
       have c2_3_3 := zci w2 CC 3 (bh) (by go_simp)
       have c2_3_4 := zci w2 CC 4 (ah) (by go_simp)
       have c2_3_5 := zci w2 CC 5 (bl) (by go_simp)
       have c2_3_6 := zci w2 CC 6 (ah) (by go_simp)
       have c2_3_7 := zci w2 CC 7 (bh) (by go_simp)
       have c2_4_0 := zci w2 p9 0 (wH (p1)) (by go_simp)
       have c2_4_1 := zcu w2 p9 1 (wL (p1)) (by go_simp)
       have c2_5_0 := zci w2 q9 0 (wH (q1)) (by go_simp)
       have c2_5_1 := zcu w2 q9 1 (wL (q1)) (by go_simp)
       clear hc2 hf2 c1_0_0 g1_0_0 c1_0_1 g1_0_1 c1_1_0 g1_1_0 c1_1_1 g1_1_1 c1_2_0 g1_2_0 c1_2_1 g1_2_1 c1_3_0 c1_3_1 c1_3_2 c1_3_3 c1_3_4 c1_3_5 c1_3_6 c1_3_7 c1_4_0 c1_4_1 c1_5_0 c1_5_1
       go_wp2
       go_roundw
       case rel => exact ⟨2, p1, h, by first | rfl | go_num, Or.inr (Or.inr (Or.inl ⟨by omega, EL.out.trans (congrArg (fun t => mi t p1) HL.out), EH.out.trans (congrArg (fun t => mx t q1) HH.out)⟩)), ⟨by first | exact (hB.trans blw_) | skip, by omega, by omega, by omega, by omega, by first | omega | (simp <;> omega), by go_simp, by go_simp, by go_simp, by go_simp, by go_simp, by go_simp, by go_simp, by go_simp, by go_simp, by go_simp, by go_simp, by go_simp⟩, ⟨by go_simp, by go_simp, by go_simp, by go_simp, by go_simp, by go_simp, by go_simp, by go_simp⟩⟩
       case measure => simp [intOf]
     ·have D1 := hide (rless_r p1 l false (decide_eq_false c1))
      by_cases c2 : h < q1
      ·have D2 := hide (rless_r h q1 true (decide_eq_true c2))
       have EL : Hid (l = mi l p1) := hide ((if_neg c1).symm)
       have EH : Hid (q1 = mx h q1) := hide ((if_pos c2).symm)
       clear c1 c2
       go_wp2_with fail
       refine (D1.out _).mono ?_
       rintro e w1 ⟨rfl, hb1⟩
       obtain ⟨hc1, hf1⟩ := bcell hb1
       have hz1 := hb1.size
       try simp only [World.size_alloc, World.size_setCell] at hz1
       try refine zb RR w1 (by omega) fun _ _ => ?_
       try refine zb LO w1 (by omega) fun _ _ => ?_
       try refine zb HI w1 (by omega) fun _ _ => ?_
       try refine zb CC w1 (by omega) fun _ _ => ?_
       try refine zb p9 w1 (by omega) fun _ _ => ?_
       try refine zb q9 w1 (by omega) fun _ _ => ?_
       have c1_0_0 := zci w1 RR 0 (0) (by go_simp)
       have g1_0_0 := zfe w1 RR 0 (by go_simp)
       have c1_0_1 := zci w1 RR 1 (0) (by go_simp)
       have g1_0_1 := zfe w1 RR 1 (by go_simp)
       have c1_1_0 := zci w1 LO 0 (wH (l)) (by go_simp)
       have g1_1_0 := zfe w1 LO 0 (by go_simp)
       have c1_1_1 := zcu w1 LO 1 (wL (l)) (by go_simp)
       have g1_1_1 := zfe w1 LO 1 (by go_simp)
       have c1_2_0 := zci w1 HI 0 (wH (h)) (by go_simp)
       have g1_2_0 := zfe w1 HI 0 (by go_simp)
       have c1_2_1 := zcu w1 HI 1 (wL (h)) (by go_simp)
       have g1_2_1 := zfe w1 HI 1 (by go_simp)
       have c1_3_0 := zci w1 CC 0 (al) (by go_simp)
       have c1_3_1 := zci w1 CC 1 (bl) (by go_simp)
       have c1_3_2 := zci w1 CC 2 (al) (by go_simp)
       have c1_3_3 := zci w1 CC 3 (bh) (by go_simp)
       have c1_3_4 := zci w1 CC 4 (ah) (by go_simp)
       have c1_3_5 := zci w1 CC 5 (bl) (by go_simp)
       have c1_3_6 := zci w1 CC 6 (ah) (by go_simp)
       have c1_3_7 := zci w1 CC 7 (bh) (by go_simp)
       have c1_4_0 := zci w1 p9 0 (wH (p1)) (by go_simp)
       have c1_4_1 := zcu w1 p9 1 (wL (p1)) (by go_simp)
       have c1_5_0 := zci w1 q9 0 (wH (q1)) (by go_simp)
       have c1_5_1 := zcu w1 q9 1 (wL (q1)) (by go_simp)
       clear hc1 hf1
       go_wp2_with fail
       refine (D2.out _).mono ?_
       rintro e w2 ⟨rfl, hb2⟩
       obtain ⟨hc2, hf2⟩ := bcell hb2
       have hz2 := hb2.size
       try simp only [World.size_alloc, World.size_setCell] at hz2
       try refine zb RR w2 (by omega) fun _ _ => ?_
       try refine zb LO w2 (by omega) fun _ _ => ?_
       try refine zb HI w2 (by omega) fun _ _ => ?_
       try refine zb CC w2 (by omega) fun _ _ => ?_
       try refine zb p9 w2 (by omega) fun _ _ => ?_
       try refine zb q9 w2 (by omega) fun _ _ => ?_
       have c2_0_0 := zci w2 RR 0 (0) (by go_simp)
       have g2_0_0 := zfe w2 RR 0 (by go_simp)
       have c2_0_1 := zci w2 RR 1 (0) (by go_simp)
       have g2_0_1 := zfe w2 RR 1 (by go_simp)
       have c2_1_0 := zci w2 LO 0 (wH (l)) (by go_simp)
       have g2_1_0 := zfe w2 LO 0 (by go_simp)
       have c2_1_1 := zcu w2 LO 1 (wL (l)) (by go_simp)
       have g2_1_1 := zfe w2 LO 1 (by go_simp)
       have c2_2_0 := zci w2 HI 0 (wH (h)) (by go_simp)
       have g2_2_0 := zfe w2 HI 0 (by go_simp)
       have c2_2_1 := zcu w2 HI 1 (wL (h)) (by go_simp)
       have g2_2_1 := zfe w2 HI 1 (by go_simp)
       have c2_3_0 := zci w2 CC 0 (al) (by go_simp)
       have c2_3_1 := zci w2 CC 1 (bl) (by go_simp)
       have c2_3_2 := zci w2 CC 2 (al) (by go_simp)
       have c2_3_3 := zci w2 CC 3 (bh) (by go_simp)
       have c2_3_4 := zci w2 CC 4 (ah) (by go_simp)
       have c2_3_5 := zci w2 CC 5 (bl) (by go_simp)
       have c2_3_6 := zci w2 CC 6 (ah) (by go_simp)
       have c2_3_7 := zci w2 CC 7 (bh) (by go_simp)
       have c2_4_0 := zci w2 p9 0 (wH (p1)) (by go_simp)
       have c2_4_1 := zcu w2 p9 1 (wL (p1)) (by go_simp)
       have c2_5_0 := zci w2 q9 0 (wH (q1)) (by go_simp)
       have c2_5_1 := zcu w2 q9 1 (wL (q1)) (by go_simp)
       clear hc2 hf2 c1_0_0 g1_0_0 c1_0_1 g1_0_1 c1_1_0 g1_1_0 c1_1_1 g1_1_1 c1_2_0 g1_2_0 c1_2_1 g1_2_1 c1_3_0 c1_3_1 c1_3_2 c1_3_3 c1_3_4 c1_3_5 c1_3_6 c1_3_7 c1_4_0 c1_4_1 c1_5_0 c1_5_1
       go_wp2
       go_roundw
       case rel => exact ⟨2, l, q1, by first | rfl | go_num, Or.inr (Or.inr (Or.inl ⟨by omega, EL.out.trans (congrArg (fun t => mi t p1) HL.out), EH.out.trans (congrArg (fun t => mx t q1) HH.out)⟩)), ⟨by first | exact (hB.trans blw_) | skip, by omega, by omega, by omega, by omega, by first | omega | (simp <;> omega), by go_simp, by go_simp, by go_simp, by go_simp, by go_simp, by go_simp, by go_simp, by go_simp, by go_simp, by go_simp, by go_simp, by go_simp⟩, ⟨by go_simp, by go_simp, by go_simp, by go_simp, by go_simp, by go_simp, by go_simp, by go_simp⟩⟩
       case measure => simp [intOf]
      ·have D2 := hide (rless_r h q1 false (decide_eq_false c2))
       have EL : Hid (l = mi l p1) := hide ((if_neg c1).symm)
       have EH : Hid (h = mx h q1) := hide ((if_neg c2).symm)
       clear c1 c2
       go_wp2_with fail
       refine (D1.out _).mono ?_
       rintro e w1 ⟨rfl, hb1⟩
       obtain ⟨hc1, hf1⟩ := bcell hb1
       have hz1 := hb1.size
       try simp only [World.size_alloc, World.size_setCell] at hz1
       try refine zb RR w1 (by omega) fun _ _ => ?_
       try refine zb LO w1 (by omega) fun _ _ => ?_
       try refine zb HI w1 (by omega) fun _ _ => ?_
       try refine zb CC w1 (by omega) fun _ _ => ?_
       try refine zb p9 w1 (by omega) fun _ _ => ?_
       try refine zb q9 w1 (by omega) fun _ _ => ?_
       have c1_0_0 := zci w1 RR 0 (0) (by go_simp)
       have g1_0_0 := zfe w1 RR 0 (by go_simp)
       have c1_0_1 := zci w1 RR 1 (0) (by go_simp)
       have g1_0_1 := zfe w1 RR 1 (by go_simp)
       have c1_1_0 := zci w1 LO 0 (wH (l)) (by go_simp)
       have g1_1_0 := zfe w1 LO 0 (by go_simp)
       have c1_1_1 := zcu w1 LO 1 (wL (l)) (by go_simp)
       have g1_1_1 := zfe w1 LO 1 (by go_simp)
       have c1_2_0 := zci w1 HI 0 (wH (h)) (by go_simp)
       have g1_2_0 := zfe w1 HI 0 (by go_simp)
       have c1_2_1 := zcu w1 HI 1 (wL (h)) (by go_simp)
       have g1_2_1 := zfe w1 HI 1 (by go_simp)
       have c1_3_0 := zci w1 CC 0 (al) (by go_simp)
       have c1_3_1 := zci w1 CC 1 (bl) (by go_simp)
       have c1_3_2 := zci w1 CC 2 (al) (by go_simp)
       have c1_3_3 := zci w1 CC 3 (bh) (by go_simp)
       have c1_3_4 := zci w1 CC 4 (ah) (by go_simp)
       have c1_3_5 := zci w1 CC 5 (bl) (by go_simp)
       have c1_3_6 := zci w1 CC 6 (ah) (by go_simp)
       have c1_3_7 := zci w1 CC 7 (bh) (by go_simp)
       have c1_4_0 := zci w1 p9 0 (wH (p1)) (by go_simp)
       have c1_4_1 := zcu w1 p9 1 (wL (p1)) (by go_simp)
       have c1_5_0 := zci w1 q9 0 (wH (q1)) (by go_simp)
       have c1_5_1 := zcu w1 q9 1 (wL (q1)) (by go_simp)
       clear hc1 hf1
       go_wp2_with fail
       refine (D2.out _).mono ?_
       rintro e w2 ⟨rfl, hb2⟩
       obtain ⟨hc2, hf2⟩ := bcell hb2
       have hz2 := hb2.size
       try simp only [World.size_alloc, World.size_setCell] at hz2
       try refine zb RR w2 (by omega) fun _ _ => ?_
       try refine zb LO w2 (by omega) fun _ _ => ?_
       try refine zb HI w2 (by omega) fun _ _ => ?_
       try refine zb CC w2 (by omega) fun _ _ => ?_
       try refine zb p9 w2 (by omega) fun _ _ => ?_
       try refine zb q9 w2 (by omega) fun _ _ => ?_
       have c2_0_0 := zci w2 RR 0 (0) (by go_simp)
       have g2_0_0 := zfe w2 RR 0 (by go_simp)
       have c2_0_1 := zci w2 RR 1 (0) (by go_simp)
       have g2_0_1 := zfe w2 RR 1 (by go_simp)
       have c2_1_0 := zci w2 LO 0 (wH (l)) (by go_simp)
       have g2_1_0 := zfe w2 LO 0 (by go_simp)
       have c2_1_1 := zcu w2 LO 1 (wL (l)) (by go_simp)
       have g2_1_1 := zfe w2 LO 1 (by go_simp)
       have c2_2_0 := zci w2 HI 0 (wH (h)) (by go_simp)
       have g2_2_0 := zfe w2 HI 0 (by go_simp)
       have c2_2_1 := zcu w2 HI 1 (wL (h)) (by go_simp)
       have g2_2_1 := zfe w2 HI 1 (by go_simp)
       have c2_3_0 := zci w2 CC 0 (al) (by go_simp)
       have c2_3_1 := zci w2 CC 1 (bl) (by go_simp)
       have c2_3_2 := zci w2 CC 2 (al) (by go_simp)
       have c2_3_3 := zci w2 CC 3 (bh) (by go_simp)
       have c2_3_4 := zci w2 CC 4 (ah) (by go_simp)
       have c2_3_5 := zci w2 CC 5 (bl) (by go_simp)
       have c2_3_6 := zci w2 CC 6 (ah) (by go_simp)
       have c2_3_7 := zci w2 CC 7 (bh) (by go_simp)
       have c2_4_0 := zci w2 p9 0 (wH (p1)) (by go_simp)
       have c2_4_1 := zcu w2 p9 1 (wL (p1)) (by go_simp)
       have c2_5_0 := zci w2 q9 0 (wH (q1)) (by go_simp)
       have c2_5_1 := zcu w2 q9 1 (wL (q1)) (by go_simp)
       clear hc2 hf2 c1_0_0 g1_0_0 c1_0_1 g1_0_1 c1_1_0 g1_1_0 c1_1_1 g1_1_1 c1_2_0 g1_2_0 c1_2_1 g1_2_1 c1_3_0 c1_3_1 c1_3_2 c1_3_3 c1_3_4 c1_3_5 c1_3_6 c1_3_7 c1_4_0 c1_4_1 c1_5_0 c1_5_1
       go_wp2
       go_roundw
       case rel => exact ⟨2, l, h, by first | rfl | go_num, Or.inr (Or.inr (Or.inl ⟨by omega, EL.out.trans (congrArg (fun t => mi t p1) HL.out), EH.out.trans (congrArg (fun t => mx t q1) HH.out)⟩)), ⟨by first | exact (hB.trans blw_) | skip, by omega, by omega, by omega, by omega, by first | omega | (simp <;> omega), by go_simp, by go_simp, by go_simp, by go_simp, by go_simp, by go_simp, by go_simp, by go_simp, by go_simp, by go_simp, by go_simp, by go_simp⟩, ⟨by go_simp, by go_simp, by go_simp, by go_simp, by go_simp, by go_simp, by go_simp, by go_simp⟩⟩
       case measure => simp [intOf]
   ·-- round 2
    have hbr : Below wr.heap.size wr wr := Below.refl _ _
    obtain ⟨rfl, hl, hh⟩ := hR
    have HL := hide hl
    have HH := hide hh
    clear hl hh
    go_wp2_with fail
    refine QG.region_float2_ex 16 72 (QG.FD2 _ _ (.int .i64 0) (.int .u64 0) (.int .i64 (wH p2)) (.int .u64 (wL p2))) _ _ _ (by kernel_rfl) (by kernel_rfl) rfl rfl rfl rfl rfl rfl rfl (by kernel_rfl) (by kernel_rfl) rfl (show QG.FD2 _ _ _ _ _ _ (none, none, false) _ from ⟨(hbr).drew, trivial, trivial, trivial⟩) ?_
    apply Exists.intro
    refine ⟨fun j => ?h1, ?hf1, ?hf2, ?hf3, ?ht⟩
    case h1 =>
     simp only [List.take_succ_cons, List.take_zero, List.drop_succ_cons, List.drop_zero]
     repeat (first
      | go_big_quiet_skip
      | (go_big_quiet_want; go_big_quiet_op; first
       | go_big_quiet_on
       | (apply Exists.intro
          refine ⟨fun _ => ?_, ?_⟩
          ·first
           | rfl
           | (intro hC; obtain ⟨hcq, hfq⟩ := bcellB (QG.FD2.below hC); go_simp; done)
           | (intro hC; obtain ⟨hcq, hfq⟩ := bcellB (QG.FD2.below hC); go_simp; rfl)
           | (intro hC; have hcq := bcellG (QG.FD2.below hC); go_simp; done)
           | (intro hC; have hcq := bcellG (QG.FD2.below hC); go_simp; rfl)
           | (intro hC; go_at_call 79; (first | (with_reducible refine (WB.out _).mono ?_) | (with_reducible refine (WC.out _).mono ?_)); (intro e w2 hw; exact ⟨hw.1, QG.FD2.call (by simp) hC hw.2⟩))
           | (intro hC; go_at_call 129; (first | (with_reducible refine (T2.out _).mono ?_)); (intro e w2 hw; exact ⟨hw.1, QG.FD2.call (by simp) hC hw.2⟩))
          go_big_quiet_on)))
     exact wpQuiet_nil rfl
    case hf1 =>
     intro f8 w8 hD8
     have hm8 := QG.FD2.made1 (t := 107) (by simp) hD8
     go_simp
     simpa [QF.floatRes] using hm8
    case hf2 =>
     intro f8 b8 w8 hD8
     have hm8 := QG.FD2.made2 (t := 107) (by simp) hD8
     go_simp
     simpa [QF.floatRes] using hm8
    case hf3 =>
     intro u8 f8 w8 hD8
     obtain ⟨p8, rfl, hp8, fc0, fc1, ff0, ff1⟩ := QG.FD2.open_ hD8
     have hm8 := QG.FD2.stored (by simp) hD8
     go_simp
     simpa [QF.floatRes] using hm8
    case ht =>
     intro u9 v9 w9 hD9
     simp only [List.drop_succ_cons, List.drop_zero]
     obtain ⟨hC9, ⟨p9, rfl, hp9, hq9, bc0, bc1, bf0, bf1⟩, ⟨q9, rfl, hp8, hq8, dc0, dc1, df0, df1⟩, htw⟩ := hD9
     simp only [if_true] at bc0 bc1
     have hne9 : ¬ p9 = q9 := fun h => htw (by rw [h])
     have hne8 : ¬ q9 = p9 := fun h => hne9 h.symm
     obtain ⟨hc9, hf9⟩ := bcellB hC9
     have hz9 := hC9.size
     try simp only [World.size_alloc, World.size_setCell] at hz9 hp9 hp8
     clear htw
     have hp : ¬ RR = p9 ∧ ¬ LO = p9 ∧ ¬ HI = p9 ∧ ¬ CC = p9 ∧ ¬ p9 = RR ∧ ¬ p9 = LO ∧ ¬ p9 = HI ∧ ¬ p9 = CC := by omega
     obtain ⟨np1, np2, np3, np4, np5, np6, np7, np8⟩ := hp
     have hq : ¬ RR = q9 ∧ ¬ LO = q9 ∧ ¬ HI = q9 ∧ ¬ CC = q9 ∧ ¬ q9 = RR ∧ ¬ q9 = LO ∧ ¬ q9 = HI ∧ ¬ q9 = CC := by omega
     obtain ⟨mp1, mp2, mp3, mp4, mp5, mp6, mp7, mp8⟩ := hq
     have wz1 : RR < w9.heap.size ∧ LO < w9.heap.size ∧ HI < w9.heap.size ∧ CC < w9.heap.size := by omega
     obtain ⟨wz1, wz2, wz3, wz4⟩ := wz1
     by_cases c1 : p2 < l
     ·have D1 := hide (rless_r p2 l true (decide_eq_true c1))
      by_cases c2 : h < q2
      ·have D2 := hide (rless_r h q2 true (decide_eq_true c2))
       have EL : Hid (p2 = mi l p2) := hide ((if_pos c1).symm)
       have EH : Hid (q2 = mx h q2) := hide ((if_pos c2).symm)
       clear c1 c2
       go_wp2_with fail
       refine (D1.out _).mono ?_
       rintro e w1 ⟨rfl, hb1⟩
       obtain ⟨hc1, hf1⟩ := bcell hb1
       have hz1 := hb1.size
       try simp only [World.size_alloc, World.size_setCell] at hz1
       try refine zb RR w1 (by omega) fun _ _ => ?_
       try refine zb LO w1 (by omega) fun _ _ => ?_
       try refine zb HI w1 (by omega) fun _ _ => ?_
       try refine zb CC w1 (by omega) fun _ _ => ?_
       try refine zb p9 w1 (by omega) fun _ _ => ?_
       try refine zb q9 w1 (by omega) fun _ _ => ?_
       have c1_0_0 := zci w1 RR 0 (0) (by go_simp)
       have g1_0_0 := zfe w1 RR 0 (by go_simp)
       have c1_0_1 := zci w1 RR 1 (0) (by go_simp)
       have g1_0_1 := zfe w1 RR 1 (by go_simp)
       have c1_1_0 := zci w1 LO 0 (wH (l)) (by go_simp)
       have g1_1_0 := zfe w1 LO 0 (by go_simp)
       have c1_1_1 := zcu w1 LO 1 (wL (l)) (by go_simp)
       have g1_1_1 := zfe w1 LO 1 (by go_simp)
       have c1_2_0 := zci w1 HI 0 (wH (h)) (by go_simp)
       have g1_2_0 := zfe w1 HI 0 (by go_simp)
       have c1_2_1 := zcu w1 HI 1 (wL (h)) (by go_simp)
       have g1_2_1 := zfe w1 HI 1 (by go_simp)
       have c1_3_0 := zci w1 CC 0 (al) (by go_simp)
       have c1_3_1 := zci w1 CC 1 (bl) (by go_simp)
       have c1_3_2 := zci w1 CC 2 (al) (by go_simp)
       have c1_3_3 := zci w1 CC 3 (bh) (by go_simp)
       have c1_3_4 := zci w1 CC 4 (ah) (by go_simp)
       have c1_3_5 := zci w1 CC 5 (bl) (by go_simp)
       have c1_3_6 := zci w1 CC 6 (ah) (by go_simp)
       have c1_3_7 := zci w1 CC 7 (bh) (by go_simp)
       have c1_4_0 := zci w1 p9 0 (wH (p2)) (by go_simp)
       have c1_4_1 := zcu w1 p9 1 (wL (p2)) (by go_simp)
       have c1_5_0 := zci w1 q9 0 (wH (q2)) (by go_simp)
       have c1_5_1 := zcu w1 q9 1 (wL (q2)) (by go_simp)
       clear hc1 hf1
       go_wp2_with fail
       refine (D2.out _).mono ?_
       rintro e w2 ⟨rfl, hb2⟩
       obtain ⟨hc2, hf2⟩ := bcell hb2
       have hz2 := hb2.size
       try simp only [World.size_alloc, World.size_setCell] at hz2
       try refine zb RR w2 (by omega) fun _ _ => ?_
       try refine zb LO w2 (by omega) fun _ _ => ?_
       try refine zb HI w2 (by omega) fun _ _ => ?_
       try refine zb CC w2 (by omega) fun _ _ => ?_
       try refine zb p9 w2 (by omega) fun _ _ => ?_
       try refine zb q9 w2 (by omega) fun _ _ => ?_
       have c2_0_0 := zci w2 RR 0 (0) (by go_simp)
       have g2_0_0 := zfe w2 RR 0 (by go_simp)
       have c2_0_1 := zci w2 RR 1 (0) (by go_simp)
       have g2_0_1 := zfe w2 RR 1 (by go_simp)
       have c2_1_0 := zci w2 LO 0 (wH (p2)) (by go_simp)
       have g2_1_0 := zfe w2 LO 0 (by go_simp)
       have c2_1_1 := zcu w2 LO 1 (wL (p2)) (by go_simp)
       have g2_1_1 := zfe w2 LO 1 (by go_simp)
       have c2_2_0 := zci w2 HI 0 (wH (h)) (by go_simp)
       have g2_2_0 := zfe w2 HI 0 (by go_simp)
       have c2_2_1 := zcu w2 HI 1 (wL (h)) (by go_simp)
       have g2_2_1 := zfe w2 HI 1 (by go_simp)
       have c2_3_0 := zci w2 CC 0 (al) (by go_simp)
       have c2_3_1 := zci w2 CC 1 (bl) (by go_simp)
       have c2_3_2 := zci w2 CC 2 (al) (by go_simp)
       have c2_3_3 := zci w2 CC 3 (bh) (by go_simp)
       have c2_3_4 := zci w2 CC 4 (ah) (by go_simp)
       have c2_3_5 := zci w2 CC 5 (bl) (by go_simp)
       have c2_3_6 := zci w2 CC 6 (ah) (by go_simp)
       have c2_3_7 := zci w2 CC 7 (bh) (by go_simp)
       have c2_4_0 := zci w2 p9 0 (wH (p2)) (by go_simp)
       have c2_4_1 := zcu w2 p9 1 (wL (p2)) (by go_simp)
       have c2_5_0 := zci w2 q9 0 (wH (q2)) (by go_simp)
       have c2_5_1 := zcu w2 q9 1 (wL (q2)) (by go_simp)
       clear hc2 hf2 c1_0_0 g1_0_0 c1_0_1 g1_0_1 c1_1_0 g1_1_0 c1_1_1 g1_1_1 c1_2_0 g1_2_0 c1_2_1 g1_2_1 c1_3_0 c1_3_1 c1_3_2 c1_3_3 c1_3_4 c1_3_5 c1_3_6 c1_3_7 c1_4_0 c1_4_1 c1_5_0 c1_5_1
       go_wp2
       go_roundw
       case rel => exact ⟨3, p2, q2, by first | rfl | go_num, Or.inr (Or.inr (Or.inr (Or.inl ⟨by omega, EL.out.trans (congrArg (fun t => mi t p2) HL.out), EH.out.trans (congrArg (fun t => mx t q2) HH.out)⟩))), ⟨by first | exact (hB.trans blw_) | skip, by omega, by omega, by omega, by omega, by first | omega | (simp <;> omega), by go_simp, by go_simp, by go_simp, by go_simp, by go_simp, by go_simp, by go_simp, by go_simp, by go_simp, by go_simp, by go_simp, by go_simp⟩, ⟨by go_simp, by go_simp, by go_simp, by go_simp, by go_simp, by go_simp, by go_simp, by go_simp⟩⟩
       case measure => simp [intOf]
      ·have D2 := hide (rless_r h q2 false (decide_eq_false c2))
       have EL : Hid (p2 = mi l p2) := hide ((if_pos c1).symm)
       have EH : Hid (h = mx h q2) := hide ((if_neg c2).symm)
       clear c1 c2
       go_wp2_with fail
       refine (D1.out _).mono ?_
       rintro e w1 ⟨rfl, hb1⟩
       obtain ⟨hc1, hf1⟩ := bcell hb1
       have hz1 := hb1.size
       try simp only [World.size_alloc, World.size_setCell] at hz1
       try refine zb RR w1 (by omega) fun _ _ => ?_
       try refine zb LO w1 (by omega) fun _ _ => ?_
       try refine zb HI w1 (by omega) fun _ _ => ?_
       try refine zb CC w1 (by omega) fun _ _ => ?_
       try refine zb p9 w1 (by omega) fun _ _ => ?_
       try refine zb q9 w1 (by omega) fun _ _ => ?_
       have c1_0_0 := zci w1 RR 0 (0) (by go_simp)
       have g1_0_0 := zfe w1 RR 0 (by go_simp)
       have c1_0_1 := zci w1 RR 1 (0) (by go_simp)
       have g1_0_1 := zfe w1 RR 1 (by go_simp)
       have c1_1_0 := zci w1 LO 0 (wH (l)) (by go_simp)
       have g1_1_0 := zfe w1 LO 0 (by go_simp)
       have c1_1_1 := zcu w1 LO 1 (wL (l)) (by go_simp)
       have g1_1_1 := zfe w1 LO 1 (by go_simp)
       have c1_2_0 := zci w1 HI 0 (wH (h)) (by go_simp)
       have g1_2_0 := zfe w1 HI 0 (by go_simp)
       have c1_2_1 := zcu w1 HI 1 (wL (h)) (by go_simp)
       have g1_2_1 := zfe w1 HI 1 (by go_simp)
       have c1_3_0 := zci w1 CC 0 (al) (by go_simp)
       have c1_3_1 := zci w1 CC 1 (bl) (by go_simp)
       have c1_3_2 := zci w1 CC 2 (al) (by go_simp)
       have c1_3_3 := zci w1 CC 3 (bh) (by go_simp)
       have c1_3_4 := zci w1 CC 4 (ah) (by go_simp)
       have c1_3_5 := zci w1 CC 5 (bl) (by go_simp)
       have c1_3_6 := zci w1 CC 6 (ah) (by go_simp)
       have c1_3_7 := zci w1 CC 7 (bh) (by go_simp)
       have c1_4_0 := zci w1 p9 0 (wH (p2)) (by go_simp)
       have c1_4_1 := zcu w1 p9 1 (wL (p2)) (by go_simp)
       have c1_5_0 := zci w1 q9 0 (wH (q2)) (by go_simp)
       have c1_5_1 := zcu w1 q9 1 (wL (q2)) (by go_simp)
       clear hc1 hf1
       go_wp2_with fail
       refine (D2.out _).mono ?_
       rintro e w2 ⟨rfl, hb2⟩
       obtain ⟨hc2, hf2⟩ := bcell hb2
       have hz2 := hb2.size
       try simp only [World.size_alloc, World.size_setCell] at hz2
       try refine zb RR w2 (by omega) fun _ _ => ?_
       try refine zb LO w2 (by omega) fun _ _ => ?_
       try refine zb HI w2 (by omega) fun _ _ => ?_
       try refine zb CC w2 (by omega) fun _ _ => ?_
       try refine zb p9 w2 (by omega) fun _ _ => ?_
       try refine zb q9 w2 (by omega) fun _ _ => ?_
       have c2_0_0 := zci w2 RR 0 (0) (by go_simp)
       have g2_0_0 := zfe w2 RR 0 (by go_simp)
       have c2_0_1 := zci w2 RR 1 (0) (by go_simp)
       have g2_0_1 := zfe w2 RR 1 (by go_simp)
       have c2_1_0 := zci w2 LO 0 (wH (p2)) (by go_simp)
       have g2_1_0 := zfe w2 LO 0 (by go_simp)
       have c2_1_1 := zcu w2 LO 1 (wL (p2)) (by go_simp)
       have g2_1_1 := zfe w2 LO 1 (by go_simp)
       have c2_2_0 := zci w2 HI 0 (wH (h)) (by go_simp)
       have g2_2_0 := zfe w2 HI 0 (by go_simp)
       have c2_2_1 := zcu w2 HI 1 (wL (h)) (by go_simp)
       have g2_2_1 := zfe w2 HI 1 (by go_simp)
       have c2_3_0 := zci w2 CC 0 (al) (by go_simp)
       have c2_3_1 := zci w2 CC 1 (bl) (by go_simp)
       have c2_3_2 := zci w2 CC 2 (al) (by go_simp)
       have c2_3_3 := zci w2 CC 3 (bh) (by go_simp)
       have c2_3_4 := zci w2 CC 4 (ah) (by go_simp)
       have c2_3_5 := zci w2 CC 5 (bl) (by go_simp)
       have c2_3_6 := zci w2 CC 6 (ah) (by go_simp)
       have c2_3_7 := zci w2 CC 7 (bh) (by go_simp)
       have c2_4_0 := zci w2 p9 0 (wH (p2)) (by go_simp)
       have c2_4_1 := zcu w2 p9 1 (wL (p2)) (by go_simp)
       have c2_5_0 := zci w2 q9 0 (wH (q2)) (by go_simp)
       have c2_5_1 := zcu w2 q9 1 (wL (q2)) (by go_simp)
       clear hc2 hf2 c1_0_0 g1_0_0 c1_0_1 g1_0_1 c1_1_0 g1_1_0 c1_1_1 g1_1_1 c1_2_0 g1_2_0 c1_2_1 g1_2_1 c1_3_0 c1_3_1 c1_3_2 c1_3_3 c1_3_4 c1_3_5 c1_3_6 c1_3_7 c1_4_0 c1_4_1 c1_5_0 c1_5_1
       go_wp2
       go_roundw
       case rel => exact ⟨3, p2, h, by first | rfl | go_num, Or.inr (Or.inr (Or.inr (Or.inl ⟨by omega, EL.out.trans (congrArg (fun t => mi t p2) HL.out), EH.out.trans (congrArg (fun t => mx t q2) HH.out)⟩))), ⟨by first | exact (hB.trans blw_) | skip, by omega, by omega, by omega, by omega, by first | omega | (simp <;> omega), by go_simp, by go_simp, by go_simp, by go_simp, by go_simp, by go_simp, by go_simp, by go_simp, by go_simp, by go_simp, by go_simp, by go_simp⟩, ⟨by go_simp, by go_simp, by go_simp, by go_simp, by go_simp, by go_simp, by go_simp, by go_simp⟩⟩
       case measure => simp [intOf]
     ·have D1 := hide (rless_r p2 l false (decide_eq_false c1))
      by_cases c2 : h < q2
      ·have D2 := hide (rless_r h q2 true (decide_eq_true c2))
       have EL : Hid (l = mi l p2) := hide ((if_neg c1).symm)
       have EH : Hid (q2 = mx h q2) := hide ((if_pos c2).symm)
       clear c1 c2
       go_wp2_with fail
       refine (D1.out _).mono ?_
       rintro e w1 ⟨rfl, hb1⟩
       obtain ⟨hc1, hf1⟩ := bcell hb1
       have hz1 := hb1.size
       try simp only [World.size_alloc, World.size_setCell] at hz1
       try refine zb RR w1 (by omega) fun _ _ => ?_
       try refine zb LO w1 (by omega) fun _ _ => ?_
       try refine zb HI w1 (by omega) fun _ _ => ?_
       try refine zb CC w1 (by omega) fun _ _ => ?_
       try refine zb p9 w1 (by omega) fun _ _ => ?_
       try refine zb q9 w1 (by omega) fun _ _ => ?_
       have c1_0_0 := zci w1 RR 0 (0) (by go_simp)
       have g1_0_0 := zfe w1 RR 0 (by go_simp)
       have c1_0_1 := zci w1 RR 1 (0) (by go_simp)
       have g1_0_1 := zfe w1 RR 1 (by go_simp)
       have c1_1_0 := zci w1 LO 0 (wH (l)) (by go_simp)
       have g1_1_0 := zfe w1 LO 0 (by go_simp)
       have c1_1_1 := zcu w1 LO 1 (wL (l)) (by go_simp)
       have g1_1_1 := zfe w1 LO 1 (by go_simp)
       have c1_2_0 := zci w1 HI 0 (wH (h)) (by go_simp)
       have g1_2_0 := zfe w1 HI 0 (by go_simp)
       have c1_2_1 := zcu w1 HI 1 (wL (h)) (by go_simp)
       have g1_2_1 := zfe w1 HI 1 (by go_simp)
       have c1_3_0 := zci w1 CC 0 (al) (by go_simp)
       have c1_3_1 := zci w1 CC 1 (bl) (by go_simp)
       have c1_3_2 := zci w1 CC 2 (al) (by go_simp)
       have c1_3_3 := zci w1 CC 3 (bh) (by go_simp)
       have c1_3_4 := zci w1 CC 4 (ah) (by go_simp)
       have c1_3_5 := zci w1 CC 5 (bl) (by go_simp)
       have c1_3_6 := zci w1 CC 6 (ah) (by go_simp)
       have c1_3_7 := zci w1 CC 7 (bh) (by go_simp)
       have c1_4_0 := zci w1 p9 0 (wH (p2)) (by go_simp)
       have c1_4_1 := zcu w1 p9 1 (wL (p2)) (by go_simp)
       have c1_5_0 := zci w1 q9 0 (wH (q2)) (by go_simp)
       have c1_5_1 := zcu w1 q9 1 (wL (q2)) (by go_simp)
       clear hc1 hf1
       go_wp2_with fail
       refine (D2.out _).mono ?_
       rintro e w2 ⟨rfl, hb2⟩
       obtain ⟨hc2, hf2⟩ := bcell hb2
       have hz2 := hb2.size
       try simp only [World.size_alloc, World.size_setCell] at hz2
       try refine zb RR w2 (by omega) fun _ _ => ?_
       try refine zb LO w2 (by omega) fun _ _ => ?_
       try refine zb HI w2 (by omega) fun _ _ => ?_
       try refine zb CC w2 (by omega) fun _ _ => ?_
       try refine zb p9 w2 (by omega) fun _ _ => ?_
       try refine zb q9 w2 (by omega) fun _ _ => ?_
       have c2_0_0 := zci w2 RR 0 (0) (by go_simp)
       have g2_0_0 := zfe w2 RR 0 (by go_simp)
       have c2_0_1 := zci w2 RR 1 (0) (by go_simp)
       have g2_0_1 := zfe w2 RR 1 (by go_simp)
       have c2_1_0 := zci w2 LO 0 (wH (l)) (by go_simp)
       have g2_1_0 := zfe w2 LO 0 (by go_simp)
       have c2_1_1 := zcu w2 LO 1 (wL (l)) (by go_simp)
       have g2_1_1 := zfe w2 LO 1 (by go_simp)
       have c2_2_0 := zci w2 HI 0 (wH (h)) (by go_simp)
       have g2_2_0 := zfe w2 HI 0 (by go_simp)
       have c2_2_1 := zcu w2 HI 1 (wL (h)) (by go_simp)
       have g2_2_1 := zfe w2 HI 1 (by go_simp)
       have c2_3_0 := zci w2 CC 0 (al) (by go_simp)
       have c2_3_1 := zci w2 CC 1 (bl) (by go_simp)
       have c2_3_2 := zci w2 CC 2 (al) (by go_simp)
       have c2_3_3 := zci w2 CC 3 (bh) (by go_simp)
       have c2_3_4 := zci w2 CC 4 (ah) (by go_simp)
       have c2_3_5 := zci w2 CC 5 (bl) (by go_simp)
       have c2_3_6 := zci w2 CC 6 (ah) (by go_simp)
       have c2_3_7 := zci w2 CC 7 (bh) (by go_simp)
       have c2_4_0 := zci w2 p9 0 (wH (p2)) (by go_simp)
       have c2_4_1 := zcu w2 p9 1 (wL (p2)) (by go_simp)
       have c2_5_0 := zci w2 q9 0 (wH (q2)) (by go_simp)
       have c2_5_1 := zcu w2 q9 1 (wL (q2)) (by go_simp)
       clear hc2 hf2 c1_0_0 g1_0_0 c1_0_1 g1_0_1 c1_1_0 g1_1_0 c1_1_1 g1_1_1 c1_2_0 g1_2_0 c1_2_1 g1_2_1 c1_3_0 c1_3_1 c1_3_2 c1_3_3 c1_3_4 c1_3_5 c1_3_6 c1_3_7 c1_4_0 c1_4_1 c1_5_0 c1_5_1
       go_wp2
       go_roundw
       case rel => exact ⟨3, l, q2, by first | rfl | go_num, Or.inr (Or.inr (Or.inr (Or.inl ⟨by omega, EL.out.trans (congrArg (fun t => mi t p2) HL.out), EH.out.trans (congrArg (fun t => mx t q2) HH.out)⟩))), ⟨by first | exact (hB.trans blw_) | skip, by omega, by omega, by omega, by omega, by first | omega | (simp <;> omega), by go_simp, by go_simp, by go_simp, by go_simp, by go_simp, by go_simp, by go_simp, by go_simp, by go_simp, by go_simp, by go_simp, by go_simp⟩, ⟨by go_simp, by go_simp, by go_simp, by go_simp, by go_simp, by go_simp, by go_simp, by go_simp⟩⟩
       case measure => simp [intOf]
      ·have D2 := hide (rless_r h q2 false (decide_eq_false c2))
       have EL : Hid (l = mi l p2) := hide ((if_neg c1).symm)
       have EH : Hid (h = mx h q2) := hide ((if_neg c2).symm)
       clear c1 c2
       go_wp2_with fail
       refine (D1.out _).mono ?_
       rintro e w1 ⟨rfl, hb1⟩
       obtain ⟨hc1, hf1⟩ := bcell hb1
       have hz1 := hb1.size
       try simp only [World.size_alloc, World.size_setCell] at hz1
       try refine zb RR w1 (by omega) fun _ _ => ?_
       try refine zb LO w1 (by omega) fun _ _ => ?_
       try refine zb HI w1 (by omega) fun _ _ => ?_
       try refine zb CC w1 (by omega) fun _ _ => ?_
       try refine zb p9 w1 (by omega) fun _ _ => ?_
       try refine zb q9 w1 (by omega) fun _ _ => ?_
       have c1_0_0 := zci w1 RR 0 (0) (by go_simp)
       have g1_0_0 := zfe w1 RR 0 (by go_simp)
       have c1_0_1 := zci w1 RR 1 (0) (by go_simp)
       have g1_0_1 := zfe w1 RR 1 (by go_simp)
       have c1_1_0 := zci w1 LO 0 (wH (l)) (by go_simp)
       have g1_1_0 := zfe w1 LO 0 (by go_simp)
       have c1_1_1 := zcu w1 LO 1 (wL (l)) (by go_simp)
       have g1_1_1 := zfe w1 LO 1 (by go_simp)
       have c1_2_0 := zci w1 HI 0 (wH (h)) (by go_simp)
       have g1_2_0 := zfe w1 HI 0 (by go_simp)
       have c1_2_1 := zcu w1 HI 1 (wL (h)) (by go_simp)
       have g1_2_1 := zfe w1 HI 1 (by go_simp)
       have c1_3_0 := zci w1 CC 0 (al) (by go_simp)
       have c1_3_1 := zci w1 CC 1 (bl) (by go_simp)
       have c1_3_2 := zci w1 CC 2 (al) (by go_simp)
       have c1_3_3 := zci w1 CC 3 (bh) (by go_simp)
       have c1_3_4 := zci w1 CC 4 (ah) (by go_simp)
       have c1_3_5 := zci w1 CC 5 (bl) (by go_simp)
       have c1_3_6 := zci w1 CC 6 (ah) (by go_simp)
       have c1_3_7 := zci w1 CC 7 (bh) (by go_simp)
       have c1_4_0 := zci w1 p9 0 (wH (p2)) (by go_simp)
       have c1_4_1 := zcu w1 p9 1 (wL (p2)) (by go_simp)
       have c1_5_0 := zci w1 q9 0 (wH (q2)) (by go_simp)
       have c1_5_1 := zcu w1 q9 1 (wL (q2)) (by go_simp)
       clear hc1 hf1
       go_wp2_with fail
       refine (D2.out _).mono ?_
       rintro e w2 ⟨rfl, hb2⟩
       obtain ⟨hc2, hf2⟩ := bcell hb2
       have hz2 := hb2.size
       try simp only [World.size_alloc, World.size_setCell] at hz2
       try refine zb RR w2 (by omega) fun _ _ => ?_
       try refine zb LO w2 (by omega) fun _ _ => ?_
       try refine zb HI w2 (by omega) fun _ _ => ?_
       try refine zb CC w2 (by omega) fun _ _ => ?_
       try refine zb p9 w2 (by omega) fun _ _ => ?_
       try refine zb q9 w2 (by omega) fun _ _ => ?_
       have c2_0_0 := zci w2 RR 0 (0) (by go_simp)
       have g2_0_0 := zfe w2 RR 0 (by go_simp)
       have c2_0_1 := zci w2 RR 1 (0) (by go_simp)
       have g2_0_1 := zfe w2 RR 1 (by go_simp)
       have c2_1_0 := zci w2 LO 0 (wH (l)) (by go_simp)
       have g2_1_0 := zfe w2 LO 0 (by go_simp)
       have c2_1_1 := zcu w2 LO 1 (wL (l)) (by go_simp)
       have g2_1_1 := zfe w2 LO 1 (by go_simp)
       have c2_2_0 := zci w2 HI 0 (wH (h)) (by go_simp)
       have g2_2_0 := zfe w2 HI 0 (by go_simp)
       have c2_2_1 := zcu w2 HI 1 (wL (h)) (by go_simp)
       have g2_2_1 := zfe w2 HI 1 (by go_simp)
       have c2_3_0 := zci w2 CC 0 (al) (by go_simp)
       have c2_3_1 := zci w2 CC 1 (bl) (by go_simp)
       have c2_3_2 := zci w2 CC 2 (al) (by go_simp)
       have c2_3_3 := zci w2 CC 3 (bh) (by go_simp)
       have c2_3_4 := zci w2 CC 4 (ah) (by go_simp)
       have c2_3_5 := zci w2 CC 5 (bl) (by go_simp)
       have c2_3_6 := zci w2 CC 6 (ah) (by go_simp)
       have c2_3_7 := zci w2 CC 7 (bh) (by go_simp)
       have c2_4_0 := zci w2 p9 0 (wH (p2)) (by go_simp)
       have c2_4_1 := zcu w2 p9 1 (wL (p2)) (by go_simp)
       have c2_5_0 := zci w2 q9 0 (wH (q2)) (by go_simp)
       have c2_5_1 := zcu w2 q9 1 (wL (q2)) (by go_simp)
       clear hc2 hf2 c1_0_0 g1_0_0 c1_0_1 g1_0_1 c1_1_0 g1_1_0 c1_1_1 g1_1_1 c1_2_0 g1_2_0 c1_2_1 g1_2_1 c1_3_0 c1_3_1 c1_3_2 c1_3_3 c1_3_4 c1_3_5 c1_3_6 c1_3_7 c1_4_0 c1_4_1 c1_5_0 c1_5_1
       go_wp2
       go_roundw
       case rel => exact ⟨3, l, h, by first | rfl | go_num, Or.inr (Or.inr (Or.inr (Or.inl ⟨by omega, EL.out.trans (congrArg (fun t => mi t p2) HL.out), EH.out.trans (congrArg (fun t => mx t q2) HH.out)⟩))), ⟨by first | exact (hB.trans blw_) | skip, by omega, by omega, by omega, by omega, by first | omega | (simp <;> omega), by go_simp, by go_simp, by go_simp, by go_simp, by go_simp, by go_simp, by go_simp, by go_simp, by go_simp, by go_simp, by go_simp, by go_simp⟩, ⟨by go_simp, by go_simp, by go_simp, by go_simp, by go_simp, by go_simp, by go_simp, by go_simp⟩⟩
       case measure => simp [intOf]
   ·-- round 3
    have hbr : Below wr.heap.size wr wr := Below.refl _ _
    obtain ⟨rfl, hl, hh⟩ := hR
    have HL := hide hl
    have HH := hide hh
    clear hl hh
    go_wp2_with fail
    refine QG.region_float2_ex 16 72 (QG.FD2 _ _ (.int .i64 0) (.int .u64 0) (.int .i64 (wH p3)) (.int .u64 (wL p3))) _ _ _ (by kernel_rfl) (by kernel_rfl) rfl rfl rfl rfl rfl rfl rfl (by kernel_rfl) (by kernel_rfl) rfl (show QG.FD2 _ _ _ _ _ _ (none, none, false) _ from ⟨(hbr).drew, trivial, trivial, trivial⟩) ?_
    apply Exists.intro
    refine ⟨fun j => ?h1, ?hf1, ?hf2, ?hf3, ?ht⟩
    case h1 =>
     simp only [List.take_succ_cons, List.take_zero, List.drop_succ_cons, List.drop_zero]
     repeat (first
      | go_big_quiet_skip
      | (go_big_quiet_want; go_big_quiet_op; first
       | go_big_quiet_on
       | (apply Exists.intro
          refine ⟨fun _ => ?_, ?_⟩
          ·first
           | rfl
           | (intro hC; obtain ⟨hcq, hfq⟩ := bcellB (QG.FD2.below hC); go_simp; done)
           | (intro hC; obtain ⟨hcq, hfq⟩ := bcellB (QG.FD2.below hC); go_simp; rfl)
           | (intro hC; have hcq := bcellG (QG.FD2.below hC); go_simp; done)
           | (intro hC; have hcq := bcellG (QG.FD2.below hC); go_simp; rfl)
           | (intro hC; go_at_call 79; (first | (with_reducible refine (WB.out _).mono ?_) | (with_reducible refine (WD.out _).mono ?_)); (intro e w2 hw; exact ⟨hw.1, QG.FD2.call (by simp) hC hw.2⟩))
           | (intro hC; go_at_call 129; (first | (with_reducible refine (T3.out _).mono ?_)); (intro e w2 hw; exact ⟨hw.1, QG.FD2.call (by simp) hC hw.2⟩))
          go_big_quiet_on)))
     exact wpQuiet_nil rfl
    case hf1 =>
     intro f8 w8 hD8
     have hm8 := QG.FD2.made1 (t := 107) (by simp) hD8
     go_simp
     simpa [QF.floatRes] using hm8
    case hf2 =>
     intro f8 b8 w8 hD8
     have hm8 := QG.FD2.made2 (t := 107) (by simp) hD8
     go_simp
     simpa [QF.floatRes] using hm8
    case hf3 =>
     intro u8 f8 w8 hD8
     obtain ⟨p8, rfl, hp8, fc0, fc1, ff0, ff1⟩ := QG.FD2.open_ hD8
     have hm8 := QG.FD2.stored (by simp) hD8
     go_simp
     simpa [QF.floatRes] using hm8
    case ht =>
     intro u9 v9 w9 hD9
     simp only [List.drop_succ_cons, List.drop_zero]
     obtain ⟨hC9, ⟨p9, rfl, hp9, hq9, bc0, bc1, bf0, bf1⟩, ⟨q9, rfl, hp8, hq8, dc0, dc1, df0, df1⟩, htw⟩ := hD9
     simp only [if_true] at bc0 bc1
     have hne9 : ¬ p9 = q9 := fun h => htw (by rw [h])
     have hne8 : ¬ q9 = p9 := fun h => hne9 h.symm
     obtain ⟨hc9, hf9⟩ := bcellB hC9
     have hz9 := hC9.size
     try simp only [World.size_alloc, World.size_setCell] at hz9 hp9 hp8
     clear htw
     have hp : ¬ RR = p9 ∧ ¬ LO = p9 ∧ ¬ HI = p9 ∧ ¬ CC = p9 ∧ ¬ p9 = RR ∧ ¬ p9 = LO ∧ ¬ p9 = HI ∧ ¬ p9 = CC := by omega
     obtain ⟨np1, np2, np3, np4, np5, np6, np7, np8⟩ := hp
     have hq : ¬ RR = q9 ∧ ¬ LO = q9 ∧ ¬ HI = q9 ∧ ¬ CC = q9 ∧ ¬ q9 = RR ∧ ¬ q9 = LO ∧ ¬ q9 = HI ∧ ¬ q9 = CC := by omega
     obtain ⟨mp1, mp2, mp3, mp4, mp5, mp6, mp7, mp8⟩ := hq
     have wz1 : RR < w9.heap.size ∧ LO < w9.heap.size ∧ HI < w9.heap.size ∧ CC < w9.heap.size := by omega
     obtain ⟨wz1, wz2, wz3, wz4⟩ := wz1
     by_cases c1 : p3 < l
     ·have D1 := hide (rless_r p3 l true (decide_eq_true c1))
      by_cases c2 : h < q3
      ·have D2 := hide (rless_r h q3 true (decide_eq_true c2))
       have EL : Hid (p3 = mi l p3) := hide ((if_pos c1).symm)
       have EH : Hid (q3 = mx h q3) := hide ((if_pos c2).symm)
       clear c1 c2
       go_wp2_with fail
       refine (D1.out _).mono ?_
       rintro e w1 ⟨rfl, hb1⟩
       obtain ⟨hc1, hf1⟩ := bcell hb1
       have hz1 := hb1.size
       try simp only [World.size_alloc, World.size_setCell] at hz1
       try refine zb RR w1 (by omega) fun _ _ => ?_
       try refine zb LO w1 (by omega) fun _ _ => ?_
       try refine zb HI w1 (by omega) fun _ _ => ?_
       try refine zb CC w1 (by omega) fun _ _ => ?_
       try refine zb p9 w1 (by omega) fun _ _ => ?_
       try refine zb q9 w1 (by omega) fun _ _ => ?_
       have c1_0_0 := zci w1 RR 0 (0) (by go_simp)
       have g1_0_0 := zfe w1 RR 0 (by go_simp)
       have c1_0_1 := zci w1 RR 1 (0) (by go_simp)
       have g1_0_1 := zfe w1 RR 1 (by go_simp)
       have c1_1_0 := zci w1 LO 0 (wH (l)) (by go_simp)
       have g1_1_0 := zfe w1 LO 0 (by go_simp)
       have c1_1_1 := zcu w1 LO 1 (wL (l)) (by go_simp)
       have g1_1_1 := zfe w1 LO 1 (by go_simp)
       have c1_2_0 := zci w1 HI 0 (wH (h)) (by go_simp)
       have g1_2_0 := zfe w1 HI 0 (by go_simp)
       have c1_2_1 := zcu w1 HI 1 (wL (h)) (by go_simp)
       have g1_2_1 := zfe w1 HI 1 (by go_simp)
       have c1_3_0 := zci w1 CC 0 (al) (by go_simp)
       have c1_3_1 := zci w1 CC 1 (bl) (by go_simp)
       have c1_3_2 := zci w1 CC 2 (al) (by go_simp)
       have c1_3_3 := zci w1 CC 3 (bh) (by go_simp)
       have c1_3_4 := zci w1 CC 4 (ah) (by go_simp)
       have c1_3_5 := zci w1 CC 5 (bl) (by go_simp)
       have c1_3_6 := zci w1 CC 6 (ah) (by go_simp)
       have c1_3_7 := zci w1 CC 7 (bh) (by go_simp)
       have c1_4_0 := zci w1 p9 0 (wH (p3)) (by go_simp)
       have c1_4_1 := zcu w1 p9 1 (wL (p3)) (by go_simp)
       have c1_5_0 := zci w1 q9 0 (wH (q3)) (by go_simp)
       have c1_5_1 := zcu w1 q9 1 (wL (q3)) (by go_simp)
       clear hc1 hf1
       go_wp2_with fail
       refine (D2.out _).mono ?_
       rintro e w2 ⟨rfl, hb2⟩
       obtain ⟨hc2, hf2⟩ := bcell hb2
       have hz2 := hb2.size
       try simp only [World.size_alloc, World.size_setCell] at hz2
       try refine zb RR w2 (by omega) fun _ _ => ?_
       try refine zb LO w2 (by omega) fun _ _ => ?_
       try refine zb HI w2 (by omega) fun _ _ => ?_
       try refine zb CC w2 (by omega) fun _ _ => ?_
       try refine zb p9 w2 (by omega) fun _ _ => ?_
       try refine zb q9 w2 (by omega) fun _ _ => ?_
       have c2_0_0 := zci w2 RR 0 (0) (by go_simp)
       have g2_0_0 := zfe w2 RR 0 (by go_simp)
       have c2_0_1 := zci w2 RR 1 (0) (by go_simp)
       have g2_0_1 := zfe w2 RR 1 (by go_simp)
       have c2_1_0 := zci w2 LO 0 (wH (p3)) (by go_simp)
       have g2_1_0 := zfe w2 LO 0 (by go_simp)
       have c2_1_1 := zcu w2 LO 1 (wL (p3)) (by go_simp)
       have g2_1_1 := zfe w2 LO 1 (by go_simp)
       have c2_2_0 := zci w2 HI 0 (wH (h)) (by go_simp)
       have g2_2_0 := zfe w2 HI 0 (by go_simp)
       have c2_2_1 := zcu w2 HI 1 (wL (h)) (by go_simp)
       have g2_2_1 := zfe w2 HI 1 (by go_simp)
       have c2_3_0 := zci w2 CC 0 (al) (by go_simp)
       have c2_3_1 := zci w2 CC 1 (bl) (by go_simp)
       have c2_3_2 := zci w2 CC 2 (al) (by go_simp)
       have c2_3_3 := zci w2 CC 3 (bh) (by go_simp)
       have c2_3_4 := zci w2 CC 4 (ah) (by go_simp)
       have c2_3_5 := zci w2 CC 5 (bl) (by go_simp)
       have c2_3_6 := zci w2 CC 6 (ah) (by go_simp)
       have c2_3_7 := zci w2 CC 7 (bh) (by go_simp)
       have c2_4_0 := zci w2 p9 0 (wH (p3)) (by go_simp)
       have c2_4_1 := zcu w2 p9 1 (wL (p3)) (by go_simp)
       have c2_5_0 := zci w2 q9 0 (wH (q3)) (by go_simp)
       have c2_5_1 := zcu w2 q9 1 (wL (q3)) (by go_simp)
       clear hc2 hf2 c1_0_0 g1_0_0 c1_0_1 g1_0_1 c1_1_0 g1_1_0 c1_1_1 g1_1_1 c1_2_0 g1_2_0 c1_2_1 g1_2_1 c1_3_0 c1_3_1 c1_3_2 c1_3_3 c1_3_4 c1_3_5 c1_3_6 c1_3_7 c1_4_0 c1_4_1 c1_5_0 c1_5_1
       go_wp2
       go_roundw
       case rel => exact ⟨4, p3, q3, by first | rfl | go_num, Or.inr (Or.inr (Or.inr (Or.inr ⟨by omega, EL.out.trans (congrArg (fun t => mi t p3) HL.out), EH.out.trans (congrArg (fun t => mx t q3) HH.out)⟩))), ⟨by first | exact (hB.trans blw_) | skip, by omega, by omega, by omega, by omega, by first | omega | (simp <;> omega), by go_simp, by go_simp, by go_simp, by go_simp, by go_simp, by go_simp, by go_simp, by go_simp, by go_simp, by go_simp, by go_simp, by go_simp⟩, ⟨by go_simp, by go_simp, by go_simp, by go_simp, by go_simp, by go_simp, by go_simp, by go_simp⟩⟩
       case measure => simp [intOf]
      ·have D2 := hide (rless_r h q3 false (decide_eq_false c2))
       have EL : Hid (p3 = mi l p3) := hide ((if_pos c1).symm)
       have EH : Hid (h = mx h q3) := hide ((if_neg c2).symm)
       clear c1 c2
       go_wp2_with fail
       refine (D1.out _).mono ?_
       rintro e w1 ⟨rfl, hb1⟩
       obtain ⟨hc1, hf1⟩ := bcell hb1
       have hz1 := hb1.size
       try simp only [World.size_alloc, World.size_setCell] at hz1
       try refine zb RR w1 (by omega) fun _ _ => ?_
       try refine zb LO w1 (by omega) fun _ _ => ?_
       try refine zb HI w1 (by omega) fun _ _ => ?_
       try refine zb CC w1 (by omega) fun _ _ => ?_
       try refine zb p9 w1 (by omega) fun _ _ => ?_
       try refine zb q9 w1 (by omega) fun _ _ => ?_
       have c1_0_0 := zci w1 RR 0 (0) (by go_simp)
       have g1_0_0 := zfe w1 RR 0 (by go_simp)
       have c1_0_1 := zci w1 RR 1 (0) (by go_simp)
       have g1_0_1 := zfe w1 RR 1 (by go_simp)
       have c1_1_0 := zci w1 LO 0 (wH (l)) (by go_simp)
       have g1_1_0 := zfe w1 LO 0 (by go_simp)
       have c1_1_1 := zcu w1 LO 1 (wL (l)) (by go_simp)
       have g1_1_1 := zfe w1 LO 1 (by go_simp)
       have c1_2_0 := zci w1 HI 0 (wH (h)) (by go_simp)
       have g1_2_0 := zfe w1 HI 0 (by go_simp)
       have c1_2_1 := zcu w1 HI 1 (wL (h)) (by go_simp)
       have g1_2_1 := zfe w1 HI 1 (by go_simp)
       have c1_3_0 := zci w1 CC 0 (al) (by go_simp)
       have c1_3_1 := zci w1 CC 1 (bl) (by go_simp)
       have c1_3_2 := zci w1 CC 2 (al) (by go_simp)
       have c1_3_3 := zci w1 CC 3 (bh) (by go_simp)
       have c1_3_4 := zci w1 CC 4 (ah) (by go_simp)
       have c1_3_5 := zci w1 CC 5 (bl) (by go_simp)
       have c1_3_6 := zci w1 CC 6 (ah) (by go_simp)
       have c1_3_7 := zci w1 CC 7 (bh) (by go_simp)
       have c1_4_0 := zci w1 p9 0 (wH (p3)) (by go_simp)
       have c1_4_1 := zcu w1 p9 1 (wL (p3)) (by go_simp)
       have c1_5_0 := zci w1 q9 0 (wH (q3)) (by go_simp)
       have c1_5_1 := zcu w1 q9 1 (wL (q3)) (by go_simp)
       clear hc1 hf1
       go_wp2_with fail
       refine (D2.out _).mono ?_
       rintro e w2 ⟨rfl, hb2⟩
       obtain ⟨hc2, hf2⟩ := bcell hb2
       have hz2 := hb2.size
       try simp only [World.size_alloc, World.size_setCell] at hz2
       try refine zb RR w2 (by omega) fun _ _ => ?_
       try refine zb LO w2 (by omega) fun _ _ => ?_
       try refine zb HI w2 (by omega) fun _ _ => ?_
       try refine zb CC w2 (by omega) fun _ _ => ?_
       try refine zb p9 w2 (by omega) fun _ _ => ?_
       try refine zb q9 w2 (by omega) fun _ _ => ?_
       have c2_0_0 := zci w2 RR 0 (0) (by go_simp)
       have g2_0_0 := zfe w2 RR 0 (by go_simp)
       have c2_0_1 := zci w2 RR 1 (0) (by go_simp)
       have g2_0_1 := zfe w2 RR 1 (by go_simp)
       have c2_1_0 := zci w2 LO 0 (wH (p3)) (by go_simp)
       have g2_1_0 := zfe w2 LO 0 (by go_simp)
       have c2_1_1 := zcu w2 LO 1 (wL (p3)) (by go_simp)
       have g2_1_1 := zfe w2 LO 1 (by go_simp)
       have c2_2_0 := zci w2 HI 0 (wH (h)) (by go_simp)
       have g2_2_0 := zfe w2 HI 0 (by go_simp)
       have c2_2_1 := zcu w2 HI 1 (wL (h)) (by go_simp)
       have g2_2_1 := zfe w2 HI 1 (by go_simp)
       have c2_3_0 := zci w2 CC 0 (al) (by go_simp)
       have c2_3_1 := zci w2 CC 1 (bl) (by go_simp)
       have c2_3_2 := zci w2 CC 2 (al) (by go_simp)
       have c2_3_3 := zci w2 CC 3 (bh) (by go_simp)
       have c2_3_4 := zci w2 CC 4 (ah) (by go_simp)
       have c2_3_5 := zci w2 CC 5 (bl) (by go_simp)
       have c2_3_6 := zci w2 CC 6 (ah) (by go_simp)
       have c2_3_7 := zci w2 CC 7 (bh) (by go_simp)
       have c2_4_0 := zci w2 p9 0 (wH (p3)) (by go_simp)
       have c2_4_1 := zcu w2 p9 1 (wL (p3)) (by go_simp)
       have c2_5_0 := zci w2 q9 0 (wH (q3)) (by go_simp)
       have c2_5_1 := zcu w2 q9 1 (wL (q3)) (by go_simp)
       clear hc2 hf2 c1_0_0 g1_0_0 c1_0_1 g1_0_1 c1_1_0 g1_1_0 c1_1_1 g1_1_1 c1_2_0 g1_2_0 c1_2_1 g1_2_1 c1_3_0 c1_3_1 c1_3_2 c1_3_3 c1_3_4 c1_3_5 c1_3_6 c1_3_7 c1_4_0 c1_4_1 c1_5_0 c1_5_1
       go_wp2
       go_roundw
       case rel => exact ⟨4, p3, h, by first | rfl | go_num, Or.inr (Or.inr (Or.inr (Or.inr ⟨by omega, EL.out.trans (congrArg (fun t => mi t p3) HL.out), EH.out.trans (congrArg (fun t => mx t q3) HH.out)⟩))), ⟨by first | exact (hB.trans blw_) | skip, by omega, by omega, by omega, by omega, by first | omega | (simp <;> omega), by go_simp, by go_simp, by go_simp, by go_simp, by go_simp, by go_simp, by go_simp, by go_simp, by go_simp, by go_simp, by go_simp, by go_simp⟩, ⟨by go_simp, by go_simp, by go_simp, by go_simp, by go_simp, by go_simp, by go_simp, by go_simp⟩⟩
       case measure => simp [intOf]
     ·have D1 := hide (rless_r p3 l false (decide_eq_false c1))
      by_cases c2 : h < q3
      ·have D2 := hide (rless_r h q3 true (decide_eq_true c2))
       have EL : Hid (l = mi l p3) := hide ((if_neg c1).symm)
       have EH : Hid (q3 = mx h q3) := hide ((if_pos c2).symm)
       clear c1 c2
       go_wp2_with fail
       refine (D1.out _).mono ?_
       rintro e w1 ⟨rfl, hb1⟩
       obtain ⟨hc1, hf1⟩ := bcell hb1
       have hz1 := hb1.size
       try simp only [World.size_alloc, World.size_setCell] at hz1
       try refine zb RR w1 (by omega) fun _ _ => ?_
       try refine zb LO w1 (by omega) fun _ _ => ?_
       try refine zb HI w1 (by omega) fun _ _ => ?_
       try refine zb CC w1 (by omega) fun _ _ => ?_
       try refine zb p9 w1 (by omega) fun _ _ => ?_
       try refine zb q9 w1 (by omega) fun _ _ => ?_
       have c1_0_0 := zci w1 RR 0 (0) (by go_simp)
       have g1_0_0 := zfe w1 RR 0 (by go_simp)
       have c1_0_1 := zci w1 RR 1 (0) (by go_simp)
       have g1_0_1 := zfe w1 RR 1 (by go_simp)
       have c1_1_0 := zci w1 LO 0 (wH (l)) (by go_simp)
       have g1_1_0 := zfe w1 LO 0 (by go_simp)
       have c1_1_1 := zcu w1 LO 1 (wL (l)) (by go_simp)
       have g1_1_1 := zfe w1 LO 1 (by go_simp)
       have c1_2_0 := zci w1 HI 0 (wH (h)) (by go_simp)
       have g1_2_0 := zfe w1 HI 0 (by go_simp)
       have c1_2_1 := zcu w1 HI 1 (wL (h)) (by go_simp)
       have g1_2_1 := zfe w1 HI 1 (by go_simp)
       have c1_3_0 := zci w1 CC 0 (al) (by go_simp)
       have c1_3_1 := zci w1 CC 1 (bl) (by go_simp)
       have c1_3_2 := zci w1 CC 2 (al) (by go_simp)
       have c1_3_3 := zci w1 CC 3 (bh) (by go_simp)
       have c1_3_4 := zci w1 CC 4 (ah) (by go_simp)
       have c1_3_5 := zci w1 CC 5 (bl) (by go_simp)
       have c1_3_6 := zci w1 CC 6 (ah) (by go_simp)
       have c1_3_7 := zci w1 CC 7 (bh) (by go_simp)
       have c1_4_0 := zci w1 p9 0 (wH (p3)) (by go_simp)
       have c1_4_1 := zcu w1 p9 1 (wL (p3)) (by go_simp)
       have c1_5_0 := zci w1 q9 0 (wH (q3)) (by go_simp)
       have c1_5_1 := zcu w1 q9 1 (wL (q3)) (by go_simp)
       clear hc1 hf1
       go_wp2_with fail
       refine (D2.out _).mono ?_
       rintro e w2 ⟨rfl, hb2⟩
       obtain ⟨hc2, hf2⟩ := bcell hb2
       have hz2 := hb2.size
       try simp only [World.size_alloc, World.size_setCell] at hz2
       try refine zb RR w2 (by omega) fun _ _ => ?_
       try refine zb LO w2 (by omega) fun _ _ => ?_
       try refine zb HI w2 (by omega) fun _ _ => ?_
       try refine zb CC w2 (by omega) fun _ _ => ?_
       try refine zb p9 w2 (by omega) fun _ _ => ?_
       try refine zb q9 w2 (by omega) fun _ _ => ?_
       have c2_0_0 := zci w2 RR 0 (0) (by go_simp)
       have g2_0_0 := zfe w2 RR 0 (by go_simp)
       have c2_0_1 := zci w2 RR 1 (0) (by go_simp)
       have g2_0_1 := zfe w2 RR 1 (by go_simp)
       have c2_1_0 := zci w2 LO 0 (wH (l)) (by go_simp)
       have g2_1_0 := zfe w2 LO 0 (by go_simp)
       have c2_1_1 := zcu w2 LO 1 (wL (l)) (by go_simp)
       have g2_1_1 := zfe w2 LO 1 (by go_simp)
       have c2_2_0 := zci w2 HI 0 (wH (h)) (by go_simp)
       have g2_2_0 := zfe w2 HI 0 (by go_simp)
       have c2_2_1 := zcu w2 HI 1 (wL (h)) (by go_simp)
       have g2_2_1 := zfe w2 HI 1 (by go_simp)
       have c2_3_0 := zci w2 CC 0 (al) (by go_simp)
       have c2_3_1 := zci w2 CC 1 (bl) (by go_simp)
       have c2_3_2 := zci w2 CC 2 (al) (by go_simp)
       have c2_3_3 := zci w2 CC 3 (bh) (by go_simp)
       have c2_3_4 := zci w2 CC 4 (ah) (by go_simp)
       have c2_3_5 := zci w2 CC 5 (bl) (by go_simp)
       have c2_3_6 := zci w2 CC 6 (ah) (by go_simp)
       have c2_3_7 := zci w2 CC 7 (bh) (by go_simp)
       have c2_4_0 := zci w2 p9 0 (wH (p3)) (by go_simp)
       have c2_4_1 := zcu w2 p9 1 (wL (p3)) (by go_simp)
       have c2_5_0 := zci w2 q9 0 (wH (q3)) (by go_simp)
       have c2_5_1 := zcu w2 q9 1 (wL (q3)) (by go_simp)
       clear hc2 hf2 c1_0_0 g1_0_0 c1_0_1 g1_0_1 c1_1_0 g1_1_0 c1_1_1 g1_1_1 c1_2_0 g1_2_0 c1_2_1 g1_2_1 c1_3_0 c1_3_1 c1_3_2 c1_3_3 c1_3_4 c1_3_5 c1_3_6 c1_3_7 c1_4_0 c1_4_1 c1_5_0 c1_5_1
       go_wp2
       go_roundw
       case rel => exact ⟨4, l, q3, by first | rfl | go_num, Or.inr (Or.inr (Or.inr (Or.inr ⟨by omega, EL.out.trans (congrArg (fun t => mi t p3) HL.out), EH.out.trans (congrArg (fun t => mx t q3) HH.out)⟩))), ⟨by first | exact (hB.trans blw_) | skip, by omega, by omega, by omega, by omega, by first | omega | (simp <;> omega), by go_simp, by go_simp, by go_simp, by go_simp, by go_simp, by go_simp, by go_simp, by go_simp, by go_simp, by go_simp, by go_simp, by go_simp⟩, ⟨by go_simp, by go_simp, by go_simp, by go_simp, by go_simp, by go_simp, by go_simp, by go_simp⟩⟩
       case measure => simp [intOf]
      ·have D2 := hide (rless_r h q3 false (decide_eq_false c2))
       have EL : Hid (l = mi l p3) := hide ((if_neg c1).symm)
       have EH : Hid (h = mx h q3) := hide ((if_neg c2).symm)
       clear c1 c2
       go_wp2_with fail
       refine (D1.out _).mono ?_
       rintro e w1 ⟨rfl, hb1⟩
       obtain ⟨hc1, hf1⟩ := bcell hb1
       have hz1 := hb1.size
       try simp only [World.size_alloc, World.size_setCell] at hz1
       try refine zb RR w1 (by omega) fun _ _ => ?_
       try refine zb LO w1 (by omega) fun _ _ => ?_
       try refine zb HI w1 (by omega) fun _ _ => ?_
       try refine zb CC w1 (by omega) fun _ _ => ?_
       try refine zb p9 w1 (by omega) fun _ _ => ?_
       try refine zb q9 w1 (by omega) fun _ _ => ?_
       have c1_0_0 := zci w1 RR 0 (0) (by go_simp)
       have g1_0_0 := zfe w1 RR 0 (by go_simp)
       have c1_0_1 := zci w1 RR 1 (0) (by go_simp)
       have g1_0_1 := zfe w1 RR 1 (by go_simp)
       have c1_1_0 := zci w1 LO 0 (wH (l)) (by go_simp)
       have g1_1_0 := zfe w1 LO 0 (by go_simp)
       have c1_1_1 := zcu w1 LO 1 (wL (l)) (by go_simp)
       have g1_1_1 := zfe w1 LO 1 (by go_simp)
       have c1_2_0 := zci w1 HI 0 (wH (h)) (by go_simp)
       have g1_2_0 := zfe w1 HI 0 (by go_simp)
       have c1_2_1 := zcu w1 HI 1 (wL (h)) (by go_simp)
       have g1_2_1 := zfe w1 HI 1 (by go_simp)
       have c1_3_0 := zci w1 CC 0 (al) (by go_simp)
       have c1_3_1 := zci w1 CC 1 (bl) (by go_simp)
       have c1_3_2 := zci w1 CC 2 (al) (by go_simp)
       have c1_3_3 := zci w1 CC 3 (bh) (by go_simp)
       have c1_3_4 := zci w1 CC 4 (ah) (by go_simp)
       have c1_3_5 := zci w1 CC 5 (bl) (by go_simp)
       have c1_3_6 := zci w1 CC 6 (ah) (by go_simp)
       have c1_3_7 := zci w1 CC 7 (bh) (by go_simp)
       have c1_4_0 := zci w1 p9 0 (wH (p3)) (by go_simp)
       have c1_4_1 := zcu w1 p9 1 (wL (p3)) (by go_simp)
       have c1_5_0 := zci w1 q9 0 (wH (q3)) (by go_simp)
       have c1_5_1 := zcu w1 q9 1 (wL (q3)) (by go_simp)
       clear hc1 hf1
       go_wp2_with fail
       refine (D2.out _).mono ?_
       rintro e w2 ⟨rfl, hb2⟩
       obtain ⟨hc2, hf2⟩ := bcell hb2
       have hz2 := hb2.size
       try simp only [World.size_alloc, World.size_setCell] at hz2
       try refine zb RR w2 (by omega) fun _ _ => ?_
       try refine zb LO w2 (by omega) fun _ _ => ?_
       try refine zb HI w2 (by omega) fun _ _ => ?_
       try refine zb CC w2 (by omega) fun _ _ => ?_
       try refine zb p9 w2 (by omega) fun _ _ => ?_
       try refine zb q9 w2 (by omega) fun _ _ => ?_
       have c2_0_0 := zci w2 RR 0 (0) (by go_simp)
       have g2_0_0 := zfe w2 RR 0 (by go_simp)
       have c2_0_1 := zci w2 RR 1 (0) (by go_simp)
       have g2_0_1 := zfe w2 RR 1 (by go_simp)
       have c2_1_0 := zci w2 LO 0 (wH (l)) (by go_simp)
       have g2_1_0 := zfe w2 LO 0 (by go_simp)
       have c2_1_1 := zcu w2 LO 1 (wL (l)) (by go_simp)
       have g2_1_1 := zfe w2 LO 1 (by go_simp)
       have c2_2_0 := zci w2 HI 0 (wH (h)) (by go_simp)
       have g2_2_0 := zfe w2 HI 0 (by go_simp)
       have c2_2_1 := zcu w2 HI 1 (wL (h)) (by go_simp)
       have g2_2_1 := zfe w2 HI 1 (by go_simp)
       have c2_3_0 := zci w2 CC 0 (al) (by go_simp)
       have c2_3_1 := zci w2 CC 1 (bl) (by go_simp)
       have c2_3_2 := zci w2 CC 2 (al) (by go_simp)
       have c2_3_3 := zci w2 CC 3 (bh) (by go_simp)
       have c2_3_4 := zci w2 CC 4 (ah) (by go_simp)
       have c2_3_5 := zci w2 CC 5 (bl) (by go_simp)
       have c2_3_6 := zci w2 CC 6 (ah) (by go_simp)
       have c2_3_7 := zci w2 CC 7 (bh) (by go_simp)
       have c2_4_0 := zci w2 p9 0 (wH (p3)) (by go_simp)
       have c2_4_1 := zcu w2 p9 1 (wL (p3)) (by go_simp)
       have c2_5_0 := zci w2 q9 0 (wH (q3)) (by go_simp)
       have c2_5_1 := zcu w2 q9 1 (wL (q3)) (by go_simp)
       clear hc2 hf2 c1_0_0 g1_0_0 c1_0_1 g1_0_1 c1_1_0 g1_1_0 c1_1_1 g1_1_1 c1_2_0 g1_2_0 c1_2_1 g1_2_1 c1_3_0 c1_3_1 c1_3_2 c1_3_3 c1_3_4 c1_3_5 c1_3_6 c1_3_7 c1_4_0 c1_4_1 c1_5_0 c1_5_1
       go_wp2
       go_roundw
       case rel => exact ⟨4, l, h, by first | rfl | go_num, Or.inr (Or.inr (Or.inr (Or.inr ⟨by omega, EL.out.trans (congrArg (fun t => mi t p3) HL.out), EH.out.trans (congrArg (fun t => mx t q3) HH.out)⟩))), ⟨by first | exact (hB.trans blw_) | skip, by omega, by omega, by omega, by omega, by first | omega | (simp <;> omega), by go_simp, by go_simp, by go_simp, by go_simp, by go_simp, by go_simp, by go_simp, by go_simp, by go_simp, by go_simp, by go_simp, by go_simp⟩, ⟨by go_simp, by go_simp, by go_simp, by go_simp, by go_simp, by go_simp, by go_simp, by go_simp⟩⟩
       case measure => simp [intOf]
   ·-- the end
    obtain ⟨rfl, hl, hh⟩ := hR
    have hb20 := hB
    subst hl hh
    have RO1 := rout (mi (mi (mi p0 p1) p2) p3) (mx (mx (mx q0 q1) q2) q3)
    rw [FIN.out.1, FIN.out.2.1, FIN.out.2.2] at RO1
    have RO := hide RO1
    clear RO1 FIN
    generalize mi (mi (mi p0 p1) p2) p3 = l at *
    generalize mx (mx (mx q0 q1) q2) q3 = h at *
    go_wp2_with fail
    refine (RO.out _).mono ?_
    rintro e w1 ⟨rfl, hb1⟩
    obtain ⟨hc1, hf1⟩ := bcell hb1
    have hz1 := hb1.size
    try simp only [World.size_alloc, World.size_setCell] at hz1
    try refine zb RR w1 (by omega) fun _ _ => ?_
    try refine zb LO w1 (by omega) fun _ _ => ?_
    try refine zb HI w1 (by omega) fun _ _ => ?_
    try refine zb CC w1 (by omega) fun _ _ => ?_
    have c1_0_0 := zci w1 RR 0 (0) (by go_simp)
    have g1_0_0 := zfe w1 RR 0 (by go_simp)
    have c1_0_1 := zci w1 RR 1 (0) (by go_simp)
    have g1_0_1 := zfe w1 RR 1 (by go_simp)
    clear hc1 hf1
    go_wp2
    refine bodyPost_ret (v := .tuple #[.agg #[.int .i64 (rl), .int .i64 (rh)], .int .i64 re]) (by simp only [results, Try.results101]; go_simp) rfl ⟨rfl, blw_⟩
end
end Go.Proofs.Ytacpahebbnnckaa
