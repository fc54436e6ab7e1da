/- Packed: RMul RMul2 Square Great Root Root2 Makes RDivM RDivP RDivN TurnM Turn. -/
import Derived.Test.YtacpahebbnnckaaP6
import Derived.Test.YtacpahebbnnckaaP7
import Derived.Test.YtacpahebbnnckaaP17
import Derived.Test.YtacpahebbnnckaaP19
import Derived.Test.YtacpahebbnnckaaP20
set_option linter.unusedVariables false
set_option linter.unusedSimpArgs false
namespace Go.Proofs.Ytacpahebbnnckaa
section
open Go.RowKit
structure Cor (wr : World) (CC : Nat) (al ah bl bh : Int) : Prop where
 c0 : wr.cell? ⟨CC, 0, none⟩ = some (.int .i64 al)
 c1 : wr.cell? ⟨CC, 1, none⟩ = some (.int .i64 bl)
 c2 : wr.cell? ⟨CC, 2, none⟩ = some (.int .i64 al)
 c3 : wr.cell? ⟨CC, 3, none⟩ = some (.int .i64 bh)
 c4 : wr.cell? ⟨CC, 4, none⟩ = some (.int .i64 ah)
 c5 : wr.cell? ⟨CC, 5, none⟩ = some (.int .i64 bl)
 c6 : wr.cell? ⟨CC, 6, none⟩ = some (.int .i64 ah)
 c7 : wr.cell? ⟨CC, 7, none⟩ = some (.int .i64 bh)
theorem corners_any (al ah bl bh : Int) (w : World) :
  Calls Try.prog 114 #[.agg #[.int .i64 (al), .int .i64 (ah)], .agg #[.int .i64 (bl), .int .i64 (bh)]] w fun e w' => e = .returned (.slice (some ⟨w.heap.size + 1 + 1, 0, none⟩) 4 4) ∧ Below w.heap.size w w' ∧ w.heap.size + 1 + 1 < w'.heap.size ∧ Cor w' (w.heap.size + 1 + 1) al ah bl bh := by
 go_enter Try.func114, Try.ntmps114
 go_wp2
 go_ret
 exact ⟨rfl, blw_, by simp, ⟨by go_simp, by go_simp, by go_simp, by go_simp, by go_simp, by go_simp, by go_simp, by go_simp⟩⟩

def RunP (p0 p1 p2 p3 k l h : Int) : Prop :=
 (k = 0 ∧ l = 0 ∧ h = 0) ∨ (k = 1 ∧ l = p0 ∧ h = p0) ∨ (k = 2 ∧ l = mi p0 p1 ∧ h = mx p0 p1) ∨ (k = 3 ∧ l = mi (mi p0 p1) p2 ∧ h = mx (mx p0 p1) p2) ∨ (k = 4 ∧ l = mi (mi (mi p0 p1) p2) p3 ∧ h = mx (mx (mx p0 p1) p2) p3)
structure MInv (w wr : World) (RR LO HI CC : Nat) (l h : Int) : Prop where
 below : Below w.heap.size w wr
 h0 : w.heap.size ≤ RR
 h1 : RR < LO
 h2 : LO < HI
 h3 : HI < CC
 h4 : CC < wr.heap.size
 r0 : wr.cell? ⟨RR, 0, none⟩ = some (.int .i64 0)
 r1 : wr.cell? ⟨RR, 1, none⟩ = some (.int .i64 0)
 l0 : wr.cell? ⟨LO, 0, none⟩ = some (.int .i64 (wH l))
 l1 : wr.cell? ⟨LO, 1, none⟩ = some (.int .u64 (wL l))
 g0 : wr.cell? ⟨HI, 0, none⟩ = some (.int .i64 (wH h))
 g1 : wr.cell? ⟨HI, 1, none⟩ = some (.int .u64 (wL h))
 fr0 : wr.frozen? ⟨RR, 0, none⟩ = false
 fr1 : wr.frozen? ⟨RR, 1, none⟩ = false
 fl0 : wr.frozen? ⟨LO, 0, none⟩ = false
 fl1 : wr.frozen? ⟨LO, 1, none⟩ = false
 fg0 : wr.frozen? ⟨HI, 0, none⟩ = false
 fg1 : wr.frozen? ⟨HI, 1, none⟩ = false
set_option maxHeartbeats 20000000 in
theorem rmul_loop (al ah bl bh p0 p1 p2 p3 : Int) (v : vB al ah && vB bl bh)
  (t0 : ∀ w, Calls Try.prog 109 #[.int .i64 al, .int .i64 bl] w fun e w' => e = .returned (.agg #[.int .i64 (wH (p0)), .int .u64 (wL (p0))]) ∧ Below w.heap.size w w')
  (t1 : ∀ w, Calls Try.prog 109 #[.int .i64 al, .int .i64 bh] w fun e w' => e = .returned (.agg #[.int .i64 (wH (p1)), .int .u64 (wL (p1))]) ∧ Below w.heap.size w w')
  (t2 : ∀ w, Calls Try.prog 109 #[.int .i64 ah, .int .i64 bl] w fun e w' => e = .returned (.agg #[.int .i64 (wH (p2)), .int .u64 (wL (p2))]) ∧ Below w.heap.size w w')
  (t3 : ∀ w, Calls Try.prog 109 #[.int .i64 ah, .int .i64 bh] w fun e w' => e = .returned (.agg #[.int .i64 (wH (p3)), .int .u64 (wL (p3))]) ∧ Below w.heap.size w w')
  (rl rh re : Int)
  (fin : ∀ l h, RunP p0 p1 p2 p3 4 l h → R126 l ∧ R126 h ∧ oLo (l / 4294967296) (cdiv h 4294967296) = rl ∧ oHi (l / 4294967296) (cdiv h 4294967296) = rh ∧ oE (l / 4294967296) (cdiv h 4294967296) = re) (w : World) :
  Calls Try.prog 73 #[.agg #[.int .i64 (al), .int .i64 (ah)], .agg #[.int .i64 (bl), .int .i64 (bh)]] w fun e w' => e = .returned (.tuple #[.agg #[.int .i64 (rl), .int .i64 (rh)], .int .i64 re]) ∧ Below w.heap.size w w' := by
 have T0 := hide t0
 have T1 := hide t1
 have T2 := hide t2
 have T3 := hide t3
 have FIN := hide fin
 have HV := hide (rboth al ah bl bh 0 (by rw [v]; rfl))
 clear t0 t1 t2 t3 fin v
 go_enter Try.func73, Try.ntmps73
 go_wp2_with fail
 refine (HV.out _).mono ?_
 rintro e w1 ⟨rfl, hb1⟩
 obtain ⟨hc1, hf1⟩ := bcell hb1
 have hz1 := hb1.size
 try simp only [World.size_alloc, World.size_setCell] at hz1
 try have : w.heap.size < w1.heap.size := by omega
 try have : w.heap.size < w1.heap.size + 1 := by omega
 try have : w.heap.size < w1.heap.size + 1 + 1 := by omega
 try have : w.heap.size ≤ w1.heap.size := by omega
 try have : w.heap.size + 1 < w1.heap.size := by omega
 try have : w.heap.size + 1 < w1.heap.size + 1 := by omega
 try have : w.heap.size + 1 < w1.heap.size + 1 + 1 := by omega
 try have : w.heap.size + 1 ≤ w1.heap.size := by omega
 try have : w.heap.size + 1 + 1 < w1.heap.size := by omega
 try have : w.heap.size + 1 + 1 < w1.heap.size + 1 := by omega
 try have : w.heap.size + 1 + 1 < w1.heap.size + 1 + 1 := by omega
 try have : w.heap.size + 1 + 1 ≤ w1.heap.size := by omega
 have c1_0_0 := zci w1 w.heap.size 0 (al) (by go_simp)
 have c1_0_1 := zci w1 w.heap.size 1 (ah) (by go_simp)
 have c1_1_0 := zci w1 (w.heap.size + 1) 0 (bl) (by go_simp)
 have c1_1_1 := zci w1 (w.heap.size + 1) 1 (bh) (by go_simp)
 have c1_2_0 := zci w1 (w.heap.size + 1 + 1) 0 (0) (by go_simp)
 have g1_2_0 := zfe w1 (w.heap.size + 1 + 1) 0 (by go_simp)
 have c1_2_1 := zci w1 (w.heap.size + 1 + 1) 1 (0) (by go_simp)
 have g1_2_1 := zfe w1 (w.heap.size + 1 + 1) 1 (by go_simp)
 clear hc1 hf1
 go_wp2_with fail
 refine (corners_any al ah bl bh _).mono ?_
 rintro e w2 ⟨rfl, hb2, hk2, hcor⟩
 obtain ⟨hc2, hf2⟩ := bcell hb2
 simp only [World.size_alloc] at hk2 hcor
 have hz2 := hb2.size
 simp only [World.size_alloc] at hz2
 have z0 : wH 0 = 0 := rfl
 have z1 : wL 0 = 0 := rfl
 go_wp2
 go_loopw [9, 10] (fun i q wr => ∃ k l h : Int, i = .int .i64 k ∧ RunP p0 p1 p2 p3 k l h ∧ MInv w wr (w.heap.size + 1 + 1) w1.heap.size (w1.heap.size + 1) (w1.heap.size + 1 + 1 + 1 + 1) l h ∧ Cor wr (w1.heap.size + 1 + 1 + 1 + 1) al ah bl bh) (fun i _ _ => (4 - intOf i).toNat)
 case atStart =>
  exact ⟨0, 0, 0, rfl, Or.inl ⟨rfl, rfl, rfl⟩, ⟨blw_, by omega, by omega, by omega, by omega, by omega, by go_simp, by go_simp, by go_simp, by go_simp, by go_simp, by go_simp, by go_simp, by go_simp, by go_simp, by go_simp, by go_simp, by go_simp⟩, hcor⟩
 case round =>
  obtain ⟨k, l, h, rfl, hR, hM, hC⟩ := hrel
  clear hcor hk2 hc2 hf2 hz2 hb2
  obtain ⟨CC, hCC⟩ : ∃ b, w1.heap.size + 1 + 1 + 1 + 1 = b := ⟨_, rfl⟩
  obtain ⟨HI, hHI⟩ : ∃ b, w1.heap.size + 1 = b := ⟨_, rfl⟩
  obtain ⟨LO, hLO⟩ : ∃ b, w1.heap.size = b := ⟨_, rfl⟩
  obtain ⟨RR, hRR⟩ : ∃ b, w.heap.size + 1 + 1 = b := ⟨_, rfl⟩
  rw [hCC] at hM hC ⊢
  rw [hRR] at hM ⊢
  rw [hHI, hLO] at hM ⊢
  obtain ⟨hB, h0, h1, h2, h3, h4, r0, r1, l0, l1, g0, g1, fr0, fr1, fl0, fl1, fg0, fg1⟩ := hM
  obtain ⟨q0, q1, q2, q3, q4, q5, q6, q7⟩ := hC
  clear hCC hHI hLO hRR
  have : ¬ RR = LO := by omega
  have : ¬ RR = HI := by omega
  have : ¬ RR = CC := by omega
  have : ¬ LO = RR := by omega
  have : ¬ LO = HI := by omega
  have : ¬ LO = CC := by omega
  have : ¬ HI = RR := by omega
  have : ¬ HI = LO := by omega
  have : ¬ HI = CC := by omega
  have : ¬ CC = RR := by omega
  have : ¬ CC = LO := by omega
  have : ¬ CC = HI := by omega
  have : RR < wr.heap.size := by omega
  have : LO < wr.heap.size := by omega
  have : HI < wr.heap.size := by omega
  have : CC < wr.heap.size := by omega
  rcases hR with hR | hR | hR | hR | hR
  ·-- round 0
   have hbr : Below wr.heap.size wr wr := Below.refl _ _
   obtain ⟨rfl, rfl, rfl⟩ := hR
   go_wp2_with fail
   refine QF.region_float_ex 11 61 (QF.FD _ _ (.int .i64 0) (.int .u64 0)) _ (by kernel_rfl) (by kernel_rfl) rfl rfl rfl (show Below _ _ _ from (hbr).drew) ?_
   apply Exists.intro
   refine ⟨fun j => ?h1, ?hf, ?ht⟩
   case h1 =>
    simp only [List.take_succ_cons, List.take_zero, List.drop_succ_cons, List.drop_zero]
    repeat (first
     | go_big_quiet_skip
     | (go_big_quiet_want; go_big_quiet_op; first
      | go_big_quiet_on
      | (apply Exists.intro
         refine ⟨fun _ => ?_, ?_⟩
         ·first
          | rfl
          | (intro hC; obtain ⟨hcq, hfq⟩ := bcellB (QF.FD.below hC); go_simp; done)
          | (intro hC; obtain ⟨hcq, hfq⟩ := bcellB (QF.FD.below hC); go_simp; rfl)
          | (intro hC; have hcq := bcellG (QF.FD.below hC); go_simp; done)
          | (intro hC; have hcq := bcellG (QF.FD.below hC); go_simp; rfl)
          | (intro hC; go_at_call 109; (first | (with_reducible refine (T0.out _).mono ?_)); (intro e w2 hw; exact ⟨hw.1, QF.FD.call (by simp) hC hw.2⟩))
         go_big_quiet_on)))
    exact wpQuiet_nil rfl
   case hf =>
    intro w8 hD8
    have hm8 := QF.FD.made (t := 107) (by simp) hD8
    go_simp
    simpa [QF.floatRes] using hm8
   case ht =>
    intro u9 w9 hD9
    simp only [List.drop_succ_cons, List.drop_zero]
    obtain ⟨hC9, p9, rfl, hp9, hq9, bc0, bc1, bf0, bf1⟩ := hD9
    obtain ⟨hc9, hf9⟩ := bcellB hC9
    have hz9 := hC9.size
    try simp only [World.size_alloc, World.size_setCell] at hz9 hp9
    try have hs9 : w.heap.size < p9 := by omega
    try have hs9' : w.heap.size ≤ p9 := by omega
    try have ht9 : w.heap.size < w9.heap.size := by omega
    have hp : ¬ RR = p9 ∧ ¬ LO = p9 ∧ ¬ HI = p9 ∧ ¬ CC = p9 ∧ ¬ p9 = RR ∧ ¬ p9 = LO ∧ ¬ p9 = HI ∧ ¬ p9 = CC := by omega
    obtain ⟨np1, np2, np3, np4, np5, np6, np7, np8⟩ := hp
    have wz1 : RR < w9.heap.size ∧ LO < w9.heap.size ∧ HI < w9.heap.size ∧ CC < w9.heap.size := by omega
    obtain ⟨wz1, wz2, wz3, wz4⟩ := wz1
    go_wp2
    go_roundw
    case rel => exact ⟨1, p0, p0, by first | rfl | go_num, Or.inr (Or.inl ⟨by omega, rfl, rfl⟩), ⟨by first | exact (hB.trans blw_) | skip, by omega, by omega, by omega, by omega, by first | omega | (simp <;> omega), by go_simp, by go_simp, by go_simp, by go_simp, by go_simp, by go_simp, by go_simp, by go_simp, by go_simp, by go_simp, by go_simp, by go_simp⟩, ⟨by go_simp, by go_simp, by go_simp, by go_simp, by go_simp, by go_simp, by go_simp, by go_simp⟩⟩
    case measure => simp [intOf]
  ·-- round 1
   have hbr : Below wr.heap.size wr wr := Below.refl _ _
   obtain ⟨rfl, hl, hh⟩ := hR
   have HL := hide hl
   have HH := hide hh
   clear hl hh
   go_wp2_with fail
   refine QF.region_float_ex 11 61 (QF.FD _ _ (.int .i64 0) (.int .u64 0)) _ (by kernel_rfl) (by kernel_rfl) rfl rfl rfl (show Below _ _ _ from (hbr).drew) ?_
   apply Exists.intro
   refine ⟨fun j => ?h1, ?hf, ?ht⟩
   case h1 =>
    simp only [List.take_succ_cons, List.take_zero, List.drop_succ_cons, List.drop_zero]
    repeat (first
     | go_big_quiet_skip
     | (go_big_quiet_want; go_big_quiet_op; first
      | go_big_quiet_on
      | (apply Exists.intro
         refine ⟨fun _ => ?_, ?_⟩
         ·first
          | rfl
          | (intro hC; obtain ⟨hcq, hfq⟩ := bcellB (QF.FD.below hC); go_simp; done)
          | (intro hC; obtain ⟨hcq, hfq⟩ := bcellB (QF.FD.below hC); go_simp; rfl)
          | (intro hC; have hcq := bcellG (QF.FD.below hC); go_simp; done)
          | (intro hC; have hcq := bcellG (QF.FD.below hC); go_simp; rfl)
          | (intro hC; go_at_call 109; (first | (with_reducible refine (T1.out _).mono ?_)); (intro e w2 hw; exact ⟨hw.1, QF.FD.call (by simp) hC hw.2⟩))
         go_big_quiet_on)))
    exact wpQuiet_nil rfl
   case hf =>
    intro w8 hD8
    have hm8 := QF.FD.made (t := 107) (by simp) hD8
    go_simp
    simpa [QF.floatRes] using hm8
   case ht =>
    intro u9 w9 hD9
    simp only [List.drop_succ_cons, List.drop_zero]
    obtain ⟨hC9, p9, rfl, hp9, hq9, bc0, bc1, bf0, bf1⟩ := hD9
    obtain ⟨hc9, hf9⟩ := bcellB hC9
    have hz9 := hC9.size
    try simp only [World.size_alloc, World.size_setCell] at hz9 hp9
    try have hs9 : w.heap.size < p9 := by omega
    try have hs9' : w.heap.size ≤ p9 := by omega
    try have ht9 : w.heap.size < w9.heap.size := by omega
    have hp : ¬ RR = p9 ∧ ¬ LO = p9 ∧ ¬ HI = p9 ∧ ¬ CC = p9 ∧ ¬ p9 = RR ∧ ¬ p9 = LO ∧ ¬ p9 = HI ∧ ¬ p9 = CC := by omega
    obtain ⟨np1, np2, np3, np4, np5, np6, np7, np8⟩ := hp
    have wz1 : RR < w9.heap.size ∧ LO < w9.heap.size ∧ HI < w9.heap.size ∧ CC < w9.heap.size := by omega
    obtain ⟨wz1, wz2, wz3, wz4⟩ := wz1
    by_cases c1 : p1 < l
    ·have D1 := hide (rless_r p1 l true (decide_eq_true c1))
     by_cases c2 : h < p1
     ·have D2 := hide (rless_r h p1 true (decide_eq_true c2))
      have EL : Hid (p1 = mi l p1) := hide ((if_pos c1).symm)
      have EH : Hid (p1 = mx h p1) := hide ((if_pos c2).symm)
      clear c1 c2
      go_wp2_with fail
      refine (D1.out _).mono ?_
      rintro e w1 ⟨rfl, hb1⟩
      obtain ⟨hc1, hf1⟩ := bcell hb1
      have hz1 := hb1.size
      try simp only [World.size_alloc, World.size_setCell] at hz1
      try refine zb RR w1 (by omega) fun _ _ => ?_
      try refine zb LO w1 (by omega) fun _ _ => ?_
      try refine zb HI w1 (by omega) fun _ _ => ?_
      try refine zb CC w1 (by omega) fun _ _ => ?_
      try refine zb p9 w1 (by omega) fun _ _ => ?_
      have c1_0_0 := zci w1 RR 0 (0) (by go_simp)
      have g1_0_0 := zfe w1 RR 0 (by go_simp)
      have c1_0_1 := zci w1 RR 1 (0) (by go_simp)
      have g1_0_1 := zfe w1 RR 1 (by go_simp)
      have c1_1_0 := zci w1 LO 0 (wH (l)) (by go_simp)
      have g1_1_0 := zfe w1 LO 0 (by go_simp)
      have c1_1_1 := zcu w1 LO 1 (wL (l)) (by go_simp)
      have g1_1_1 := zfe w1 LO 1 (by go_simp)
      have c1_2_0 := zci w1 HI 0 (wH (h)) (by go_simp)
      have g1_2_0 := zfe w1 HI 0 (by go_simp)
      have c1_2_1 := zcu w1 HI 1 (wL (h)) (by go_simp)
      have g1_2_1 := zfe w1 HI 1 (by go_simp)
      have c1_3_0 := zci w1 CC 0 (al) (by go_simp)
      have c1_3_1 := zci w1 CC 1 (bl) (by go_simp)
      have c1_3_2 := zci w1 CC 2 (al) (by go_simp)
      have c1_3_3 := zci w1 CC 3 (bh) (by go_simp)
      have c1_3_4 := zci w1 CC 4 (ah) (by go_simp)
      have c1_3_5 := zci w1 CC 5 (bl) (by go_simp)
      have c1_3_6 := zci w1 CC 6 (ah) (by go_simp)
      have c1_3_7 := zci w1 CC 7 (bh) (by go_simp)
      have c1_4_0 := zci w1 p9 0 (wH (p1)) (by go_simp)
      have c1_4_1 := zcu w1 p9 1 (wL (p1)) (by go_simp)
      clear hc1 hf1
      go_wp2_with fail
      refine (D2.out _).mono ?_
      rintro e w2 ⟨rfl, hb2⟩
      obtain ⟨hc2, hf2⟩ := bcell hb2
      have hz2 := hb2.size
      try simp only [World.size_alloc, World.size_setCell] at hz2
      try refine zb RR w2 (by omega) fun _ _ => ?_
      try refine zb LO w2 (by omega) fun _ _ => ?_
      try refine zb HI w2 (by omega) fun _ _ => ?_
      try refine zb CC w2 (by omega) fun _ _ => ?_
      try refine zb p9 w2 (by omega) fun _ _ => ?_
      have c2_0_0 := zci w2 RR 0 (0) (by go_simp)
      have g2_0_0 := zfe w2 RR 0 (by go_simp)
      have c2_0_1 := zci w2 RR 1 (0) (by go_simp)
      have g2_0_1 := zfe w2 RR 1 (by go_simp)
      have c2_1_0 := zci w2 LO 0 (wH (p1)) (by go_simp)
      have g2_1_0 := zfe w2 LO 0 (by go_simp)
      have c2_1_1 := zcu w2 LO 1 (wL (p1)) (by go_simp)
      have g2_1_1 := zfe w2 LO 1 (by go_simp)
      have c2_2_0 := zci w2 HI 0 (wH (h)) (by go_simp)
      have g2_2_0 := zfe w2 HI 0 (by go_simp)
      have c2_2_1 := zcu w2 HI 1 (wL (h)) (by go_simp)
      have g2_2_1 := zfe w2 HI 1 (by go_simp)
      have c2_3_0 := zci w2 CC 0 (al) (by go_simp)
      have c2_3_1 := zci w2 CC 1 (bl) (by go_simp)
      have c2_3_2 := zci w2 CC 2 (al) (by go_simp)
      have c2_3_3 := zci w2 CC 3 (bh) (by go_simp)
      have c2_3_4 := zci w2 CC 4 (ah) (by go_simp)
      have c2_3_5 := zci w2 CC 5 (bl) (by go_simp)
      have c2_3_6 := zci w2 CC 6 (ah) (by go_simp)
      have c2_3_7 := zci w2 CC 7 (bh) (by go_simp)
      have c2_4_0 := zci w2 p9 0 (wH (p1)) (by go_simp)
      have c2_4_1 := zcu w2 p9 1 (wL (p1)) (by go_simp)
      clear hc2 hf2 c1_0_0 g1_0_0 c1_0_1 g1_0_1 c1_1_0 g1_1_0 c1_1_1 g1_1_1 c1_2_0 g1_2_0 c1_2_1 g1_2_1 c1_3_0 c1_3_1 c1_3_2 c1_3_3 c1_3_4 c1_3_5 c1_3_6 c1_3_7 c1_4_0 c1_4_1
      go_wp2
      go_roundw
      case rel => exact ⟨2, p1, p1, by first | rfl | go_num, Or.inr (Or.inr (Or.inl ⟨by omega, EL.out.trans (congrArg (fun t => mi t p1) HL.out), EH.out.trans (congrArg (fun t => mx t p1) HH.out)⟩)), ⟨by first | exact (hB.trans blw_) | skip, by omega, by omega, by omega, by omega, by first | omega | (simp <;> omega), by go_simp, by go_simp, by go_simp, by go_simp, by go_simp, by go_simp, by go_simp, by go_simp, by go_simp, by go_simp, by go_simp, by go_simp⟩, ⟨by go_simp, by go_simp, by go_simp, by go_simp, by go_simp, by go_simp, by go_simp, by go_simp⟩⟩
      case measure => simp [intOf]
     ·have D2 := hide (rless_r h p1 false (decide_eq_false c2))
      have EL : Hid (p1 = mi l p1) := hide ((if_pos c1).symm)
      have EH : Hid (h = mx h p1) := hide ((if_neg c2).symm)
      clear c1 c2
      go_wp2_with fail
      refine (D1.out _).mono ?_
      rintro e w1 ⟨rfl, hb1⟩
      obtain ⟨hc1, hf1⟩ := bcell hb1
      have hz1 := hb1.size
      try simp only [World.size_alloc, World.size_setCell] at hz1
      try refine zb RR w1 (by omega) fun _ _ => ?_
      try refine zb LO w1 (by omega) fun _ _ => ?_
      try refine zb HI w1 (by omega) fun _ _ => ?_
      try refine zb CC w1 (by omega) fun _ _ => ?_
      try refine zb p9 w1 (by omega) fun _ _ => ?_
      have c1_0_0 := zci w1 RR 0 (0) (by go_simp)
      have g1_0_0 := zfe w1 RR 0 (by go_simp)
      have c1_0_1 := zci w1 RR 1 (0) (by go_simp)
      have g1_0_1 := zfe w1 RR 1 (by go_simp)
      have c1_1_0 := zci w1 LO 0 (wH (l)) (by go_simp)
      have g1_1_0 := zfe w1 LO 0 (by go_simp)
      have c1_1_1 := zcu w1 LO 1 (wL (l)) (by go_simp)
      have g1_1_1 := zfe w1 LO 1 (by go_simp)
      have c1_2_0 := zci w1 HI 0 (wH (h)) (by go_simp)
      have g1_2_0 := zfe w1 HI 0 (by go_simp)
      have c1_2_1 := zcu w1 HI 1 (wL (h)) (by go_simp)
      have g1_2_1 := zfe w1 HI 1 (by go_simp)
      have c1_3_0 := zci w1 CC 0 (al) (by go_simp)
      have c1_3_1 := zci w1 CC 1 (bl) (by go_simp)
      have c1_3_2 := zci w1 CC 2 (al) (by go_simp)
      have c1_3_3 := zci w1 CC 3 (bh) (by go_simp)
      have c1_3_4 := zci w1 CC 4 (ah) (by go_simp)
      have c1_3_5 := zci w1 CC 5 (bl) (by go_simp)
      have c1_3_6 := zci w1 CC 6 (ah) (by go_simp)
      have c1_3_7 := zci w1 CC 7 (bh) (by go_simp)
      have c1_4_0 := zci w1 p9 0 (wH (p1)) (by go_simp)
      have c1_4_1 := zcu w1 p9 1 (wL (p1)) (by go_simp)
      clear hc1 hf1
      go_wp2_with fail
      refine (D2.out _).mono ?_
      rintro e w2 ⟨rfl, hb2⟩
      obtain ⟨hc2, hf2⟩ := bcell hb2
      have hz2 := hb2.size
      try simp only [World.size_alloc, World.size_setCell] at hz2
      try refine zb RR w2 (by omega) fun _ _ => ?_
      try refine zb LO w2 (by omega) fun _ _ => ?_
      try refine zb HI w2 (by omega) fun _ _ => ?_
      try refine zb CC w2 (by omega) fun _ _ => ?_
      try refine zb p9 w2 (by omega) fun _ _ => ?_
      have c2_0_0 := zci w2 RR 0 (0) (by go_simp)
      have g2_0_0 := zfe w2 RR 0 (by go_simp)
      have c2_0_1 := zci w2 RR 1 (0) (by go_simp)
      have g2_0_1 := zfe w2 RR 1 (by go_simp)
      have c2_1_0 := zci w2 LO 0 (wH (p1)) (by go_simp)
      have g2_1_0 := zfe w2 LO 0 (by go_simp)
      have c2_1_1 := zcu w2 LO 1 (wL (p1)) (by go_simp)
      have g2_1_1 := zfe w2 LO 1 (by go_simp)
      have c2_2_0 := zci w2 HI 0 (wH (h)) (by go_simp)
      have g2_2_0 := zfe w2 HI 0 (by go_simp)
      have c2_2_1 := zcu w2 HI 1 (wL (h)) (by go_simp)
      have g2_2_1 := zfe w2 HI 1 (by go_simp)
      have c2_3_0 := zci w2 CC 0 (al) (by go_simp)
      have c2_3_1 := zci w2 CC 1 (bl) (by go_simp)
      have c2_3_2 := zci w2 CC 2 (al) (by go_simp)
      have c2_3_3 := zci w2 CC 3 (bh) (by go_simp)
      have c2_3_4 := zci w2 CC 4 (ah) (by go_simp)
      have c2_3_5 := zci w2 CC 5 (bl) (by go_simp)
      have c2_3_6 := zci w2 CC 6 (ah) (by go_simp)
      have c2_3_7 := zci w2 CC 7 (bh) (by go_simp)
      have c2_4_0 := zci w2 p9 0 (wH (p1)) (by go_simp)
      have c2_4_1 := zcu w2 p9 1 (wL (p1)) (by go_simp)
      clear hc2 hf2 c1_0_0 g1_0_0 c1_0_1 g1_0_1 c1_1_0 g1_1_0 c1_1_1 g1_1_1 c1_2_0 g1_2_0 c1_2_1 g1_2_1 c1_3_0 c1_3_1 c1_3_2 c1_3_3 c1_3_4 c1_3_5 c1_3_6 c1_3_7 c1_4_0 c1_4_1
      go_wp2
      go_roundw
      case rel => exact ⟨2, p1, h, by first | rfl | go_num, Or.inr (Or.inr (Or.inl ⟨by omega, EL.out.trans (congrArg (fun t => mi t p1) HL.out), EH.out.trans (congrArg (fun t => mx t p1) HH.out)⟩)), ⟨by first | exact (hB.trans blw_) | skip, by omega, by omega, by omega, by omega, by first | omega | (simp <;> omega), by go_simp, by go_simp, by go_simp, by go_simp, by go_simp, by go_simp, by go_simp, by go_simp, by go_simp, by go_simp, by go_simp, by go_simp⟩, ⟨by go_simp, by go_simp, by go_simp, by go_simp, by go_simp, by go_simp, by go_simp, by go_simp⟩⟩
      case measure => simp [intOf]
    ·have D1 := hide (rless_r p1 l false (decide_eq_false c1))
     by_cases c2 : h < p1
     ·have D2 := hide (rless_r h p1 true (decide_eq_true c2))
      have EL : Hid (l = mi l p1) := hide ((if_neg c1).symm)
      have EH : Hid (p1 = mx h p1) := hide ((if_pos c2).symm)
      clear c1 c2
      go_wp2_with fail
      refine (D1.out _).mono ?_
      rintro e w1 ⟨rfl, hb1⟩
      obtain ⟨hc1, hf1⟩ := bcell hb1
      have hz1 := hb1.size
      try simp only [World.size_alloc, World.size_setCell] at hz1
      try refine zb RR w1 (by omega) fun _ _ => ?_
      try refine zb LO w1 (by omega) fun _ _ => ?_
      try refine zb HI w1 (by omega) fun _ _ => ?_
      try refine zb CC w1 (by omega) fun _ _ => ?_
      try refine zb p9 w1 (by omega) fun _ _ => ?_
      have c1_0_0 := zci w1 RR 0 (0) (by go_simp)
      have g1_0_0 := zfe w1 RR 0 (by go_simp)
      have c1_0_1 := zci w1 RR 1 (0) (by go_simp)
      have g1_0_1 := zfe w1 RR 1 (by go_simp)
      have c1_1_0 := zci w1 LO 0 (wH (l)) (by go_simp)
      have g1_1_0 := zfe w1 LO 0 (by go_simp)
      have c1_1_1 := zcu w1 LO 1 (wL (l)) (by go_simp)
      have g1_1_1 := zfe w1 LO 1 (by go_simp)
      have c1_2_0 := zci w1 HI 0 (wH (h)) (by go_simp)
      have g1_2_0 := zfe w1 HI 0 (by go_simp)
      have c1_2_1 := zcu w1 HI 1 (wL (h)) (by go_simp)
      have g1_2_1 := zfe w1 HI 1 (by go_simp)
      have c1_3_0 := zci w1 CC 0 (al) (by go_simp)
      have c1_3_1 := zci w1 CC 1 (bl) (by go_simp)
      have c1_3_2 := zci w1 CC 2 (al) (by go_simp)
      have c1_3_3 := zci w1 CC 3 (bh) (by go_simp)
      have c1_3_4 := zci w1 CC 4 (ah) (by go_simp)
      have c1_3_5 := zci w1 CC 5 (bl) (by go_simp)
      have c1_3_6 := zci w1 CC 6 (ah) (by go_simp)
      have c1_3_7 := zci w1 CC 7 (bh) (by go_simp)
      have c1_4_0 := zci w1 p9 0 (wH (p1)) (by go_simp)
      have c1_4_1 := zcu w1 p9 1 (wL (p1)) (by go_simp)
      clear hc1 hf1
      go_wp2_with fail
      refine (D2.out _).mono ?_
      rintro e w2 ⟨rfl, hb2⟩
      obtain ⟨hc2, hf2⟩ := bcell hb2
      have hz2 := hb2.size
      try simp only [World.size_alloc, World.size_setCell] at hz2
      try refine zb RR w2 (by omega) fun _ _ => ?_
      try refine zb LO w2 (by omega) fun _ _ => ?_
      try refine zb HI w2 (by omega) fun _ _ => ?_
      try refine zb CC w2 (by omega) fun _ _ => ?_
      try refine zb p9 w2 (by omega) fun _ _ => ?_
      have c2_0_0 := zci w2 RR 0 (0) (by go_simp)
      have g2_0_0 := zfe w2 RR 0 (by go_simp)
      have c2_0_1 := zci w2 RR 1 (0) (by go_simp)
      have g2_0_1 := zfe w2 RR 1 (by go_simp)
      have c2_1_0 := zci w2 LO 0 (wH (l)) (by go_simp)
      have g2_1_0 := zfe w2 LO 0 (by go_simp)
      have c2_1_1 := zcu w2 LO 1 (wL (l)) (by go_simp)
      have g2_1_1 := zfe w2 LO 1 (by go_simp)
      have c2_2_0 := zci w2 HI 0 (wH (h)) (by go_simp)
      have g2_2_0 := zfe w2 HI 0 (by go_simp)
      have c2_2_1 := zcu w2 HI 1 (wL (h)) (by go_simp)
      have g2_2_1 := zfe w2 HI 1 (by go_simp)
      have c2_3_0 := zci w2 CC 0 (al) (by go_simp)
      have c2_3_1 := zci w2 CC 1 (bl) (by go_simp)
      have c2_3_2 := zci w2 CC 2 (al) (by go_simp)
      have c2_3_3 := zci w2 CC 3 (bh) (by go_simp)
      have c2_3_4 := zci w2 CC 4 (ah) (by go_simp)
      have c2_3_5 := zci w2 CC 5 (bl) (by go_simp)
      have c2_3_6 := zci w2 CC 6 (ah) (by go_simp)
      have c2_3_7 := zci w2 CC 7 (bh) (by go_simp)
      have c2_4_0 := zci w2 p9 0 (wH (p1)) (by go_simp)
      have c2_4_1 := zcu w2 p9 1 (wL (p1)) (by go_simp)
      clear hc2 hf2 c1_0_0 g1_0_0 c1_0_1 g1_0_1 c1_1_0 g1_1_0 c1_1_1 g1_1_1 c1_2_0 g1_2_0 c1_2_1 g1_2_1 c1_3_0 c1_3_1 c1_3_2 c1_3_3 c1_3_4 c1_3_5 c1_3_6 c1_3_7 c1_4_0 c1_4_1
      go_wp2
      go_roundw
      case rel => exact ⟨2, l, p1, by first | rfl | go_num, Or.inr (Or.inr (Or.inl ⟨by omega, EL.out.trans (congrArg (fun t => mi t p1) HL.out), EH.out.trans (congrArg (fun t => mx t p1) HH.out)⟩)), ⟨by first | exact (hB.trans blw_) | skip, by omega, by omega, by omega, by omega, by first | omega | (simp <;> omega), by go_simp, by go_simp, by go_simp, by go_simp, by go_simp, by go_simp, by go_simp, by go_simp, by go_simp, by go_simp, by go_simp, by go_simp⟩, ⟨by go_simp, by go_simp, by go_simp, by go_simp, by go_simp, by go_simp, by go_simp, by go_simp⟩⟩
      case measure => simp [intOf]
     ·have D2 := hide (rless_r h p1 false (decide_eq_false c2))
      have EL : Hid (l = mi l p1) := hide ((if_neg c1).symm)
      have EH : Hid (h = mx h p1) := hide ((if_neg c2).symm)
      clear c1 c2
      go_wp2_with fail
      refine (D1.out _).mono ?_
      rintro e w1 ⟨rfl, hb1⟩
      obtain ⟨hc1, hf1⟩ := bcell hb1
      have hz1 := hb1.size
      try simp only [World.size_alloc, World.size_setCell] at hz1
      try refine zb RR w1 (by omega) fun _ _ => ?_
      try refine zb LO w1 (by omega) fun _ _ => ?_
      try refine zb HI w1 (by omega) fun _ _ => ?_
      try refine zb CC w1 (by omega) fun _ _ => ?_
      try refine zb p9 w1 (by omega) fun _ _ => ?_
      have c1_0_0 := zci w1 RR 0 (0) (by go_simp)
      have g1_0_0 := zfe w1 RR 0 (by go_simp)
      have c1_0_1 := zci w1 RR 1 (0) (by go_simp)
      have g1_0_1 := zfe w1 RR 1 (by go_simp)
      have c1_1_0 := zci w1 LO 0 (wH (l)) (by go_simp)
      have g1_1_0 := zfe w1 LO 0 (by go_simp)
      have c1_1_1 := zcu w1 LO 1 (wL (l)) (by go_simp)
      have g1_1_1 := zfe w1 LO 1 (by go_simp)
      have c1_2_0 := zci w1 HI 0 (wH (h)) (by go_simp)
      have g1_2_0 := zfe w1 HI 0 (by go_simp)
      have c1_2_1 := zcu w1 HI 1 (wL (h)) (by go_simp)
      have g1_2_1 := zfe w1 HI 1 (by go_simp)
      have c1_3_0 := zci w1 CC 0 (al) (by go_simp)
      have c1_3_1 := zci w1 CC 1 (bl) (by go_simp)
      have c1_3_2 := zci w1 CC 2 (al) (by go_simp)
      have c1_3_3 := zci w1 CC 3 (bh) (by go_simp)
      have c1_3_4 := zci w1 CC 4 (ah) (by go_simp)
      have c1_3_5 := zci w1 CC 5 (bl) (by go_simp)
      have c1_3_6 := zci w1 CC 6 (ah) (by go_simp)
      have c1_3_7 := zci w1 CC 7 (bh) (by go_simp)
      have c1_4_0 := zci w1 p9 0 (wH (p1)) (by go_simp)
      have c1_4_1 := zcu w1 p9 1 (wL (p1)) (by go_simp)
      clear hc1 hf1
      go_wp2_with fail
      refine (D2.out _).mono ?_
      rintro e w2 ⟨rfl, hb2⟩
      obtain ⟨hc2, hf2⟩ := bcell hb2
      have hz2 := hb2.size
      try simp only [World.size_alloc, World.size_setCell] at hz2
      try refine zb RR w2 (by omega) fun _ _ => ?_
      try refine zb LO w2 (by omega) fun _ _ => ?_
      try refine zb HI w2 (by omega) fun _ _ => ?_
      try refine zb CC w2 (by omega) fun _ _ => ?_
      try refine zb p9 w2 (by omega) fun _ _ => ?_
      have c2_0_0 := zci w2 RR 0 (0) (by go_simp)
      have g2_0_0 := zfe w2 RR 0 (by go_simp)
      have c2_0_1 := zci w2 RR 1 (0) (by go_simp)
      have g2_0_1 := zfe w2 RR 1 (by go_simp)
      have c2_1_0 := zci w2 LO 0 (wH (l)) (by go_simp)
      have g2_1_0 := zfe w2 LO 0 (by go_simp)
      have c2_1_1 := zcu w2 LO 1 (wL (l)) (by go_simp)
      have g2_1_1 := zfe w2 LO 1 (by go_simp)
      have c2_2_0 := zci w2 HI 0 (wH (h)) (by go_simp)
      have g2_2_0 := zfe w2 HI 0 (by go_simp)
      have c2_2_1 := zcu w2 HI 1 (wL (h)) (by go_simp)
      have g2_2_1 := zfe w2 HI 1 (by go_simp)
      have c2_3_0 := zci w2 CC 0 (al) (by go_simp)
      have c2_3_1 := zci w2 CC 1 (bl) (by go_simp)
      have c2_3_2 := zci w2 CC 2 (al) (by go_simp)
      have c2_3_3 := zci w2 CC 3 (bh) (by go_simp)
      have c2_3_4 := zci w2 CC 4 (ah) (by go_simp)
      have c2_3_5 := zci w2 CC 5 (bl) (by go_simp)
      have c2_3_6 := zci w2 CC 6 (ah) (by go_simp)
      have c2_3_7 := zci w2 CC 7 (bh) (by go_simp)
      have c2_4_0 := zci w2 p9 0 (wH (p1)) (by go_simp)
      have c2_4_1 := zcu w2 p9 1 (wL (p1)) (by go_simp)
      clear hc2 hf2 c1_0_0 g1_0_0 c1_0_1 g1_0_1 c1_1_0 g1_1_0 c1_1_1 g1_1_1 c1_2_0 g1_2_0 c1_2_1 g1_2_1 c1_3_0 c1_3_1 c1_3_2 c1_3_3 c1_3_4 c1_3_5 c1_3_6 c1_3_7 c1_4_0 c1_4_1
      go_wp2
      go_roundw
      case rel => exact ⟨2, l, h, by first | rfl | go_num, Or.inr (Or.inr (Or.inl ⟨by omega, EL.out.trans (congrArg (fun t => mi t p1) HL.out), EH.out.trans (congrArg (fun t => mx t p1) HH.out)⟩)), ⟨by first | exact (hB.trans blw_) | skip, by omega, by omega, by omega, by omega, by first | omega | (simp <;> omega), by go_simp, by go_simp, by go_simp, by go_simp, by go_simp, by go_simp, by go_simp, by go_simp, by go_simp, by go_simp, by go_simp, by go_simp⟩, ⟨by go_simp, by go_simp, by go_simp, by go_simp, by go_simp, by go_simp, by go_simp, by go_simp⟩⟩
      case measure => simp [intOf]
  ·-- round 2
   have hbr : Below wr.heap.size wr wr := Below.refl _ _
   obtain ⟨rfl, hl, hh⟩ := hR
   have HL := hide hl
   have HH := hide hh
   clear hl hh
   go_wp2_with fail
   refine QF.region_float_ex 11 61 (QF.FD _ _ (.int .i64 0) (.int .u64 0)) _ (by kernel_rfl) (by kernel_rfl) rfl rfl rfl (show Below _ _ _ from (hbr).drew) ?_
   apply Exists.intro
   refine ⟨fun j => ?h1, ?hf, ?ht⟩
   case h1 =>
    simp only [List.take_succ_cons, List.take_zero, List.drop_succ_cons, List.drop_zero]
    repeat (first
     | go_big_quiet_skip
     | (go_big_quiet_want; go_big_quiet_op; first
      | go_big_quiet_on
      | (apply Exists.intro
         refine ⟨fun _ => ?_, ?_⟩
         ·first
          | rfl
          | (intro hC; obtain ⟨hcq, hfq⟩ := bcellB (QF.FD.below hC); go_simp; done)
          | (intro hC; obtain ⟨hcq, hfq⟩ := bcellB (QF.FD.below hC); go_simp; rfl)
          | (intro hC; have hcq := bcellG (QF.FD.below hC); go_simp; done)
          | (intro hC; have hcq := bcellG (QF.FD.below hC); go_simp; rfl)
          | (intro hC; go_at_call 109; (first | (with_reducible refine (T2.out _).mono ?_)); (intro e w2 hw; exact ⟨hw.1, QF.FD.call (by simp) hC hw.2⟩))
         go_big_quiet_on)))
    exact wpQuiet_nil rfl
   case hf =>
    intro w8 hD8
    have hm8 := QF.FD.made (t := 107) (by simp) hD8
    go_simp
    simpa [QF.floatRes] using hm8
   case ht =>
    intro u9 w9 hD9
    simp only [List.drop_succ_cons, List.drop_zero]
    obtain ⟨hC9, p9, rfl, hp9, hq9, bc0, bc1, bf0, bf1⟩ := hD9
    obtain ⟨hc9, hf9⟩ := bcellB hC9
    have hz9 := hC9.size
    try simp only [World.size_alloc, World.size_setCell] at hz9 hp9
    try have hs9 : w.heap.size < p9 := by omega
    try have hs9' : w.heap.size ≤ p9 := by omega
    try have ht9 : w.heap.size < w9.heap.size := by omega
    have hp : ¬ RR = p9 ∧ ¬ LO = p9 ∧ ¬ HI = p9 ∧ ¬ CC = p9 ∧ ¬ p9 = RR ∧ ¬ p9 = LO ∧ ¬ p9 = HI ∧ ¬ p9 = CC := by omega
    obtain ⟨np1, np2, np3, np4, np5, np6, np7, np8⟩ := hp
    have wz1 : RR < w9.heap.size ∧ LO < w9.heap.size ∧ HI < w9.heap.size ∧ CC < w9.heap.size := by omega
    obtain ⟨wz1, wz2, wz3, wz4⟩ := wz1
    by_cases c1 : p2 < l
    ·have D1 := hide (rless_r p2 l true (decide_eq_true c1))
     by_cases c2 : h < p2
     ·have D2 := hide (rless_r h p2 true (decide_eq_true c2))
      have EL : Hid (p2 = mi l p2) := hide ((if_pos c1).symm)
      have EH : Hid (p2 = mx h p2) := hide ((if_pos c2).symm)
      clear c1 c2
      go_wp2_with fail
      refine (D1.out _).mono ?_
      rintro e w1 ⟨rfl, hb1⟩
      obtain ⟨hc1, hf1⟩ := bcell hb1
      have hz1 := hb1.size
      try simp only [World.size_alloc, World.size_setCell] at hz1
      try refine zb RR w1 (by omega) fun _ _ => ?_
      try refine zb LO w1 (by omega) fun _ _ => ?_
      try refine zb HI w1 (by omega) fun _ _ => ?_
      try refine zb CC w1 (by omega) fun _ _ => ?_
      try refine zb p9 w1 (by omega) fun _ _ => ?_
      have c1_0_0 := zci w1 RR 0 (0) (by go_simp)
      have g1_0_0 := zfe w1 RR 0 (by go_simp)
      have c1_0_1 := zci w1 RR 1 (0) (by go_simp)
      have g1_0_1 := zfe w1 RR 1 (by go_simp)
      have c1_1_0 := zci w1 LO 0 (wH (l)) (by go_simp)
      have g1_1_0 := zfe w1 LO 0 (by go_simp)
      have c1_1_1 := zcu w1 LO 1 (wL (l)) (by go_simp)
      have g1_1_1 := zfe w1 LO 1 (by go_simp)
      have c1_2_0 := zci w1 HI 0 (wH (h)) (by go_simp)
      have g1_2_0 := zfe w1 HI 0 (by go_simp)
      have c1_2_1 := zcu w1 HI 1 (wL (h)) (by go_simp)
      have g1_2_1 := zfe w1 HI 1 (by go_simp)
      have c1_3_0 := zci w1 CC 0 (al) (by go_simp)
      have c1_3_1 := zci w1 CC 1 (bl) (by go_simp)
      have c1_3_2 := zci w1 CC 2 (al) (by go_simp)
      have c1_3_3 := zci w1 CC 3 (bh) (by go_simp)
      have c1_3_4 := zci w1 CC 4 (ah) (by go_simp)
      have c1_3_5 := zci w1 CC 5 (bl) (by go_simp)
      have c1_3_6 := zci w1 CC 6 (ah) (by go_simp)
      have c1_3_7 := zci w1 CC 7 (bh) (by go_simp)
      have c1_4_0 := zci w1 p9 0 (wH (p2)) (by go_simp)
      have c1_4_1 := zcu w1 p9 1 (wL (p2)) (by go_simp)
      clear hc1 hf1
      go_wp2_with fail
      refine (D2.out _).mono ?_
      rintro e w2 ⟨rfl, hb2⟩
      obtain ⟨hc2, hf2⟩ := bcell hb2
      have hz2 := hb2.size
      try simp only [World.size_alloc, World.size_setCell] at hz2
      try refine zb RR w2 (by omega) fun _ _ => ?_
      try refine zb LO w2 (by omega) fun _ _ => ?_
      try refine zb HI w2 (by omega) fun _ _ => ?_
      try refine zb CC w2 (by omega) fun _ _ => ?_
      try refine zb p9 w2 (by omega) fun _ _ => ?_
      have c2_0_0 := zci w2 RR 0 (0) (by go_simp)
      have g2_0_0 := zfe w2 RR 0 (by go_simp)
      have c2_0_1 := zci w2 RR 1 (0) (by go_simp)
      have g2_0_1 := zfe w2 RR 1 (by go_simp)
      have c2_1_0 := zci w2 LO 0 (wH (p2)) (by go_simp)
      have g2_1_0 := zfe w2 LO 0 (by go_simp)
      have c2_1_1 := zcu w2 LO 1 (wL (p2)) (by go_simp)
      have g2_1_1 := zfe w2 LO 1 (by go_simp)
      have c2_2_0 := zci w2 HI 0 (wH (h)) (by go_simp)
      have g2_2_0 := zfe w2 HI 0 (by go_simp)
      have c2_2_1 := zcu w2 HI 1 (wL (h)) (by go_simp)
      have g2_2_1 := zfe w2 HI 1 (by go_simp)
      have c2_3_0 := zci w2 CC 0 (al) (by go_simp)
      have c2_3_1 := zci w2 CC 1 (bl) (by go_simp)
      have c2_3_2 := zci w2 CC 2 (al) (by go_simp)
      have c2_3_3 := zci w2 CC 3 (bh) (by go_simp)
      have c2_3_4 := zci w2 CC 4 (ah) (by go_simp)
      have c2_3_5 := zci w2 CC 5 (bl) (by go_simp)
      have c2_3_6 := zci w2 CC 6 (ah) (by go_simp)
      have c2_3_7 := zci w2 CC 7 (bh) (by go_simp)
      have c2_4_0 := zci w2 p9 0 (wH (p2)) (by go_simp)
      have c2_4_1 := zcu w2 p9 1 (wL (p2)) (by go_simp)
      clear hc2 hf2 c1_0_0 g1_0_0 c1_0_1 g1_0_1 c1_1_0 g1_1_0 c1_1_1 g1_1_1 c1_2_0 g1_2_0 c1_2_1 g1_2_1 c1_3_0 c1_3_1 c1_3_2 c1_3_3 c1_3_4 c1_3_5 c1_3_6 c1_3_7 c1_4_0 c1_4_1
      go_wp2
      go_roundw
      case rel => exact ⟨3, p2, p2, by first | rfl | go_num, Or.inr (Or.inr (Or.inr (Or.inl ⟨by omega, EL.out.trans (congrArg (fun t => mi t p2) HL.out), EH.out.trans (congrArg (fun t => mx t p2) HH.out)⟩))), ⟨by first | exact (hB.trans blw_) | skip, by omega, by omega, by omega, by omega, by first | omega | (simp <;> omega), by go_simp, by go_simp, by go_simp, by go_simp, by go_simp, by go_simp, by go_simp, by go_simp, by go_simp, by go_simp, by go_simp, by go_simp⟩, ⟨by go_simp, by go_simp, by go_simp, by go_simp, by go_simp, by go_simp, by go_simp, by go_simp⟩⟩
      case measure => simp [intOf]
     ·have D2 := hide (rless_r h p2 false (decide_eq_false c2))
      have EL : Hid (p2 = mi l p2) := hide ((if_pos c1).symm)
      have EH : Hid (h = mx h p2) := hide ((if_neg c2).symm)
      clear c1 c2
      go_wp2_with fail
      refine (D1.out _).mono ?_
      rintro e w1 ⟨rfl, hb1⟩
      obtain ⟨hc1, hf1⟩ := bcell hb1
      have hz1 := hb1.size
      try simp only [World.size_alloc, World.size_setCell] at hz1
      try refine zb RR w1 (by omega) fun _ _ => ?_
      try refine zb LO w1 (by omega) fun _ _ => ?_
      try refine zb HI w1 (by omega) fun _ _ => ?_
      try refine zb CC w1 (by omega) fun _ _ => ?_
      try refine zb p9 w1 (by omega) fun _ _ => ?_
      have c1_0_0 := zci w1 RR 0 (0) (by go_simp)
      have g1_0_0 := zfe w1 RR 0 (by go_simp)
      have c1_0_1 := zci w1 RR 1 (0) (by go_simp)
      have g1_0_1 := zfe w1 RR 1 (by go_simp)
      have c1_1_0 := zci w1 LO 0 (wH (l)) (by go_simp)
      have g1_1_0 := zfe w1 LO 0 (by go_simp)
      have c1_1_1 := zcu w1 LO 1 (wL (l)) (by go_simp)
      have g1_1_1 := zfe w1 LO 1 (by go_simp)
      have c1_2_0 := zci w1 HI 0 (wH (h)) (by go_simp)
      have g1_2_0 := zfe w1 HI 0 (by go_simp)
      have c1_2_1 := zcu w1 HI 1 (wL (h)) (by go_simp)
      have g1_2_1 := zfe w1 HI 1 (by go_simp)
      have c1_3_0 := zci w1 CC 0 (al) (by go_simp)
      have c1_3_1 := zci w1 CC 1 (bl) (by go_simp)
      have c1_3_2 := zci w1 CC 2 (al) (by go_simp)
      have c1_3_3 := zci w1 CC 3 (bh) (by go_simp)
      have c1_3_4 := zci w1 CC 4 (ah) (by go_simp)
      have c1_3_5 := zci w1 CC 5 (bl) (by go_simp)
      have c1_3_6 := zci w1 CC 6 (ah) (by go_simp)
      have c1_3_7 := zci w1 CC 7 (bh) (by go_simp)
      have c1_4_0 := zci w1 p9 0 (wH (p2)) (by go_simp)
      have c1_4_1 := zcu w1 p9 1 (wL (p2)) (by go_simp)
      clear hc1 hf1
      go_wp2_with fail
      refine (D2.out _).mono ?_
      rintro e w2 ⟨rfl, hb2⟩
      obtain ⟨hc2, hf2⟩ := bcell hb2
      have hz2 := hb2.size
      try simp only [World.size_alloc, World.size_setCell] at hz2
      try refine zb RR w2 (by omega) fun _ _ => ?_
      try refine zb LO w2 (by omega) fun _ _ => ?_
      try refine zb HI w2 (by omega) fun _ _ => ?_
      try refine zb CC w2 (by omega) fun _ _ => ?_
      try refine zb p9 w2 (by omega) fun _ _ => ?_
      have c2_0_0 := zci w2 RR 0 (0) (by go_simp)
      have g2_0_0 := zfe w2 RR 0 (by go_simp)
      have c2_0_1 := zci w2 RR 1 (0) (by go_simp)
      have g2_0_1 := zfe w2 RR 1 (by go_simp)
      have c2_1_0 := zci w2 LO 0 (wH (p2)) (by go_simp)
      have g2_1_0 := zfe w2 LO 0 (by go_simp)
      have c2_1_1 := zcu w2 LO 1 (wL (p2)) (by go_simp)
      have g2_1_1 := zfe w2 LO 1 (by go_simp)
      have c2_2_0 := zci w2 HI 0 (wH (h)) (by go_simp)
      have g2_2_0 := zfe w2 HI 0 (by go_simp)
      have c2_2_1 := zcu w2 HI 1 (wL (h)) (by go_simp)
      have g2_2_1 := zfe w2 HI 1 (by go_simp)
      have c2_3_0 := zci w2 CC 0 (al) (by go_simp)
      have c2_3_1 := zci w2 CC 1 (bl) (by go_simp)
      have c2_3_2 := zci w2 CC 2 (al) (by go_simp)
      have c2_3_3 := zci w2 CC 3 (bh) (by go_simp)
      have c2_3_4 := zci w2 CC 4 (ah) (by go_simp)
      have c2_3_5 := zci w2 CC 5 (bl) (by go_simp)
      have c2_3_6 := zci w2 CC 6 (ah) (by go_simp)
      have c2_3_7 := zci w2 CC 7 (bh) (by go_simp)
      have c2_4_0 := zci w2 p9 0 (wH (p2)) (by go_simp)
      have c2_4_1 := zcu w2 p9 1 (wL (p2)) (by go_simp)
      clear hc2 hf2 c1_0_0 g1_0_0 c1_0_1 g1_0_1 c1_1_0 g1_1_0 c1_1_1 g1_1_1 c1_2_0 g1_2_0 c1_2_1 g1_2_1 c1_3_0 c1_3_1 c1_3_2 c1_3_3 c1_3_4 c1_3_5 c1_3_6 c1_3_7 c1_4_0 c1_4_1
      go_wp2
      go_roundw
      case rel => exact ⟨3, p2, h, by first | rfl | go_num, Or.inr (Or.inr (Or.inr (Or.inl ⟨by omega, EL.out.trans (congrArg (fun t => mi t p2) HL.out), EH.out.trans (congrArg (fun t => mx t p2) HH.out)⟩))), ⟨by first | exact (hB.trans blw_) | skip, by omega, by omega, by omega, by omega, by first | omega | (simp <;> omega), by go_simp, by go_simp, by go_simp, by go_simp, by go_simp, by go_simp, by go_simp, by go_simp, by go_simp, by go_simp, by go_simp, by go_simp⟩, ⟨by go_simp, by go_simp, by go_simp, by go_simp, by go_simp, by go_simp, by go_simp, by go_simp⟩⟩
      case measure => simp [intOf]
    ·have D1 := hide (rless_r p2 l false (decide_eq_false c1))
     by_cases c2 : h < p2
     ·have D2 := hide (rless_r h p2 true (decide_eq_true c2))
      have EL : Hid (l = mi l p2) := hide ((if_neg c1).symm)
      have EH : Hid (p2 = mx h p2) := hide ((if_pos c2).symm)
      clear c1 c2
      go_wp2_with fail
      refine (D1.out _).mono ?_
      rintro e w1 ⟨rfl, hb1⟩
      obtain ⟨hc1, hf1⟩ := bcell hb1
      have hz1 := hb1.size
      try simp only [World.size_alloc, World.size_setCell] at hz1
      try refine zb RR w1 (by omega) fun _ _ => ?_
      try refine zb LO w1 (by omega) fun _ _ => ?_
      try refine zb HI w1 (by omega) fun _ _ => ?_
      try refine zb CC w1 (by omega) fun _ _ => ?_
      try refine zb p9 w1 (by omega) fun _ _ => ?_
      have c1_0_0 := zci w1 RR 0 (0) (by go_simp)
      have g1_0_0 := zfe w1 RR 0 (by go_simp)
      have c1_0_1 := zci w1 RR 1 (0) (by go_simp)
      have g1_0_1 := zfe w1 RR 1 (by go_simp)
      have c1_1_0 := zci w1 LO 0 (wH (l)) (by go_simp)
      have g1_1_0 := zfe w1 LO 0 (by go_simp)
      have c1_1_1 := zcu w1 LO 1 (wL (l)) (by go_simp)
      have g1_1_1 := zfe w1 LO 1 (by go_simp)
      have c1_2_0 := zci w1 HI 0 (wH (h)) (by go_simp)
      have g1_2_0 := zfe w1 HI 0 (by go_simp)
      have c1_2_1 := zcu w1 HI 1 (wL (h)) (by go_simp)
      have g1_2_1 := zfe w1 HI 1 (by go_simp)
      have c1_3_0 := zci w1 CC 0 (al) (by go_simp)
      have c1_3_1 := zci w1 CC 1 (bl) (by go_simp)
      have c1_3_2 := zci w1 CC 2 (al) (by go_simp)
      have c1_3_3 := zci w1 CC 3 (bh) (by go_simp)
      have c1_3_4 := zci w1 CC 4 (ah) (by go_simp)
      have c1_3_5 := zci w1 CC 5 (bl) (by go_simp)
      have c1_3_6 := zci w1 CC 6 (ah) (by go_simp)
      have c1_3_7 := zci w1 CC 7 (bh) (by go_simp)
      have c1_4_0 := zci w1 p9 0 (wH (p2)) (by go_simp)
      have c1_4_1 := zcu w1 p9 1 (wL (p2)) (by go_simp)
      clear hc1 hf1
      go_wp2_with fail
      refine (D2.out _).mono ?_
      rintro e w2 ⟨rfl, hb2⟩
      obtain ⟨hc2, hf2⟩ := bcell hb2
      have hz2 := hb2.size
      try simp only [World.size_alloc, World.size_setCell] at hz2
      try refine zb RR w2 (by omega) fun _ _ => ?_
      try refine zb LO w2 (by omega) fun _ _ => ?_
      try refine zb HI w2 (by omega) fun _ _ => ?_
      try refine zb CC w2 (by omega) fun _ _ => ?_
      try refine zb p9 w2 (by omega) fun _ _ => ?_
      have c2_0_0 := zci w2 RR 0 (0) (by go_simp)
      have g2_0_0 := zfe w2 RR 0 (by go_simp)
      have c2_0_1 := zci w2 RR 1 (0) (by go_simp)
      have g2_0_1 := zfe w2 RR 1 (by go_simp)
      have c2_1_0 := zci w2 LO 0 (wH (l)) (by go_simp)
      have g2_1_0 := zfe w2 LO 0 (by go_simp)
      have c2_1_1 := zcu w2 LO 1 (wL (l)) (by go_simp)
      have g2_1_1 := zfe w2 LO 1 (by go_simp)
      have c2_2_0 := zci w2 HI 0 (wH (h)) (by go_simp)
      have g2_2_0 := zfe w2 HI 0 (by go_simp)
      have c2_2_1 := zcu w2 HI 1 (wL (h)) (by go_simp)
      have g2_2_1 := zfe w2 HI 1 (by go_simp)
      have c2_3_0 := zci w2 CC 0 (al) (by go_simp)
      have c2_3_1 := zci w2 CC 1 (bl) (by go_simp)
      have c2_3_2 := zci w2 CC 2 (al) (by go_simp)
      have c2_3_3 := zci w2 CC 3 (bh) (by go_simp)
      have c2_3_4 := zci w2 CC 4 (ah) (by go_simp)
      have c2_3_5 := zci w2 CC 5 (bl) (by go_simp)
      have c2_3_6 := zci w2 CC 6 (ah) (by go_simp)
      have c2_3_7 := zci w2 CC 7 (bh) (by go_simp)
      have c2_4_0 := zci w2 p9 0 (wH (p2)) (by go_simp)
      have c2_4_1 := zcu w2 p9 1 (wL (p2)) (by go_simp)
      clear hc2 hf2 c1_0_0 g1_0_0 c1_0_1 g1_0_1 c1_1_0 g1_1_0 c1_1_1 g1_1_1 c1_2_0 g1_2_0 c1_2_1 g1_2_1 c1_3_0 c1_3_1 c1_3_2 c1_3_3 c1_3_4 c1_3_5 c1_3_6 c1_3_7 c1_4_0 c1_4_1
      go_wp2
      go_roundw
      case rel => exact ⟨3, l, p2, by first | rfl | go_num, Or.inr (Or.inr (Or.inr (Or.inl ⟨by omega, EL.out.trans (congrArg (fun t => mi t p2) HL.out), EH.out.trans (congrArg (fun t => mx t p2) HH.out)⟩))), ⟨by first | exact (hB.trans blw_) | skip, by omega, by omega, by omega, by omega, by first | omega | (simp <;> omega), by go_simp, by go_simp, by go_simp, by go_simp, by go_simp, by go_simp, by go_simp, by go_simp, by go_simp, by go_simp, by go_simp, by go_simp⟩, ⟨by go_simp, by go_simp, by go_simp, by go_simp, by go_simp, by go_simp, by go_simp, by go_simp⟩⟩
      case measure => simp [intOf]
     ·have D2 := hide (rless_r h p2 false (decide_eq_false c2))
      have EL : Hid (l = mi l p2) := hide ((if_neg c1).symm)
      have EH : Hid (h = mx h p2) := hide ((if_neg c2).symm)
      clear c1 c2
      go_wp2_with fail
      refine (D1.out _).mono ?_
      rintro e w1 ⟨rfl, hb1⟩
      obtain ⟨hc1, hf1⟩ := bcell hb1
      have hz1 := hb1.size
      try simp only [World.size_alloc, World.size_setCell] at hz1
      try refine zb RR w1 (by omega) fun _ _ => ?_
      try refine zb LO w1 (by omega) fun _ _ => ?_
      try refine zb HI w1 (by omega) fun _ _ => ?_
      try refine zb CC w1 (by omega) fun _ _ => ?_
      try refine zb p9 w1 (by omega) fun _ _ => ?_
      have c1_0_0 := zci w1 RR 0 (0) (by go_simp)
      have g1_0_0 := zfe w1 RR 0 (by go_simp)
      have c1_0_1 := zci w1 RR 1 (0) (by go_simp)
      have g1_0_1 := zfe w1 RR 1 (by go_simp)
      have c1_1_0 := zci w1 LO 0 (wH (l)) (by go_simp)
      have g1_1_0 := zfe w1 LO 0 (by go_simp)
      have c1_1_1 := zcu w1 LO 1 (wL (l)) (by go_simp)
      have g1_1_1 := zfe w1 LO 1 (by go_simp)
      have c1_2_0 := zci w1 HI 0 (wH (h)) (by go_simp)
      have g1_2_0 := zfe w1 HI 0 (by go_simp)
      have c1_2_1 := zcu w1 HI 1 (wL (h)) (by go_simp)
      have g1_2_1 := zfe w1 HI 1 (by go_simp)
      have c1_3_0 := zci w1 CC 0 (al) (by go_simp)
      have c1_3_1 := zci w1 CC 1 (bl) (by go_simp)
      have c1_3_2 := zci w1 CC 2 (al) (by go_simp)
      have c1_3_3 := zci w1 CC 3 (bh) (by go_simp)
      have c1_3_4 := zci w1 CC 4 (ah) (by go_simp)
      have c1_3_5 := zci w1 CC 5 (bl) (by go_simp)
      have c1_3_6 := zci w1 CC 6 (ah) (by go_simp)
      have c1_3_7 := zci w1 CC 7 (bh) (by go_simp)
      have c1_4_0 := zci w1 p9 0 (wH (p2)) (by go_simp)
      have c1_4_1 := zcu w1 p9 1 (wL (p2)) (by go_simp)
      clear hc1 hf1
      go_wp2_with fail
      refine (D2.out _).mono ?_
      rintro e w2 ⟨rfl, hb2⟩
      obtain ⟨hc2, hf2⟩ := bcell hb2
      have hz2 := hb2.size
      try simp only [World.size_alloc, World.size_setCell] at hz2
      try refine zb RR w2 (by omega) fun _ _ => ?_
      try refine zb LO w2 (by omega) fun _ _ => ?_
      try refine zb HI w2 (by omega) fun _ _ => ?_
      try refine zb CC w2 (by omega) fun _ _ => ?_
      try refine zb p9 w2 (by omega) fun _ _ => ?_
      have c2_0_0 := zci w2 RR 0 (0) (by go_simp)
      have g2_0_0 := zfe w2 RR 0 (by go_simp)
      have c2_0_1 := zci w2 RR 1 (0) (by go_simp)
      have g2_0_1 := zfe w2 RR 1 (by go_simp)
      have c2_1_0 := zci w2 LO 0 (wH (l)) (by go_simp)
      have g2_1_0 := zfe w2 LO 0 (by go_simp)
      have c2_1_1 := zcu w2 LO 1 (wL (l)) (by go_simp)
      have g2_1_1 := zfe w2 LO 1 (by go_simp)
      have c2_2_0 := zci w2 HI 0 (wH (h)) (by go_simp)
      have g2_2_0 := zfe w2 HI 0 (by go_simp)
      have c2_2_1 := zcu w2 HI 1 (wL (h)) (by go_simp)
      have g2_2_1 := zfe w2 HI 1 (by go_simp)
      have c2_3_0 := zci w2 CC 0 (al) (by go_simp)
      have c2_3_1 := zci w2 CC 1 (bl) (by go_simp)
      have c2_3_2 := zci w2 CC 2 (al) (by go_simp)
      have c2_3_3 := zci w2 CC 3 (bh) (by go_simp)
      have c2_3_4 := zci w2 CC 4 (ah) (by go_simp)
      have c2_3_5 := zci w2 CC 5 (bl) (by go_simp)
      have c2_3_6 := zci w2 CC 6 (ah) (by go_simp)
      have c2_3_7 := zci w2 CC 7 (bh) (by go_simp)
      have c2_4_0 := zci w2 p9 0 (wH (p2)) (by go_simp)
      have c2_4_1 := zcu w2 p9 1 (wL (p2)) (by go_simp)
      clear hc2 hf2 c1_0_0 g1_0_0 c1_0_1 g1_0_1 c1_1_0 g1_1_0 c1_1_1 g1_1_1 c1_2_0 g1_2_0 c1_2_1 g1_2_1 c1_3_0 c1_3_1 c1_3_2 c1_3_3 c1_3_4 c1_3_5 c1_3_6 c1_3_7 c1_4_0 c1_4_1
      go_wp2
      go_roundw
      case rel => exact ⟨3, l, h, by first | rfl | go_num, Or.inr (Or.inr (Or.inr (Or.inl ⟨by omega, EL.out.trans (congrArg (fun t => mi t p2) HL.out), EH.out.trans (congrArg (fun t => mx t p2) HH.out)⟩))), ⟨by first | exact (hB.trans blw_) | skip, by omega, by omega, by omega, by omega, by first | omega | (simp <;> omega), by go_simp, by go_simp, by go_simp, by go_simp, by go_simp, by go_simp, by go_simp, by go_simp, by go_simp, by go_simp, by go_simp, by go_simp⟩, ⟨by go_simp, by go_simp, by go_simp, by go_simp, by go_simp, by go_simp, by go_simp, by go_simp⟩⟩
      case measure => simp [intOf]
  ·-- round 3
   have hbr : Below wr.heap.size wr wr := Below.refl _ _
   obtain ⟨rfl, hl, hh⟩ := hR
   have HL := hide hl
   have HH := hide hh
   clear hl hh
   go_wp2_with fail
   refine QF.region_float_ex 11 61 (QF.FD _ _ (.int .i64 0) (.int .u64 0)) _ (by kernel_rfl) (by kernel_rfl) rfl rfl rfl (show Below _ _ _ from (hbr).drew) ?_
   apply Exists.intro
   refine ⟨fun j => ?h1, ?hf, ?ht⟩
   case h1 =>
    simp only [List.take_succ_cons, List.take_zero, List.drop_succ_cons, List.drop_zero]
    repeat (first
     | go_big_quiet_skip
     | (go_big_quiet_want; go_big_quiet_op; first
      | go_big_quiet_on
      | (apply Exists.intro
         refine ⟨fun _ => ?_, ?_⟩
         ·first
          | rfl
          | (intro hC; obtain ⟨hcq, hfq⟩ := bcellB (QF.FD.below hC); go_simp; done)
          | (intro hC; obtain ⟨hcq, hfq⟩ := bcellB (QF.FD.below hC); go_simp; rfl)
          | (intro hC; have hcq := bcellG (QF.FD.below hC); go_simp; done)
          | (intro hC; have hcq := bcellG (QF.FD.below hC); go_simp; rfl)
          | (intro hC; go_at_call 109; (first | (with_reducible refine (T3.out _).mono ?_)); (intro e w2 hw; exact ⟨hw.1, QF.FD.call (by simp) hC hw.2⟩))
         go_big_quiet_on)))
    exact wpQuiet_nil rfl
   case hf =>
    intro w8 hD8
    have hm8 := QF.FD.made (t := 107) (by simp) hD8
    go_simp
    simpa [QF.floatRes] using hm8
   case ht =>
    intro u9 w9 hD9
    simp only [List.drop_succ_cons, List.drop_zero]
    obtain ⟨hC9, p9, rfl, hp9, hq9, bc0, bc1, bf0, bf1⟩ := hD9
    obtain ⟨hc9, hf9⟩ := bcellB hC9
    have hz9 := hC9.size
    try simp only [World.size_alloc, World.size_setCell] at hz9 hp9
    try have hs9 : w.heap.size < p9 := by omega
    try have hs9' : w.heap.size ≤ p9 := by omega
    try have ht9 : w.heap.size < w9.heap.size := by omega
    have hp : ¬ RR = p9 ∧ ¬ LO = p9 ∧ ¬ HI = p9 ∧ ¬ CC = p9 ∧ ¬ p9 = RR ∧ ¬ p9 = LO ∧ ¬ p9 = HI ∧ ¬ p9 = CC := by omega
    obtain ⟨np1, np2, np3, np4, np5, np6, np7, np8⟩ := hp
    have wz1 : RR < w9.heap.size ∧ LO < w9.heap.size ∧ HI < w9.heap.size ∧ CC < w9.heap.size := by omega
    obtain ⟨wz1, wz2, wz3, wz4⟩ := wz1
    by_cases c1 : p3 < l
    ·have D1 := hide (rless_r p3 l true (decide_eq_true c1))
     by_cases c2 : h < p3
     ·have D2 := hide (rless_r h p3 true (decide_eq_true c2))
      have EL : Hid (p3 = mi l p3) := hide ((if_pos c1).symm)
      have EH : Hid (p3 = mx h p3) := hide ((if_pos c2).symm)
      clear c1 c2
      go_wp2_with fail
      refine (D1.out _).mono ?_
      rintro e w1 ⟨rfl, hb1⟩
      obtain ⟨hc1, hf1⟩ := bcell hb1
      have hz1 := hb1.size
      try simp only [World.size_alloc, World.size_setCell] at hz1
      try refine zb RR w1 (by omega) fun _ _ => ?_
      try refine zb LO w1 (by omega) fun _ _ => ?_
      try refine zb HI w1 (by omega) fun _ _ => ?_
      try refine zb CC w1 (by omega) fun _ _ => ?_
      try refine zb p9 w1 (by omega) fun _ _ => ?_
      have c1_0_0 := zci w1 RR 0 (0) (by go_simp)
      have g1_0_0 := zfe w1 RR 0 (by go_simp)
      have c1_0_1 := zci w1 RR 1 (0) (by go_simp)
      have g1_0_1 := zfe w1 RR 1 (by go_simp)
      have c1_1_0 := zci w1 LO 0 (wH (l)) (by go_simp)
      have g1_1_0 := zfe w1 LO 0 (by go_simp)
      have c1_1_1 := zcu w1 LO 1 (wL (l)) (by go_simp)
      have g1_1_1 := zfe w1 LO 1 (by go_simp)
      have c1_2_0 := zci w1 HI 0 (wH (h)) (by go_simp)
      have g1_2_0 := zfe w1 HI 0 (by go_simp)
      have c1_2_1 := zcu w1 HI 1 (wL (h)) (by go_simp)
      have g1_2_1 := zfe w1 HI 1 (by go_simp)
      have c1_3_0 := zci w1 CC 0 (al) (by go_simp)
      have c1_3_1 := zci w1 CC 1 (bl) (by go_simp)
      have c1_3_2 := zci w1 CC 2 (al) (by go_simp)
      have c1_3_3 := zci w1 CC 3 (bh) (by go_simp)
      have c1_3_4 := zci w1 CC 4 (ah) (by go_simp)
      have c1_3_5 := zci w1 CC 5 (bl) (by go_simp)
      have c1_3_6 := zci w1 CC 6 (ah) (by go_simp)
      have c1_3_7 := zci w1 CC 7 (bh) (by go_simp)
      have c1_4_0 := zci w1 p9 0 (wH (p3)) (by go_simp)
      have c1_4_1 := zcu w1 p9 1 (wL (p3)) (by go_simp)
      clear hc1 hf1
      go_wp2_with fail
      refine (D2.out _).mono ?_
      rintro e w2 ⟨rfl, hb2⟩
      obtain ⟨hc2, hf2⟩ := bcell hb2
      have hz2 := hb2.size
      try simp only [World.size_alloc, World.size_setCell] at hz2
      try refine zb RR w2 (by omega) fun _ _ => ?_
      try refine zb LO w2 (by omega) fun _ _ => ?_
      try refine zb HI w2 (by omega) fun _ _ => ?_
      try refine zb CC w2 (by omega) fun _ _ => ?_
      try refine zb p9 w2 (by omega) fun _ _ => ?_
      have c2_0_0 := zci w2 RR 0 (0) (by go_simp)
      have g2_0_0 := zfe w2 RR 0 (by go_simp)
      have c2_0_1 := zci w2 RR 1 (0) (by go_simp)
      have g2_0_1 := zfe w2 RR 1 (by go_simp)
      have c2_1_0 := zci w2 LO 0 (wH (p3)) (by go_simp)
      have g2_1_0 := zfe w2 LO 0 (by go_simp)
      have c2_1_1 := zcu w2 LO 1 (wL (p3)) (by go_simp)
      have g2_1_1 := zfe w2 LO 1 (by go_simp)
      have c2_2_0 := zci w2 HI 0 (wH (h)) (by go_simp)
      have g2_2_0 := zfe w2 HI 0 (by go_simp)
      have c2_2_1 := zcu w2 HI 1 (wL (h)) (by go_simp)
      have g2_2_1 := zfe w2 HI 1 (by go_simp)
      have c2_3_0 := zci w2 CC 0 (al) (by go_simp)
      have c2_3_1 := zci w2 CC 1 (bl) (by go_simp)
      have c2_3_2 := zci w2 CC 2 (al) (by go_simp)
      have c2_3_3 := zci w2 CC 3 (bh) (by go_simp)
      have c2_3_4 := zci w2 CC 4 (ah) (by go_simp)
      have c2_3_5 := zci w2 CC 5 (bl) (by go_simp)
      have c2_3_6 := zci w2 CC 6 (ah) (by go_simp)
      have c2_3_7 := zci w2 CC 7 (bh) (by go_simp)
      have c2_4_0 := zci w2 p9 0 (wH (p3)) (by go_simp)
      have c2_4_1 := zcu w2 p9 1 (wL (p3)) (by go_simp)
      clear hc2 hf2 c1_0_0 g1_0_0 c1_0_1 g1_0_1 c1_1_0 g1_1_0 c1_1_1 g1_1_1 c1_2_0 g1_2_0 c1_2_1 g1_2_1 c1_3_0 c1_3_1 c1_3_2 c1_3_3 c1_3_4 c1_3_5 c1_3_6 c1_3_7 c1_4_0 c1_4_1
      go_wp2
      go_roundw
      case rel => exact ⟨4, p3, p3, by first | rfl | go_num, Or.inr (Or.inr (Or.inr (Or.inr (⟨by omega, EL.out.trans (congrArg (fun t => mi t p3) HL.out), EH.out.trans (congrArg (fun t => mx t p3) HH.out)⟩)))), ⟨by first | exact (hB.trans blw_) | skip, by omega, by omega, by omega, by omega, by first | omega | (simp <;> omega), by go_simp, by go_simp, by go_simp, by go_simp, by go_simp, by go_simp, by go_simp, by go_simp, by go_simp, by go_simp, by go_simp, by go_simp⟩, ⟨by go_simp, by go_simp, by go_simp, by go_simp, by go_simp, by go_simp, by go_simp, by go_simp⟩⟩
      case measure => simp [intOf]
     ·have D2 := hide (rless_r h p3 false (decide_eq_false c2))
      have EL : Hid (p3 = mi l p3) := hide ((if_pos c1).symm)
      have EH : Hid (h = mx h p3) := hide ((if_neg c2).symm)
      clear c1 c2
      go_wp2_with fail
      refine (D1.out _).mono ?_
      rintro e w1 ⟨rfl, hb1⟩
      obtain ⟨hc1, hf1⟩ := bcell hb1
      have hz1 := hb1.size
      try simp only [World.size_alloc, World.size_setCell] at hz1
      try refine zb RR w1 (by omega) fun _ _ => ?_
      try refine zb LO w1 (by omega) fun _ _ => ?_
      try refine zb HI w1 (by omega) fun _ _ => ?_
      try refine zb CC w1 (by omega) fun _ _ => ?_
      try refine zb p9 w1 (by omega) fun _ _ => ?_
      have c1_0_0 := zci w1 RR 0 (0) (by go_simp)
      have g1_0_0 := zfe w1 RR 0 (by go_simp)
      have c1_0_1 := zci w1 RR 1 (0) (by go_simp)
      have g1_0_1 := zfe w1 RR 1 (by go_simp)
      have c1_1_0 := zci w1 LO 0 (wH (l)) (by go_simp)
      have g1_1_0 := zfe w1 LO 0 (by go_simp)
      have c1_1_1 := zcu w1 LO 1 (wL (l)) (by go_simp)
      have g1_1_1 := zfe w1 LO 1 (by go_simp)
      have c1_2_0 := zci w1 HI 0 (wH (h)) (by go_simp)
      have g1_2_0 := zfe w1 HI 0 (by go_simp)
      have c1_2_1 := zcu w1 HI 1 (wL (h)) (by go_simp)
      have g1_2_1 := zfe w1 HI 1 (by go_simp)
      have c1_3_0 := zci w1 CC 0 (al) (by go_simp)
      have c1_3_1 := zci w1 CC 1 (bl) (by go_simp)
      have c1_3_2 := zci w1 CC 2 (al) (by go_simp)
      have c1_3_3 := zci w1 CC 3 (bh) (by go_simp)
      have c1_3_4 := zci w1 CC 4 (ah) (by go_simp)
      have c1_3_5 := zci w1 CC 5 (bl) (by go_simp)
      have c1_3_6 := zci w1 CC 6 (ah) (by go_simp)
      have c1_3_7 := zci w1 CC 7 (bh) (by go_simp)
      have c1_4_0 := zci w1 p9 0 (wH (p3)) (by go_simp)
      have c1_4_1 := zcu w1 p9 1 (wL (p3)) (by go_simp)
      clear hc1 hf1
      go_wp2_with fail
      refine (D2.out _).mono ?_
      rintro e w2 ⟨rfl, hb2⟩
      obtain ⟨hc2, hf2⟩ := bcell hb2
      have hz2 := hb2.size
      try simp only [World.size_alloc, World.size_setCell] at hz2
      try refine zb RR w2 (by omega) fun _ _ => ?_
      try refine zb LO w2 (by omega) fun _ _ => ?_
      try refine zb HI w2 (by omega) fun _ _ => ?_
      try refine zb CC w2 (by omega) fun _ _ => ?_
      try refine zb p9 w2 (by omega) fun _ _ => ?_
      have c2_0_0 := zci w2 RR 0 (0) (by go_simp)
      have g2_0_0 := zfe w2 RR 0 (by go_simp)
      have c2_0_1 := zci w2 RR 1 (0) (by go_simp)
      have g2_0_1 := zfe w2 RR 1 (by go_simp)
      have c2_1_0 := zci w2 LO 0 (wH (p3)) (by go_simp)
      have g2_1_0 := zfe w2 LO 0 (by go_simp)
      have c2_1_1 := zcu w2 LO 1 (wL (p3)) (by go_simp)
      have g2_1_1 := zfe w2 LO 1 (by go_simp)
      have c2_2_0 := zci w2 HI 0 (wH (h)) (by go_simp)
      have g2_2_0 := zfe w2 HI 0 (by go_simp)
      have c2_2_1 := zcu w2 HI 1 (wL (h)) (by go_simp)
      have g2_2_1 := zfe w2 HI 1 (by go_simp)
      have c2_3_0 := zci w2 CC 0 (al) (by go_simp)
      have c2_3_1 := zci w2 CC 1 (bl) (by go_simp)
      have c2_3_2 := zci w2 CC 2 (al) (by go_simp)
      have c2_3_3 := zci w2 CC 3 (bh) (by go_simp)
      have c2_3_4 := zci w2 CC 4 (ah) (by go_simp)
      have c2_3_5 := zci w2 CC 5 (bl) (by go_simp)
      have c2_3_6 := zci w2 CC 6 (ah) (by go_simp)
      have c2_3_7 := zci w2 CC 7 (bh) (by go_simp)
      have c2_4_0 := zci w2 p9 0 (wH (p3)) (by go_simp)
      have c2_4_1 := zcu w2 p9 1 (wL (p3)) (by go_simp)
      clear hc2 hf2 c1_0_0 g1_0_0 c1_0_1 g1_0_1 c1_1_0 g1_1_0 c1_1_1 g1_1_1 c1_2_0 g1_2_0 c1_2_1 g1_2_1 c1_3_0 c1_3_1 c1_3_2 c1_3_3 c1_3_4 c1_3_5 c1_3_6 c1_3_7 c1_4_0 c1_4_1
      go_wp2
      go_roundw
      case rel => exact ⟨4, p3, h, by first | rfl | go_num, Or.inr (Or.inr (Or.inr (Or.inr (⟨by omega, EL.out.trans (congrArg (fun t => mi t p3) HL.out), EH.out.trans (congrArg (fun t => mx t p3) HH.out)⟩)))), ⟨by first | exact (hB.trans blw_) | skip, by omega, by omega, by omega, by omega, by first | omega | (simp <;> omega), by go_simp, by go_simp, by go_simp, by go_simp, by go_simp, by go_simp, by go_simp, by go_simp, by go_simp, by go_simp, by go_simp, by go_simp⟩, ⟨by go_simp, by go_simp, by go_simp, by go_simp, by go_simp, by go_simp, by go_simp, by go_simp⟩⟩
      case measure => simp [intOf]
    ·have D1 := hide (rless_r p3 l false (decide_eq_false c1))
     by_cases c2 : h < p3
     ·have D2 := hide (rless_r h p3 true (decide_eq_true c2))
      have EL : Hid (l = mi l p3) := hide ((if_neg c1).symm)
      have EH : Hid (p3 = mx h p3) := hide ((if_pos c2).symm)
      clear c1 c2
      go_wp2_with fail
      refine (D1.out _).mono ?_
      rintro e w1 ⟨rfl, hb1⟩
      obtain ⟨hc1, hf1⟩ := bcell hb1
      have hz1 := hb1.size
      try simp only [World.size_alloc, World.size_setCell] at hz1
      try refine zb RR w1 (by omega) fun _ _ => ?_
      try refine zb LO w1 (by omega) fun _ _ => ?_
      try refine zb HI w1 (by omega) fun _ _ => ?_
      try refine zb CC w1 (by omega) fun _ _ => ?_
      try refine zb p9 w1 (by omega) fun _ _ => ?_
      have c1_0_0 := zci w1 RR 0 (0) (by go_simp)
      have g1_0_0 := zfe w1 RR 0 (by go_simp)
      have c1_0_1 := zci w1 RR 1 (0) (by go_simp)
      have g1_0_1 := zfe w1 RR 1 (by go_simp)
      have c1_1_0 := zci w1 LO 0 (wH (l)) (by go_simp)
      have g1_1_0 := zfe w1 LO 0 (by go_simp)
      have c1_1_1 := zcu w1 LO 1 (wL (l)) (by go_simp)
      have g1_1_1 := zfe w1 LO 1 (by go_simp)
      have c1_2_0 := zci w1 HI 0 (wH (h)) (by go_simp)
      have g1_2_0 := zfe w1 HI 0 (by go_simp)
      have c1_2_1 := zcu w1 HI 1 (wL (h)) (by go_simp)
      have g1_2_1 := zfe w1 HI 1 (by go_simp)
      have c1_3_0 := zci w1 CC 0 (al) (by go_simp)
      have c1_3_1 := zci w1 CC 1 (bl) (by go_simp)
      have c1_3_2 := zci w1 CC 2 (al) (by go_simp)
      have c1_3_3 := zci w1 CC 3 (bh) (by go_simp)
      have c1_3_4 := zci w1 CC 4 (ah) (by go_simp)
      have c1_3_5 := zci w1 CC 5 (bl) (by go_simp)
      have c1_3_6 := zci w1 CC 6 (ah) (by go_simp)
      have c1_3_7 := zci w1 CC 7 (bh) (by go_simp)
      have c1_4_0 := zci w1 p9 0 (wH (p3)) (by go_simp)
      have c1_4_1 := zcu w1 p9 1 (wL (p3)) (by go_simp)
      clear hc1 hf1
      go_wp2_with fail
      refine (D2.out _).mono ?_
      rintro e w2 ⟨rfl, hb2⟩
      obtain ⟨hc2, hf2⟩ := bcell hb2
      have hz2 := hb2.size
      try simp only [World.size_alloc, World.size_setCell] at hz2
      try refine zb RR w2 (by omega) fun _ _ => ?_
      try refine zb LO w2 (by omega) fun _ _ => ?_
      try refine zb HI w2 (by omega) fun _ _ => ?_
      try refine zb CC w2 (by omega) fun _ _ => ?_
      try refine zb p9 w2 (by omega) fun _ _ => ?_
      have c2_0_0 := zci w2 RR 0 (0) (by go_simp)
      have g2_0_0 := zfe w2 RR 0 (by go_simp)
      have c2_0_1 := zci w2 RR 1 (0) (by go_simp)
      have g2_0_1 := zfe w2 RR 1 (by go_simp)
      have c2_1_0 := zci w2 LO 0 (wH (l)) (by go_simp)
      have g2_1_0 := zfe w2 LO 0 (by go_simp)
      have c2_1_1 := zcu w2 LO 1 (wL (l)) (by go_simp)
      have g2_1_1 := zfe w2 LO 1 (by go_simp)
      have c2_2_0 := zci w2 HI 0 (wH (h)) (by go_simp)
      have g2_2_0 := zfe w2 HI 0 (by go_simp)
      have c2_2_1 := zcu w2 HI 1 (wL (h)) (by go_simp)
      have g2_2_1 := zfe w2 HI 1 (by go_simp)
      have c2_3_0 := zci w2 CC 0 (al) (by go_simp)
      have c2_3_1 := zci w2 CC 1 (bl) (by go_simp)
      have c2_3_2 := zci w2 CC 2 (al) (by go_simp)
      have c2_3_3 := zci w2 CC 3 (bh) (by go_simp)
      have c2_3_4 := zci w2 CC 4 (ah) (by go_simp)
      have c2_3_5 := zci w2 CC 5 (bl) (by go_simp)
      have c2_3_6 := zci w2 CC 6 (ah) (by go_simp)
      have c2_3_7 := zci w2 CC 7 (bh) (by go_simp)
      have c2_4_0 := zci w2 p9 0 (wH (p3)) (by go_simp)
      have c2_4_1 := zcu w2 p9 1 (wL (p3)) (by go_simp)
      clear hc2 hf2 c1_0_0 g1_0_0 c1_0_1 g1_0_1 c1_1_0 g1_1_0 c1_1_1 g1_1_1 c1_2_0 g1_2_0 c1_2_1 g1_2_1 c1_3_0 c1_3_1 c1_3_2 c1_3_3 c1_3_4 c1_3_5 c1_3_6 c1_3_7 c1_4_0 c1_4_1
      go_wp2
      go_roundw
      case rel => exact ⟨4, l, p3, by first | rfl | go_num, Or.inr (Or.inr (Or.inr (Or.inr (⟨by omega, EL.out.trans (congrArg (fun t => mi t p3) HL.out), EH.out.trans (congrArg (fun t => mx t p3) HH.out)⟩)))), ⟨by first | exact (hB.trans blw_) | skip, by omega, by omega, by omega, by omega, by first | omega | (simp <;> omega), by go_simp, by go_simp, by go_simp, by go_simp, by go_simp, by go_simp, by go_simp, by go_simp, by go_simp, by go_simp, by go_simp, by go_simp⟩, ⟨by go_simp, by go_simp, by go_simp, by go_simp, by go_simp, by go_simp, by go_simp, by go_simp⟩⟩
      case measure => simp [intOf]
     ·have D2 := hide (rless_r h p3 false (decide_eq_false c2))
      have EL : Hid (l = mi l p3) := hide ((if_neg c1).symm)
      have EH : Hid (h = mx h p3) := hide ((if_neg c2).symm)
      clear c1 c2
      go_wp2_with fail
      refine (D1.out _).mono ?_
      rintro e w1 ⟨rfl, hb1⟩
      obtain ⟨hc1, hf1⟩ := bcell hb1
      have hz1 := hb1.size
      try simp only [World.size_alloc, World.size_setCell] at hz1
      try refine zb RR w1 (by omega) fun _ _ => ?_
      try refine zb LO w1 (by omega) fun _ _ => ?_
      try refine zb HI w1 (by omega) fun _ _ => ?_
      try refine zb CC w1 (by omega) fun _ _ => ?_
      try refine zb p9 w1 (by omega) fun _ _ => ?_
      have c1_0_0 := zci w1 RR 0 (0) (by go_simp)
      have g1_0_0 := zfe w1 RR 0 (by go_simp)
      have c1_0_1 := zci w1 RR 1 (0) (by go_simp)
      have g1_0_1 := zfe w1 RR 1 (by go_simp)
      have c1_1_0 := zci w1 LO 0 (wH (l)) (by go_simp)
      have g1_1_0 := zfe w1 LO 0 (by go_simp)
      have c1_1_1 := zcu w1 LO 1 (wL (l)) (by go_simp)
      have g1_1_1 := zfe w1 LO 1 (by go_simp)
      have c1_2_0 := zci w1 HI 0 (wH (h)) (by go_simp)
      have g1_2_0 := zfe w1 HI 0 (by go_simp)
      have c1_2_1 := zcu w1 HI 1 (wL (h)) (by go_simp)
      have g1_2_1 := zfe w1 HI 1 (by go_simp)
      have c1_3_0 := zci w1 CC 0 (al) (by go_simp)
      have c1_3_1 := zci w1 CC 1 (bl) (by go_simp)
      have c1_3_2 := zci w1 CC 2 (al) (by go_simp)
      have c1_3_3 := zci w1 CC 3 (bh) (by go_simp)
      have c1_3_4 := zci w1 CC 4 (ah) (by go_simp)
      have c1_3_5 := zci w1 CC 5 (bl) (by go_simp)
      have c1_3_6 := zci w1 CC 6 (ah) (by go_simp)
      have c1_3_7 := zci w1 CC 7 (bh) (by go_simp)
      have c1_4_0 := zci w1 p9 0 (wH (p3)) (by go_simp)
      have c1_4_1 := zcu w1 p9 1 (wL (p3)) (by go_simp)
      clear hc1 hf1
      go_wp2_with fail
      refine (D2.out _).mono ?_
      rintro e w2 ⟨rfl, hb2⟩
      obtain ⟨hc2, hf2⟩ := bcell hb2
      have hz2 := hb2.size
      try simp only [World.size_alloc, World.size_setCell] at hz2
      try refine zb RR w2 (by omega) fun _ _ => ?_
      try refine zb LO w2 (by omega) fun _ _ => ?_
      try refine zb HI w2 (by omega) fun _ _ => ?_
      try refine zb CC w2 (by omega) fun _ _ => ?_
      try refine zb p9 w2 (by omega) fun _ _ => ?_
      have c2_0_0 := zci w2 RR 0 (0) (by go_simp)
      have g2_0_0 := zfe w2 RR 0 (by go_simp)
      have c2_0_1 := zci w2 RR 1 (0) (by go_simp)
      have g2_0_1 := zfe w2 RR 1 (by go_simp)
      have c2_1_0 := zci w2 LO 0 (wH (l)) (by go_simp)
      have g2_1_0 := zfe w2 LO 0 (by go_simp)
      have c2_1_1 := zcu w2 LO 1 (wL (l)) (by go_simp)
      have g2_1_1 := zfe w2 LO 1 (by go_simp)
      have c2_2_0 := zci w2 HI 0 (wH (h)) (by go_simp)
      have g2_2_0 := zfe w2 HI 0 (by go_simp)
      have c2_2_1 := zcu w2 HI 1 (wL (h)) (by go_simp)
      have g2_2_1 := zfe w2 HI 1 (by go_simp)
      have c2_3_0 := zci w2 CC 0 (al) (by go_simp)
      have c2_3_1 := zci w2 CC 1 (bl) (by go_simp)
      have c2_3_2 := zci w2 CC 2 (al) (by go_simp)
      have c2_3_3 := zci w2 CC 3 (bh) (by go_simp)
      have c2_3_4 := zci w2 CC 4 (ah) (by go_simp)
      have c2_3_5 := zci w2 CC 5 (bl) (by go_simp)
      have c2_3_6 := zci w2 CC 6 (ah) (by go_simp)
      have c2_3_7 := zci w2 CC 7 (bh) (by go_simp)
      have c2_4_0 := zci w2 p9 0 (wH (p3)) (by go_simp)
      have c2_4_1 := zcu w2 p9 1 (wL (p3)) (by go_simp)
      clear hc2 hf2 c1_0_0 g1_0_0 c1_0_1 g1_0_1 c1_1_0 g1_1_0 c1_1_1 g1_1_1 c1_2_0 g1_2_0 c1_2_1 g1_2_1 c1_3_0 c1_3_1 c1_3_2 c1_3_3 c1_3_4 c1_3_5 c1_3_6 c1_3_7 c1_4_0 c1_4_1
      go_wp2
      go_roundw
      case rel => exact ⟨4, l, h, by first | rfl | go_num, Or.inr (Or.inr (Or.inr (Or.inr (⟨by omega, EL.out.trans (congrArg (fun t => mi t p3) HL.out), EH.out.trans (congrArg (fun t => mx t p3) HH.out)⟩)))), ⟨by first | exact (hB.trans blw_) | skip, by omega, by omega, by omega, by omega, by first | omega | (simp <;> omega), by go_simp, by go_simp, by go_simp, by go_simp, by go_simp, by go_simp, by go_simp, by go_simp, by go_simp, by go_simp, by go_simp, by go_simp⟩, ⟨by go_simp, by go_simp, by go_simp, by go_simp, by go_simp, by go_simp, by go_simp, by go_simp⟩⟩
      case measure => simp [intOf]
  ·-- the end
   obtain ⟨rfl, hl, hh⟩ := hR
   obtain ⟨b1, b2, f1, f2, f3⟩ := FIN.out l h (Or.inr (Or.inr (Or.inr (Or.inr ⟨rfl, hl, hh⟩))))
   have hb20 := hB
   have DL := hide (rdown l ⟨by have := b1.1; omega, by have := b1.2; omega⟩)
   have MH := hide (rminus h b2)
   have DH := hide (rdown (-h) ⟨by have := b2.2; omega, by have := b2.1; omega⟩)
   have MM := hide (rminus (-h / 4294967296) ⟨by have := b2.2; omega, by have := b2.1; omega⟩)
   have RO := rout (l / 4294967296) (-(-h / 4294967296))
   change oLo _ (-(-h / 4294967296)) = _ at f1
   change oHi _ (-(-h / 4294967296)) = _ at f2
   change oE _ (-(-h / 4294967296)) = _ at f3
   rw [f1, f2, f3] at RO
   have RO' := hide RO
   clear RO f1 f2 f3 b1 b2 hl hh
   go_wp2_with fail
   refine QT.tail_b 9 (by kernel_rfl) (by kernel_rfl) ?_
   simp only [List.take_succ_cons, List.take_zero, List.drop_succ_cons, List.drop_zero]
   repeat (first
    | go_big_quiet_skip
    | (go_big_quiet_want; go_big_quiet_op; first
     | go_big_quiet_on
     | (apply Exists.intro
        refine ⟨fun _ => ?_, ?_⟩
        ·first
         | rfl
         | (intro hC; obtain ⟨hcq, hfq⟩ := bcellB hC; go_simp; done)
         | (intro hC; obtain ⟨hcq, hfq⟩ := bcellB hC; go_simp; rfl)
         | (intro hC; have hcq := bcellG hC; go_simp; done)
         | (intro hC; have hcq := bcellG hC; go_simp; rfl)
         | (intro hC; go_at_call 115; (first | (with_reducible refine (DL.out _).mono ?_) | (with_reducible refine (DH.out _).mono ?_)); (intro e w2 hw; exact ⟨hw.1, qtrans (by simp) hC hw.2⟩))
         | (intro hC; go_at_call 111; (first | (with_reducible refine (MH.out _).mono ?_) | (with_reducible refine (MM.out _).mono ?_)); (intro e w2 hw; exact ⟨hw.1, qtrans (by simp) hC hw.2⟩))
         | (intro hC; go_at_call 70; (first | (with_reducible refine (RO'.out _).mono ?_)); (intro e w2 hw; exact ⟨hw.1, qtrans (by simp) hC hw.2⟩))
        go_big_quiet_on)))
   refine wpQuiet_nil ?_
   intro w9 hC9
   obtain ⟨hc9, hf9⟩ := bcellB hC9
   have hz9 := hC9.size
   go_wp2
   refine bodyPost_ret (v := .tuple #[.agg #[.int .i64 (rl), .int .i64 (rh)], .int .i64 re]) (by simp only [results, Try.results73]; go_simp) rfl ⟨rfl, blw_⟩
end
section
open Go.RowKit
theorem share_b (x y : Int) : sL x y 4294967296 = x * y / 4294967296 ∧ sH x y 4294967296 = cdiv (x * y) 4294967296 := by
 have e : sN x y 4294967296 = x * y := by unfold sN; rw [if_neg (by omega)]
 have e2 : ab 4294967296 = 4294967296 := by unfold ab; rw [if_neg (by omega)]
 unfold sL sH
 rw [e, e2]
 exact ⟨rfl, rfl⟩
theorem mul_bd {x y : Int} (hx : I64 x) (hy : I64 y) : R126 (x * y) := by
 obtain ⟨a0, a1⟩ := ab_bd hx
 obtain ⟨b0, b1⟩ := ab_bd hy
 have h := ab_mul x y
 have m0 := Int.mul_nonneg a0 b0
 have m1 : ab x * ab y ≤ 9223372036854775808 * 9223372036854775808 := Int.mul_le_mul a1 b1 b0 (by omega)
 generalize ab x * ab y = M at *
 cases hs : (decide (x < 0) != decide (y < 0)) <;> rw [hs] at h <;> simp at h <;> exact ⟨by omega, by omega⟩
theorem mi_bd {x y : Int} (hx : R126 x) (hy : R126 y) : R126 (mi x y) := by unfold mi; split <;> assumption
theorem mx_bd {x y : Int} (hx : R126 x) (hy : R126 y) : R126 (mx x y) := by unfold mx; split <;> assumption
theorem mi_div (p q : Int) : mi p q / 4294967296 = mi (p / 4294967296) (q / 4294967296) := by unfold mi; split <;> split <;> omega
theorem mx_cdiv (p q : Int) : cdiv (mx p q) 4294967296 = mx (cdiv p 4294967296) (cdiv q 4294967296) := by unfold mx cdiv; split <;> split <;> omega
theorem mi_asc (a b c d : Int) : mi (mi (mi a b) c) d = mi (mi a b) (mi c d) := by unfold mi; (repeat split) <;> omega
theorem mx_asc (a b c d : Int) : mx (mx (mx a b) c) d = mx (mx a b) (mx c d) := by unfold mx; (repeat split) <;> omega
theorem rmul_any (al ah bl bh : Int) (i0 : I64 al) (j0 : I64 ah) (i1 : I64 bl) (j1 : I64 bh) (w : World) :
  Calls Try.prog 73 #[.agg #[.int .i64 (al), .int .i64 (ah)], .agg #[.int .i64 (bl), .int .i64 (bh)]] w fun e w' => e = .returned (.tuple #[.agg #[.int .i64 (okI (vB al ah && vB bl bh) (oLo (mi (mL al bl bh) (mL ah bl bh)) (mx (mH al bl bh) (mH ah bl bh)))), .int .i64 (okI (vB al ah && vB bl bh) (oHi (mi (mL al bl bh) (mL ah bl bh)) (mx (mH al bl bh) (mH ah bl bh))))], .int .i64 (errE (vB al ah && vB bl bh) (oE (mi (mL al bl bh) (mL ah bl bh)) (mx (mH al bl bh) (mH ah bl bh))))]) ∧ Below w.heap.size w w' := by
 cases hv : (vB al ah && vB bl bh)
 ·rw [ok_f, ok_f, err_f]
  have HV := hide (rboth al ah bl bh 2 (by rw [hv]; rfl))
  clear hv i0 i1 j0 j1
  go_enter Try.func73, Try.ntmps73
  go_wp2_with fail
  refine (HV.out _).mono ?_
  rintro e w1 ⟨rfl, hb1⟩
  obtain ⟨hc1, hf1⟩ := bcell hb1
  have hz1 := hb1.size
  try simp only [World.size_alloc, World.size_setCell] at hz1
  try refine zw3 w w1 (by omega) fun _ _ _ _ _ _ => ?_
  have c1_0_0 := zci w1 w.heap.size 0 (al) (by go_simp)
  have c1_0_1 := zci w1 w.heap.size 1 (ah) (by go_simp)
  have c1_1_0 := zci w1 (w.heap.size + 1) 0 (bl) (by go_simp)
  have c1_1_1 := zci w1 (w.heap.size + 1) 1 (bh) (by go_simp)
  have c1_2_0 := zci w1 (w.heap.size + 1 + 1) 0 (0) (by go_simp)
  have g1_2_0 := zfe w1 (w.heap.size + 1 + 1) 0 (by go_simp)
  have c1_2_1 := zci w1 (w.heap.size + 1 + 1) 1 (0) (by go_simp)
  have g1_2_1 := zfe w1 (w.heap.size + 1 + 1) 1 (by go_simp)
  clear hc1 hf1
  go_wp2
  refine bodyPost_ret (v := .tuple #[.agg #[.int .i64 (0), .int .i64 (0)], .int .i64 2]) (by simp only [results, Try.results73]; go_simp) rfl ⟨rfl, blw_⟩
 ·rw [ok_t, ok_t, err_t]
  refine rmul_loop al ah bl bh (al * bl) (al * bh) (ah * bl) (ah * bh) hv (rtimes al bl i0 i1) (rtimes al bh i0 j1) (rtimes ah bl j0 i1) (rtimes ah bh j0 j1) _ _ _ ?_ w
  intro l h hr
  have hb0 := mul_bd i0 i1
  have hb1 := mul_bd i0 j1
  have hb2 := mul_bd j0 i1
  have hb3 := mul_bd j0 j1
  obtain ⟨rfl, rfl⟩ : l = mi (mi (mi (al * bl) (al * bh)) (ah * bl)) (ah * bh) ∧ h = mx (mx (mx (al * bl) (al * bh)) (ah * bl)) (ah * bh) := by
   rcases hr with hr | hr | hr | hr | hr
   ·omega
   ·omega
   ·omega
   ·omega
   ·exact hr.2
  refine ⟨mi_bd (mi_bd (mi_bd hb0 hb1) hb2) hb3, mx_bd (mx_bd (mx_bd hb0 hb1) hb2) hb3, ?_⟩
  rw [mi_asc, mx_asc, mi_div, mi_div, mi_div, mx_cdiv, mx_cdiv, mx_cdiv]
  unfold mL mH
  rw [(share_b al bl).1, (share_b al bh).1, (share_b ah bl).1, (share_b ah bh).1, (share_b al bl).2, (share_b al bh).2, (share_b ah bl).2, (share_b ah bh).2]
  exact ⟨rfl, rfl, rfl⟩
end
section
open Go.RowKit
theorem abs_facts {al ah : Int} (i0 : I64 al) (i1 : I64 ah) (v : vB al ah = true) : 0 ≤ absL al ah ∧ absL al ah ≤ absH al ah ∧ absH al ah ≤ 9223372036854775807 := by
 obtain ⟨v1, v2⟩ := vB_tt v
 have := i1.2
 unfold absL absH mx
 split
 ·omega
 ·split
  ·omega
  ·split <;> omega
end
section
open Go.RowKit
def AnswersB (C : World → Prop) (g : FuncId) (caps : Array Value) (n : Int) (r : Bool) : Prop :=
 ∀ w, C w → Calls Try.prog g (#[.int .u64 n] ++ caps) w fun e w' => e = .returned (.bool r) ∧ Below w.heap.size w w'
structure GreatInv (r n c : Int) : Prop where
 pow : ∃ j h : Nat, j ≤ 48 ∧ c = 2 ^ j ∧ n = h * 2 ^ j
 le : n ≤ r
 lt : r < n + c
theorem GreatInv.half {r n c : Int} (h : GreatInv r n c) (hr : r < 281474976710656) (hc : ¬ c = 1) :
  ∃ d, c = 2 * d ∧ 1 ≤ d ∧ d ≤ 140737488355328 ∧ 0 ≤ n ∧ n + d < 562949953421312 ∧ bits .or .u64 n d = n + d ∧ (n ≤ r → r < n + d → GreatInv r n d) ∧ (n + d ≤ r → GreatInv r (n + d) d) := by
 obtain ⟨j, k, hj, rfl, rfl⟩ := h.pow
 have hle := h.le
 have hlt := h.lt
 cases j with
 | zero => exact absurd rfl hc
 | succ j =>
  have p0 : 0 < (2 : Int) ^ j := Int.pow_pos (by omega)
  have h1 : (2 : Nat) ^ j ≤ 2 ^ 47 := Nat.pow_le_pow_right (by omega) (by omega)
  have h2 : (((2 : Nat) ^ j : Nat) : Int) ≤ ((2 ^ 47 : Nat) : Int) := by exact_mod_cast h1
  rw [Int.natCast_pow] at h2
  have h2' : (2 : Int) ^ j ≤ 140737488355328 := h2
  have e : (2 : Int) ^ (j + 1) = 2 * 2 ^ j := by rw [Int.pow_succ]; omega
  have en : (k : Int) * 2 ^ (j + 1) = ((2 * k : Nat) : Int) * 2 ^ j := by
   rw [e, Int.natCast_mul, ← Int.mul_assoc, Int.mul_comm (k : Int) 2]; rfl
  have k0 : 0 ≤ (k : Int) * 2 ^ (j + 1) := Int.mul_nonneg (by omega) (by omega)
  refine ⟨2 ^ j, e, by omega, h2', k0, by omega, ?_, ?_, ?_⟩
  ·have q : k * 2 ^ (j + 1) < 281474976710656 := by
    have : ((k * 2 ^ (j + 1) : Nat) : Int) < 281474976710656 := by rw [Int.natCast_mul, Int.natCast_pow]; show (k : Int) * 2 ^ (j + 1) < _; omega
    omega
   have o := orP k (2 ^ j) (j + 1) (by rw [Nat.pow_succ]; have := Nat.two_pow_pos j; omega) (by omega)
   rw [Int.natCast_mul, Int.natCast_pow, Int.natCast_pow, Int.natCast_add, Int.natCast_mul, Int.natCast_pow, Int.natCast_pow] at o
   exact o
  ·intro _ hl
   exact ⟨⟨j, 2 * k, by omega, rfl, en⟩, hle, hl⟩
  ·intro hl
   refine ⟨⟨j, 2 * k + 1, by omega, rfl, ?_⟩, hl, by omega⟩
   rw [en, Int.natCast_add, Int.add_mul]
   omega
end
section

end
section

end
section

end
section

end
section

end
section

end
section
open Go.RowKit
theorem div_cross {a b c d : Int} (hc : 0 < c) (hd : 0 < d) (h : a * d ≤ b * c) : a / c ≤ b / d := by
 apply Int.le_ediv_of_mul_le hd
 have h1 : a / c * c ≤ a := Int.ediv_mul_le a (by omega)
 have h2 : a / c * c * d ≤ a * d := Int.mul_le_mul_of_nonneg_right h1 (by omega)
 have h3 : a / c * d * c ≤ b * c := by rw [Int.mul_right_comm]; omega
 exact Int.le_of_mul_le_mul_right h3 hc
theorem cdiv_cross {a b c d : Int} (hc : 0 < c) (hd : 0 < d) (h : a * d ≤ b * c) : cdiv a c ≤ cdiv b d := by
 have := div_cross (a := -b) (b := -a) (c := d) (d := c) hd hc (by rw [Int.neg_mul, Int.neg_mul]; omega)
 unfold cdiv
 omega
theorem tdiv_sub {a b c : Int} (hc : 0 < c) : (a - b * c) / c = a / c - b := by
 have := Int.add_mul_ediv_right a (-b) (c := c) (by omega)
 rw [Int.neg_mul] at this
 rw [Int.sub_eq_add_neg, this]; omega
theorem tcdiv_sub {a b c : Int} (hc : 0 < c) : cdiv (a - b * c) c = cdiv a c - b := by
 have := Int.add_mul_ediv_right (-a) b (c := c) (by omega)
 unfold cdiv
 rw [show -(a - b * c) = -a + b * c by omega, this]; omega
def tuD (t : Int) : Int := 18446744073709551616 + t * t
def tuL (x t : Int) : Int := x * 36893488147419103232 / tuD t
def tuH (x t : Int) : Int := cdiv (x * 36893488147419103232) (tuD t)
def Unit1 (t : Int) : Prop := -4294967296 ≤ t ∧ t ≤ 4294967296
theorem sq_bd {t : Int} (h : Unit1 t) : 0 ≤ t * t ∧ t * t ≤ 18446744073709551616 := by
 obtain ⟨h1, h2⟩ := h
 by_cases c : 0 ≤ t
 ·exact ⟨Int.mul_nonneg c c, (Int.mul_le_mul h2 h2 c (by omega) : t * t ≤ 4294967296 * 4294967296)⟩
 ·have e : t * t = -t * -t := by rw [Int.neg_mul_neg]
  rw [e]
  exact ⟨Int.mul_nonneg (by omega) (by omega), (Int.mul_le_mul (by omega) (by omega) (by omega) (by omega) : -t * -t ≤ 4294967296 * 4294967296)⟩
theorem tuD_bd {t : Int} (h : Unit1 t) : 18446744073709551616 ≤ tuD t ∧ tuD t ≤ 36893488147419103232 := by
 have := sq_bd h
 unfold tuD
 omega
theorem cos_ref {t : Int} (h : Unit1 t) : (18446744073709551616 - t * t) * 4294967296 / tuD t = tuL 4294967296 t - 4294967296 ∧ cdiv ((18446744073709551616 - t * t) * 4294967296) (tuD t) = tuH 4294967296 t - 4294967296 := by
 have hb := tuD_bd h
 have e : (18446744073709551616 - t * t) * 4294967296 = 4294967296 * 36893488147419103232 - 4294967296 * tuD t := by unfold tuD; omega
 unfold tuL tuH
 rw [e]
 exact ⟨tdiv_sub (by omega), tcdiv_sub (by omega)⟩
theorem cos_anti {s t : Int} (h0 : 0 ≤ s) (h : s ≤ t) (ht : t ≤ 4294967296) : tuL 4294967296 t ≤ tuL 4294967296 s ∧ tuH 4294967296 t ≤ tuH 4294967296 s := by
 have hs := tuD_bd (t := s) ⟨by omega, by omega⟩
 have htt := tuD_bd (t := t) ⟨by omega, by omega⟩
 have hm : tuD s ≤ tuD t := by
  have : s * s ≤ t * t := Int.mul_le_mul h h h0 (by omega)
  unfold tuD; omega
 have hc : (4294967296 * 36893488147419103232 : Int) * tuD s ≤ 4294967296 * 36893488147419103232 * tuD t := Int.mul_le_mul_of_nonneg_left hm (by omega)
 exact ⟨div_cross (by omega) (by omega) hc, cdiv_cross (by omega) (by omega) hc⟩
theorem sin_mono {s t : Int} (hs : Unit1 s) (ht : Unit1 t) (h : s ≤ t) : tuL s s ≤ tuL t t ∧ tuH s s ≤ tuH t t := by
 have h1 := tuD_bd hs
 have h2 := tuD_bd ht
 have q : s * t ≤ 18446744073709551616 := by
  have e1 : 0 ≤ (s - t) * (s - t) := by
   by_cases c : s - t ≤ 0
   ·exact Int.mul_nonneg_of_nonpos_of_nonpos c c
   ·exact Int.mul_nonneg (by omega) (by omega)
  have e2 : (s - t) * (s - t) = s * s - 2 * (s * t) + t * t := by rw [Int.sub_mul, Int.mul_sub, Int.mul_sub, Int.mul_comm t s]; omega
  have := sq_bd hs
  have := sq_bd ht
  omega
 have hc : s * 36893488147419103232 * tuD t ≤ t * 36893488147419103232 * tuD s := by
  have p : 0 ≤ (t - s) * (18446744073709551616 - s * t) := Int.mul_nonneg (by omega) (by omega)
  have e3 : (t - s) * (18446744073709551616 - s * t) = t * 18446744073709551616 - s * 18446744073709551616 - t * (s * t) + s * (s * t) := by rw [Int.sub_mul, Int.mul_sub, Int.mul_sub]; omega
  have e4 : s * tuD t = s * 18446744073709551616 + s * (t * t) := by unfold tuD; rw [Int.mul_add]
  have e5 : t * tuD s = t * 18446744073709551616 + t * (s * s) := by unfold tuD; rw [Int.mul_add]
  have e6 : t * (s * t) = s * (t * t) := by rw [← Int.mul_assoc, Int.mul_comm t s, Int.mul_assoc]
  have e7 : s * (s * t) = t * (s * s) := by rw [← Int.mul_assoc, Int.mul_comm t (s * s)]
  have e8 : s * tuD t ≤ t * tuD s := by rw [e4, e5]; rw [e3, e6, e7] at p; omega
  rw [Int.mul_right_comm s, Int.mul_right_comm t]
  exact Int.mul_le_mul_of_nonneg_right e8 (by omega)
 exact ⟨div_cross (by omega) (by omega) hc, cdiv_cross (by omega) (by omega) hc⟩
theorem tu_bd {x t : Int} (hx : Unit1 x) (ht : Unit1 t) : -8589934592 ≤ tuL x t ∧ tuL x t ≤ tuH x t ∧ tuH x t ≤ 8589934592 := by
 have hb := tuD_bd ht
 obtain ⟨x0, x1⟩ := hx
 have u : x * 36893488147419103232 ≤ 8589934592 * tuD t := by
  have : (8589934592 : Int) * 18446744073709551616 ≤ 8589934592 * tuD t := Int.mul_le_mul_of_nonneg_left hb.1 (by omega)
  omega
 have l : -8589934592 * tuD t ≤ x * 36893488147419103232 := by
  have : (8589934592 : Int) * 18446744073709551616 ≤ 8589934592 * tuD t := Int.mul_le_mul_of_nonneg_left hb.1 (by omega)
  omega
 refine ⟨Int.le_ediv_of_mul_le (by omega) l, ?_, ?_⟩
 ·unfold tuL tuH
  by_cases z : x * 36893488147419103232 % tuD t = 0
  ·rw [cdiv_zero z]; omega
  ·rw [cdiv_pos (by omega) z]; omega
 ·have := Int.le_ediv_of_mul_le (a := -8589934592) (b := -(x * 36893488147419103232)) (c := tuD t) (by omega) (by omega)
  unfold tuH cdiv
  omega
end
section
open Go.RowKit
set_option maxHeartbeats 1000000 in
theorem great34 (C : World → Prop) (hC : Kept C) (g : FuncId) (p q : Value) (hent : ∀ args w, (callFunc g args).run Try.prog w = .ok (.enter g args) w)
  (r : Int) (hr : 0 ≤ r ∧ r < 17179869184) (A1 : ∀ n, 0 ≤ n → n < 562949953421312 → AnswersB C g #[p, q] n (decide (n ≤ r))) (w : World) (hw : C w) :
  Calls Try.prog 143 #[.int .i64 34, .func (Fn.func g) #[] #[p, q]] w fun e w' => e = .returned (.int .u64 r) ∧ Below w.heap.size w w' := by
 have A1' : Hid (∀ n b, 0 ≤ n → n < 562949953421312 → decide (n ≤ r) = b → ∀ w, C w → Calls Try.prog g #[.int .u64 n, p, q] w fun e w' => e = .returned (.bool b) ∧ Below w.heap.size w w') := hide (fun n b h1 h2 h3 => h3 ▸ A1 n h1 h2)
 have HR := hide hr
 clear A1 hr
 go_enter Try.func143, Try.ntmps143
 go_wp2
 go_loopw [5, 6] (fun s5 s6 wr => ∃ n c : Int, s5 = .int .u64 n ∧ s6 = .int .u64 (c / 2) ∧ GreatInv r n c ∧ Below w.heap.size w wr) (fun _ s6 _ => (intOf s6).toNat)
 case atStart =>
  have := HR.out
  exact ⟨0, 17179869184, rfl, by first | rfl | go_num, ⟨⟨34, 0, by omega, rfl, by simp⟩, by omega, by omega⟩, blw_⟩
 case round =>
  obtain ⟨n, c, rfl, rfl, hI, hB⟩ := hrel
  by_cases hc : c = 1
  ·subst hc
   have HL : Hid (n = r) := hide (by have := hI.le; have := hI.lt; omega)
   clear hI
   go_wp2
   go_ret
   exact ⟨by rw [HL.out]; rfl, hB⟩
  ·obtain ⟨d, rfl, d1, d2, n0, nd, hor, hlo, hhi⟩ := hI.half (by have := HR.out.2; omega) hc
   have e0 : (2 * d) / 2 = d := by omega
   rw [e0]
   have nr := hI.le
   have HLO := hide hlo
   have HHI := hide hhi
   clear hI hlo hhi hc e0
   have hd0 : 0 < d := by omega
   by_cases cc : n + d ≤ r
   ·have AN := hide (A1'.out (n + d) true (by omega) nd (decide_eq_true cc))
    have HN := hide (HHI.out cc)
    clear cc
    go_wp2_with fail
    refine (AN.out _ (hC.below hw hB)).mono ?_
    rintro e w1 ⟨rfl, hb1⟩
    go_wp2
    go_roundw
    case rel => exact ⟨n + d, d, by first | rfl | go_num, by first | rfl | go_num, HN.out, hB.trans (hb1.mono hB.size)⟩
    case measure => simp [intOf]; omega
   ·have AN := hide (A1'.out (n + d) false (by omega) nd (decide_eq_false cc))
    have HN := hide (HLO.out nr (by omega))
    clear cc
    go_wp2_with fail
    refine (AN.out _ (hC.below hw hB)).mono ?_
    rintro e w1 ⟨rfl, hb1⟩
    go_wp2
    go_roundw
    case rel => exact ⟨n, d, by first | rfl | go_num, by first | rfl | go_num, HN.out, hB.trans (hb1.mono hB.size)⟩
    case measure => simp [intOf]; omega
def tmH (n q : Int) : Int := n * (q % 18446744073709551616) / 18446744073709551616 + n * (q / 18446744073709551616 + 1)
def tmL (n q : Int) : Int := n * (q % 18446744073709551616) % 18446744073709551616
theorem tm_eq (n q : Int) : n * (18446744073709551616 + q) = tmH n q * 18446744073709551616 + tmL n q := by
 have e : q = q / 18446744073709551616 * 18446744073709551616 + q % 18446744073709551616 := by omega
 unfold tmH tmL
 generalize q % 18446744073709551616 = L at *
 generalize q / 18446744073709551616 = H at *
 rw [e, Int.mul_add, Int.mul_add, Int.mul_add n H 1, ← Int.mul_assoc n H]
 generalize n * L = m
 generalize n * H = k
 omega
structure HasT (lo hi tm dd : Nat) (q dbl : Int) (w : World) : Prop where
 cl : w.cell? ⟨lo, 0, none⟩ = some (.int .u64 (q % 18446744073709551616))
 ch : w.cell? ⟨hi, 0, none⟩ = some (.int .u64 (q / 18446744073709551616))
 ct : w.cell? ⟨tm, 0, none⟩ = some (.func (Fn.func 142) #[] #[.pointer (some ⟨lo, 0, none⟩), .pointer (some ⟨hi, 0, none⟩)])
 cd : w.cell? ⟨dd, 0, none⟩ = some (.int .u64 dbl)
 l1 : lo < w.heap.size
 l2 : hi < w.heap.size
 l3 : tm < w.heap.size
 l4 : dd < w.heap.size
theorem HasT.kept (lo hi tm dd : Nat) (q dbl : Int) : Kept (HasT lo hi tm dd q dbl) := ⟨fun h hb => by
 have hc := (bcell hb).1
 have hs := hb.size
 exact ⟨(hc lo 0 h.l1).trans h.cl, (hc hi 0 h.l2).trans h.ch, (hc tm 0 h.l3).trans h.ct, (hc dd 0 h.l4).trans h.cd, Nat.lt_of_lt_of_le h.l1 hs, Nat.lt_of_lt_of_le h.l2 hs, Nat.lt_of_lt_of_le h.l3 hs, Nat.lt_of_lt_of_le h.l4 hs⟩⟩
theorem times_at (lo hi : Nat) (q n : Int) (w : World) (hq : 0 ≤ q ∧ q ≤ 18446744073709551616) (n0 : 0 ≤ n) (n1 : n < 562949953421312)
  (cl : w.cell? ⟨lo, 0, none⟩ = some (.int .u64 (q % 18446744073709551616))) (ch : w.cell? ⟨hi, 0, none⟩ = some (.int .u64 (q / 18446744073709551616))) :
  Calls Try.prog 142 #[.int .u64 n, .pointer (some ⟨lo, 0, none⟩), .pointer (some ⟨hi, 0, none⟩)] w fun e w' => e = .returned (.tuple #[.int .u64 (tmH n q), .int .u64 (tmL n q)]) ∧ w = w' := by
 have MU := hide (mul64 n (q % 18446744073709551616) ⟨n0, by omega⟩ ⟨by omega, by omega⟩)
 have hh : q / 18446744073709551616 = 0 ∨ q / 18446744073709551616 = 1 := by omega
 have hm : 0 ≤ n * (q % 18446744073709551616) ∧ n * (q % 18446744073709551616) ≤ 562949953421312 * 18446744073709551616 := ⟨Int.mul_nonneg n0 (by omega), Int.mul_le_mul (by omega) (by omega) (by omega) (by omega)⟩
 unfold tmH tmL
 generalize n * (q % 18446744073709551616) = m at *
 generalize q % 18446744073709551616 = L at *
 rcases hh with hh | hh
 all_goals
  rw [hh] at ch ⊢
  clear hh hq
  go_enter Try.func142, Try.ntmps142
  go_wp2_with fail
  refine (MU.out _).mono ?_
  rintro e w ⟨rfl, rfl⟩
  go_wp2
  go_ret2
  exact ⟨by simp <;> omega, rfl⟩
end
end Go.Proofs.Ytacpahebbnnckaa
