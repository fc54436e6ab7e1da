/- Packed: DivA Sets QF. -/
import Derived.Test.YtacpahebbnnckaaP5
set_option linter.unusedVariables false
set_option linter.unusedSimpArgs false
namespace Go.Proofs.Ytacpahebbnnckaa
section
open Go.RowKit
set_option maxHeartbeats 4000000 in
theorem rdivide_b12 (n : Nat) (d : Int) (hn : n < 2 ^ 127) (hd0 : 0 < d) (hd : d < 85070591730234615865843651857942052864) (hh : (wH (n : Int) == 0) = false ∨ ((wH (n : Int) == 0) = true ∧ (wH d == 0) = false)) (w : World) :
  Calls Try.prog 134 #[.agg #[.int .i64 (wH ((n : Int))), .int .u64 (wL ((n : Int)))], .agg #[.int .i64 (wH (d)), .int .u64 (wL (d))]] w fun e w' => e = .returned (.tuple #[.agg #[.int .i64 (wH ((n : Int) / d)), .int .u64 (wL ((n : Int) / d))], .agg #[.int .i64 (wH ((n : Int) % d)), .int .u64 (wL ((n : Int) % d))]]) ∧ Below w.heap.size w w' := by
 rcases hh with hg | ⟨hg, hg2⟩
 all_goals
  have HN := hide hn
  have HDR : Hid (R126 d) := hide ⟨by omega, by omega⟩
  clear hn
  go_enter Try.func134, Try.ntmps134
  go_wp2
  go_loopw [6] (fun i wr => ∃ t : Nat, i = .int .i64 t ∧ t ≤ 127 ∧ n < 2 ^ (t + 1) ∧ DivInv w wr n d) (fun i _ => (intOf i).toNat)
  case atStart => exact ⟨127, rfl, by omega, by have := HN.out; omega, ⟨blw_, by simp, by go_simp, by go_simp, by go_simp, by go_simp, by go_simp, by go_simp, by go_simp, by go_simp, by go_simp, by go_simp, by go_simp, by go_simp⟩⟩
  case round =>
   obtain ⟨t, rfl, ht, hnt, hI⟩ := hrel
   obtain ⟨hB, hsz, cn0, cn1, cd0, cd1, cq0, cq1, cr0, cr1, fq0, fq1, fr0, fr1⟩ := hI
   have HT := hide hnt
   have HI : Hid (DivInv w wr n d) := hide ⟨hB, hsz, cn0, cn1, cd0, cd1, cq0, cq1, cr0, cr1, fq0, fq1, fr0, fr1⟩
   clear hnt
   have p0 : w.heap.size < wr.heap.size := by omega
   have p1 : w.heap.size + 1 < wr.heap.size := by omega
   have p2 : w.heap.size + 1 + 1 < wr.heap.size := by omega
   by_cases h0 : 0 < t
   ·cases hbt : bitB n t
    ·have HBT := hide hbt
     clear hbt
     go_wp2_with fail
     refine (rbit n t (by have := HN.out; omega) (by omega) false HBT.out _).mono ?_
     rintro e w1 ⟨rfl, hb1⟩
     obtain ⟨hc1, hf1⟩ := bcell hb1
     have hz1 := hb1.size
     go_wp2
     go_roundw
     case rel => exact ⟨t - 1, by go_num, by omega, by have := tb_step n t HT.out HBT.out; rw [show t - 1 + 1 = t by omega]; exact this, HI.out.next (hb1.mono (by omega))⟩
     case measure => simp [intOf]; omega
    ·have HBT := hide hbt
     clear hbt
     go_wp2_with fail
     refine (rbit n t (by have := HN.out; omega) (by omega) true HBT.out _).mono ?_
     rintro e w1 ⟨rfl, hb1⟩
     have HI1 := hide (HI.out.next (hb1.mono (by omega)))
     clear cn0 cn1 cd0 cd1 cq0 cq1 cr0 cr1 fq0 fq1 fr0 fr1 hB hsz p0 p1 p2 HI hb1 HBT
     go_wp2
     go_loopw [9] (fun i wx => ∃ m q r : Int, i = .int .i64 m ∧ -1 ≤ m ∧ m < 128 ∧ DivEq n d m q r ∧ 0 ≤ r ∧ r < d ∧ 0 ≤ q ∧ Div2 w wx n d w1.heap.size (w1.heap.size + 1) q r) (fun i _ => (intOf i + 1).toNat)
     case atStart =>
      have hszx := HI1.out.size
      exact ⟨t, 0, 0, rfl, by omega, by omega, div_top HT.out, by omega, by omega, by omega, ⟨HI1.out.next blw_, by omega, by omega, by simp, by go_simp; rfl, by go_simp; rfl, by go_simp; rfl, by go_simp; rfl, by go_simp, by go_simp, by go_simp, by go_simp⟩⟩
     case round =>
      obtain ⟨m, q, r, rfl, hm1, hm2, heq, hr0, hr1, hq0, hD⟩ := hrel
      have HEQ := hide heq
      have HI := hide hD
      obtain ⟨bq, hbq⟩ : ∃ b, w1.heap.size = b := ⟨_, rfl⟩
      obtain ⟨br, hbr⟩ : ∃ b, w1.heap.size + 1 = b := ⟨_, rfl⟩
      rw [hbr, hbq] at hD HI
      rw [hbr, hbq]
      clear hbr hbq HI1 HT heq
      obtain ⟨⟨hB, hsz, cn0, cn1, cd0, cd1, cq0, cq1, cr0, cr1, fq0, fq1, fr0, fr1⟩, hlo, hlt, hsx, eq0, eq1, er0, er1, gq0, gq1, gr0, gr1⟩ := hD
      have : ¬ w.heap.size = bq := by omega
      have : ¬ w.heap.size = br := by omega
      have : ¬ w.heap.size + 1 = bq := by omega
      have : ¬ w.heap.size + 1 = br := by omega
      have : ¬ w.heap.size + 1 + 1 = bq := by omega
      have : ¬ w.heap.size + 1 + 1 = br := by omega
      have : ¬ w.heap.size + 1 + 1 + 1 = bq := by omega
      have : ¬ w.heap.size + 1 + 1 + 1 = br := by omega
      have : ¬ bq = w.heap.size := by omega
      have : ¬ bq = w.heap.size + 1 := by omega
      have : ¬ bq = w.heap.size + 1 + 1 := by omega
      have : ¬ bq = w.heap.size + 1 + 1 + 1 := by omega
      have : ¬ bq = br := by omega
      have : ¬ br = w.heap.size := by omega
      have : ¬ br = w.heap.size + 1 := by omega
      have : ¬ br = w.heap.size + 1 + 1 := by omega
      have : ¬ br = w.heap.size + 1 + 1 + 1 := by omega
      have : ¬ br = bq := by omega
      have : w.heap.size < wr.heap.size := by omega
      have : w.heap.size + 1 < wr.heap.size := by omega
      have : w.heap.size + 1 + 1 < wr.heap.size := by omega
      have : w.heap.size + 1 + 1 + 1 < wr.heap.size := by omega
      have : bq < wr.heap.size := by omega
      have : br < wr.heap.size := by omega
      by_cases hm0 : 0 ≤ m
      ·skip
       cases hbt : bitB n m.toNat
       ·have HBT := hide hbt
        clear hbt
        by_cases hge : r + r < d
        ·have HGE := hide hge
         clear hge
         have HQ := hide (div_bd (div_same (0) hm0 HEQ.out (ite_f HBT.out)) HN.out hd0 (by omega) (by omega))
         go_wp2_with fail
         refine (rtwice r (by constructor <;> omega) (by constructor <;> omega) _).mono ?_
         rintro e w1 ⟨rfl, hb1⟩
         obtain ⟨hc1, hf1⟩ := bcell hb1
         have hz1 := hb1.size
         try simp only [World.size_alloc, World.size_setCell] at hz1
         try refine zw4 w w1 (by omega) fun _ _ _ _ _ _ _ _ => ?_
         try refine zb bq w1 (by omega) fun _ _ => ?_
         try refine zb br w1 (by omega) fun _ _ => ?_
         have c1_0_0 := zci w1 w.heap.size 0 (wH (n)) (by go_simp)
         have c1_0_1 := zcu w1 w.heap.size 1 (wL (n)) (by go_simp)
         have c1_1_0 := zci w1 (w.heap.size + 1) 0 (wH (d)) (by go_simp)
         have c1_1_1 := zcu w1 (w.heap.size + 1) 1 (wL (d)) (by go_simp)
         have c1_2_0 := zci w1 bq 0 (wH (q)) (by go_simp)
         have g1_2_0 := zfe w1 bq 0 (by go_simp)
         have c1_2_1 := zcu w1 bq 1 (wL (q)) (by go_simp)
         have g1_2_1 := zfe w1 bq 1 (by go_simp)
         have c1_3_0 := zci w1 br 0 (wH (r)) (by go_simp)
         have g1_3_0 := zfe w1 br 0 (by go_simp)
         have c1_3_1 := zcu w1 br 1 (wL (r)) (by go_simp)
         have g1_3_1 := zfe w1 br 1 (by go_simp)
         clear hc1 hf1
         go_wp2_with fail
         refine (rbit_i n m HN.out (by omega) false HBT.out _).mono ?_
         rintro e w2 ⟨rfl, hb2⟩
         obtain ⟨hc2, hf2⟩ := bcell hb2
         have hz2 := hb2.size
         try simp only [World.size_alloc, World.size_setCell] at hz2
         try refine zw4 w w2 (by omega) fun _ _ _ _ _ _ _ _ => ?_
         try refine zb bq w2 (by omega) fun _ _ => ?_
         try refine zb br w2 (by omega) fun _ _ => ?_
         have c2_0_0 := zci w2 w.heap.size 0 (wH (n)) (by go_simp)
         have c2_0_1 := zcu w2 w.heap.size 1 (wL (n)) (by go_simp)
         have c2_1_0 := zci w2 (w.heap.size + 1) 0 (wH (d)) (by go_simp)
         have c2_1_1 := zcu w2 (w.heap.size + 1) 1 (wL (d)) (by go_simp)
         have c2_2_0 := zci w2 bq 0 (wH (q)) (by go_simp)
         have g2_2_0 := zfe w2 bq 0 (by go_simp)
         have c2_2_1 := zcu w2 bq 1 (wL (q)) (by go_simp)
         have g2_2_1 := zfe w2 bq 1 (by go_simp)
         have c2_3_0 := zci w2 br 0 (wH (r + r)) (by go_simp)
         have g2_3_0 := zfe w2 br 0 (by go_simp)
         have c2_3_1 := zcu w2 br 1 (wL (r + r)) (by go_simp)
         have g2_3_1 := zfe w2 br 1 (by go_simp)
         clear hc2 hf2 c1_0_0 c1_0_1 c1_1_0 c1_1_1 c1_2_0 g1_2_0 c1_2_1 g1_2_1 c1_3_0 g1_3_0 c1_3_1 g1_3_1
         go_wp2_with fail
         refine (rtwice q (by have := HQ.out; constructor <;> omega) (by have := HQ.out; constructor <;> omega) _).mono ?_
         rintro e w3 ⟨rfl, hb3⟩
         obtain ⟨hc3, hf3⟩ := bcell hb3
         have hz3 := hb3.size
         try simp only [World.size_alloc, World.size_setCell] at hz3
         try refine zw4 w w3 (by omega) fun _ _ _ _ _ _ _ _ => ?_
         try refine zb bq w3 (by omega) fun _ _ => ?_
         try refine zb br w3 (by omega) fun _ _ => ?_
         have c3_0_0 := zci w3 w.heap.size 0 (wH (n)) (by go_simp)
         have c3_0_1 := zcu w3 w.heap.size 1 (wL (n)) (by go_simp)
         have c3_1_0 := zci w3 (w.heap.size + 1) 0 (wH (d)) (by go_simp)
         have c3_1_1 := zcu w3 (w.heap.size + 1) 1 (wL (d)) (by go_simp)
         have c3_2_0 := zci w3 bq 0 (wH (q)) (by go_simp)
         have g3_2_0 := zfe w3 bq 0 (by go_simp)
         have c3_2_1 := zcu w3 bq 1 (wL (q)) (by go_simp)
         have g3_2_1 := zfe w3 bq 1 (by go_simp)
         have c3_3_0 := zci w3 br 0 (wH (r + r)) (by go_simp)
         have g3_3_0 := zfe w3 br 0 (by go_simp)
         have c3_3_1 := zcu w3 br 1 (wL (r + r)) (by go_simp)
         have g3_3_1 := zfe w3 br 1 (by go_simp)
         clear hc3 hf3 c2_0_0 c2_0_1 c2_1_0 c2_1_1 c2_2_0 g2_2_0 c2_2_1 g2_2_1 c2_3_0 g2_3_0 c2_3_1 g2_3_1
         go_wp2_with fail
         refine (rless_r (r + r) d true (by rw [decide_eq_true_eq]; exact HGE.out) _).mono ?_
         rintro e w4 ⟨rfl, hb4⟩
         obtain ⟨hc4, hf4⟩ := bcell hb4
         have hz4 := hb4.size
         try simp only [World.size_alloc, World.size_setCell] at hz4
         try refine zw4 w w4 (by omega) fun _ _ _ _ _ _ _ _ => ?_
         try refine zb bq w4 (by omega) fun _ _ => ?_
         try refine zb br w4 (by omega) fun _ _ => ?_
         have c4_0_0 := zci w4 w.heap.size 0 (wH (n)) (by go_simp)
         have c4_0_1 := zcu w4 w.heap.size 1 (wL (n)) (by go_simp)
         have c4_1_0 := zci w4 (w.heap.size + 1) 0 (wH (d)) (by go_simp)
         have c4_1_1 := zcu w4 (w.heap.size + 1) 1 (wL (d)) (by go_simp)
         have c4_2_0 := zci w4 bq 0 (wH (q + q)) (by go_simp)
         have g4_2_0 := zfe w4 bq 0 (by go_simp)
         have c4_2_1 := zcu w4 bq 1 (wL (q + q)) (by go_simp)
         have g4_2_1 := zfe w4 bq 1 (by go_simp)
         have c4_3_0 := zci w4 br 0 (wH (r + r)) (by go_simp)
         have g4_3_0 := zfe w4 br 0 (by go_simp)
         have c4_3_1 := zcu w4 br 1 (wL (r + r)) (by go_simp)
         have g4_3_1 := zfe w4 br 1 (by go_simp)
         clear hc4 hf4 c3_0_0 c3_0_1 c3_1_0 c3_1_1 c3_2_0 g3_2_0 c3_2_1 g3_2_1 c3_3_0 g3_3_0 c3_3_1 g3_3_1
         go_wp2
         go_roundw
         case rel =>
          exact ⟨m - 1, q + q, r + r, rfl, by omega, by omega, by have := div_same (0) hm0 HEQ.out (ite_f HBT.out); rwa [Int.add_zero] at this, by have := HGE.out; omega, by have := HGE.out; omega, by omega, ⟨HI.out.inv.next (by repeat (first | exact Below.refl _ _ | refine Below.setCell ?_ (by first | omega | (simp <;> omega)) _ | refine Below.alloc ?_ (by first | omega | (simp <;> omega)) _ | refine Below.drew ?_ | refine Below.trans ?_ (Below.mono (by assumption) (by first | omega | (simp [World.setCell] <;> omega))))), HI.out.lo, HI.out.lt, by have := HI.out.sz; (try simp only [World.size_setCell]); omega, by go_simp, by go_simp, by go_simp, by go_simp, by go_simp, by go_simp, by go_simp, by go_simp⟩⟩
         case measure => simp [intOf]; omega
        ·have HGE := hide hge
         clear hge
         have HQ := hide (div_bd (div_sub (0) hm0 HEQ.out (ite_f HBT.out)) HN.out hd0 (by omega) (by have := HGE.out; omega))
         have HR1 : Hid (R127 (r + r)) := hide (by constructor <;> omega)
         have HMD : Hid (R127 (-d)) := hide (by constructor <;> omega)
         have HSUB : Hid (R127 (r + r + -d)) := hide (by constructor <;> omega)
         go_wp2_with fail
         refine (rtwice r (by constructor <;> omega) (by constructor <;> omega) _).mono ?_
         rintro e w1 ⟨rfl, hb1⟩
         obtain ⟨hc1, hf1⟩ := bcell hb1
         have hz1 := hb1.size
         try simp only [World.size_alloc, World.size_setCell] at hz1
         try refine zw4 w w1 (by omega) fun _ _ _ _ _ _ _ _ => ?_
         try refine zb bq w1 (by omega) fun _ _ => ?_
         try refine zb br w1 (by omega) fun _ _ => ?_
         have c1_0_0 := zci w1 w.heap.size 0 (wH (n)) (by go_simp)
         have c1_0_1 := zcu w1 w.heap.size 1 (wL (n)) (by go_simp)
         have c1_1_0 := zci w1 (w.heap.size + 1) 0 (wH (d)) (by go_simp)
         have c1_1_1 := zcu w1 (w.heap.size + 1) 1 (wL (d)) (by go_simp)
         have c1_2_0 := zci w1 bq 0 (wH (q)) (by go_simp)
         have g1_2_0 := zfe w1 bq 0 (by go_simp)
         have c1_2_1 := zcu w1 bq 1 (wL (q)) (by go_simp)
         have g1_2_1 := zfe w1 bq 1 (by go_simp)
         have c1_3_0 := zci w1 br 0 (wH (r)) (by go_simp)
         have g1_3_0 := zfe w1 br 0 (by go_simp)
         have c1_3_1 := zcu w1 br 1 (wL (r)) (by go_simp)
         have g1_3_1 := zfe w1 br 1 (by go_simp)
         clear hc1 hf1
         go_wp2_with fail
         refine (rbit_i n m HN.out (by omega) false HBT.out _).mono ?_
         rintro e w2 ⟨rfl, hb2⟩
         obtain ⟨hc2, hf2⟩ := bcell hb2
         have hz2 := hb2.size
         try simp only [World.size_alloc, World.size_setCell] at hz2
         try refine zw4 w w2 (by omega) fun _ _ _ _ _ _ _ _ => ?_
         try refine zb bq w2 (by omega) fun _ _ => ?_
         try refine zb br w2 (by omega) fun _ _ => ?_
         have c2_0_0 := zci w2 w.heap.size 0 (wH (n)) (by go_simp)
         have c2_0_1 := zcu w2 w.heap.size 1 (wL (n)) (by go_simp)
         have c2_1_0 := zci w2 (w.heap.size + 1) 0 (wH (d)) (by go_simp)
         have c2_1_1 := zcu w2 (w.heap.size + 1) 1 (wL (d)) (by go_simp)
         have c2_2_0 := zci w2 bq 0 (wH (q)) (by go_simp)
         have g2_2_0 := zfe w2 bq 0 (by go_simp)
         have c2_2_1 := zcu w2 bq 1 (wL (q)) (by go_simp)
         have g2_2_1 := zfe w2 bq 1 (by go_simp)
         have c2_3_0 := zci w2 br 0 (wH (r + r)) (by go_simp)
         have g2_3_0 := zfe w2 br 0 (by go_simp)
         have c2_3_1 := zcu w2 br 1 (wL (r + r)) (by go_simp)
         have g2_3_1 := zfe w2 br 1 (by go_simp)
         clear hc2 hf2 c1_0_0 c1_0_1 c1_1_0 c1_1_1 c1_2_0 g1_2_0 c1_2_1 g1_2_1 c1_3_0 g1_3_0 c1_3_1 g1_3_1
         go_wp2_with fail
         refine (rtwice q (by have := HQ.out; constructor <;> omega) (by have := HQ.out; constructor <;> omega) _).mono ?_
         rintro e w3 ⟨rfl, hb3⟩
         obtain ⟨hc3, hf3⟩ := bcell hb3
         have hz3 := hb3.size
         try simp only [World.size_alloc, World.size_setCell] at hz3
         try refine zw4 w w3 (by omega) fun _ _ _ _ _ _ _ _ => ?_
         try refine zb bq w3 (by omega) fun _ _ => ?_
         try refine zb br w3 (by omega) fun _ _ => ?_
         have c3_0_0 := zci w3 w.heap.size 0 (wH (n)) (by go_simp)
         have c3_0_1 := zcu w3 w.heap.size 1 (wL (n)) (by go_simp)
         have c3_1_0 := zci w3 (w.heap.size + 1) 0 (wH (d)) (by go_simp)
         have c3_1_1 := zcu w3 (w.heap.size + 1) 1 (wL (d)) (by go_simp)
         have c3_2_0 := zci w3 bq 0 (wH (q)) (by go_simp)
         have g3_2_0 := zfe w3 bq 0 (by go_simp)
         have c3_2_1 := zcu w3 bq 1 (wL (q)) (by go_simp)
         have g3_2_1 := zfe w3 bq 1 (by go_simp)
         have c3_3_0 := zci w3 br 0 (wH (r + r)) (by go_simp)
         have g3_3_0 := zfe w3 br 0 (by go_simp)
         have c3_3_1 := zcu w3 br 1 (wL (r + r)) (by go_simp)
         have g3_3_1 := zfe w3 br 1 (by go_simp)
         clear hc3 hf3 c2_0_0 c2_0_1 c2_1_0 c2_1_1 c2_2_0 g2_2_0 c2_2_1 g2_2_1 c2_3_0 g2_3_0 c2_3_1 g2_3_1
         go_wp2_with fail
         refine (rless_r (r + r) d false (by rw [decide_eq_false_iff_not]; have := HGE.out; omega) _).mono ?_
         rintro e w4 ⟨rfl, hb4⟩
         obtain ⟨hc4, hf4⟩ := bcell hb4
         have hz4 := hb4.size
         try simp only [World.size_alloc, World.size_setCell] at hz4
         try refine zw4 w w4 (by omega) fun _ _ _ _ _ _ _ _ => ?_
         try refine zb bq w4 (by omega) fun _ _ => ?_
         try refine zb br w4 (by omega) fun _ _ => ?_
         have c4_0_0 := zci w4 w.heap.size 0 (wH (n)) (by go_simp)
         have c4_0_1 := zcu w4 w.heap.size 1 (wL (n)) (by go_simp)
         have c4_1_0 := zci w4 (w.heap.size + 1) 0 (wH (d)) (by go_simp)
         have c4_1_1 := zcu w4 (w.heap.size + 1) 1 (wL (d)) (by go_simp)
         have c4_2_0 := zci w4 bq 0 (wH (q + q)) (by go_simp)
         have g4_2_0 := zfe w4 bq 0 (by go_simp)
         have c4_2_1 := zcu w4 bq 1 (wL (q + q)) (by go_simp)
         have g4_2_1 := zfe w4 bq 1 (by go_simp)
         have c4_3_0 := zci w4 br 0 (wH (r + r)) (by go_simp)
         have g4_3_0 := zfe w4 br 0 (by go_simp)
         have c4_3_1 := zcu w4 br 1 (wL (r + r)) (by go_simp)
         have g4_3_1 := zfe w4 br 1 (by go_simp)
         clear hc4 hf4 c3_0_0 c3_0_1 c3_1_0 c3_1_1 c3_2_0 g3_2_0 c3_2_1 g3_2_1 c3_3_0 g3_3_0 c3_3_1 g3_3_1
         go_wp2_with fail
         refine QT.tail_b 4 (by kernel_rfl) (by kernel_rfl) ?_
         simp only [List.take_succ_cons, List.take_zero, List.drop_succ_cons, List.drop_zero]
         repeat (first
          | go_big_quiet_skip
          | (go_big_quiet_want; go_big_quiet_op; first
           | go_big_quiet_on
           | (apply Exists.intro
              refine ⟨fun _ => ?_, ?_⟩
              ·first
               | rfl
               | (intro hC; obtain ⟨hcq, hfq⟩ := bcellB hC; go_simp; done)
               | (intro hC; obtain ⟨hcq, hfq⟩ := bcellB hC; go_simp; rfl)
               | (intro hC; have hcq := bcellG hC; go_simp; done)
               | (intro hC; have hcq := bcellG hC; go_simp; rfl)
               | (intro hC; go_at_call 111; (first | (with_reducible refine (rminus d HDR.out _).mono ?_)); (intro e w2 hw; exact ⟨hw.1, qtrans (by simp) hC hw.2⟩))
               | (intro hC; go_at_call 78; (first | (with_reducible refine (rplus (r + r) (-d) HR1.out HMD.out HSUB.out _).mono ?_)); (intro e w2 hw; exact ⟨hw.1, qtrans (by simp) hC hw.2⟩))
              go_big_quiet_on)))
         refine wpQuiet_nil ?_
         intro w9 hC9
         obtain ⟨hc9, hf9⟩ := bcellB hC9
         have hz9 := hC9.size
         try simp only [World.size_alloc, World.size_setCell] at hz9
         have : w.heap.size < w9.heap.size := by omega
         have : w.heap.size + 1 < w9.heap.size := by omega
         have : w.heap.size + 1 + 1 < w9.heap.size := by omega
         have : w.heap.size + 1 + 1 + 1 < w9.heap.size := by omega
         have : bq < w9.heap.size := by omega
         have : br < w9.heap.size := by omega
         have c9_0_0 := zci w9 w.heap.size 0 (wH (n)) (by go_simp)
         have c9_0_1 := zcu w9 w.heap.size 1 (wL (n)) (by go_simp)
         have c9_1_0 := zci w9 (w.heap.size + 1) 0 (wH (d)) (by go_simp)
         have c9_1_1 := zcu w9 (w.heap.size + 1) 1 (wL (d)) (by go_simp)
         have c9_2_0 := zci w9 bq 0 (wH (q + q)) (by go_simp)
         have g9_2_0 := zfe w9 bq 0 (by go_simp)
         have c9_2_1 := zcu w9 bq 1 (wL (q + q)) (by go_simp)
         have g9_2_1 := zfe w9 bq 1 (by go_simp)
         have c9_3_0 := zci w9 br 0 (wH (r + r)) (by go_simp)
         have g9_3_0 := zfe w9 br 0 (by go_simp)
         have c9_3_1 := zcu w9 br 1 (wL (r + r)) (by go_simp)
         have g9_3_1 := zfe w9 br 1 (by go_simp)
         clear hc9 hf9 c4_0_0 c4_0_1 c4_1_0 c4_1_1 c4_2_0 g4_2_0 c4_2_1 g4_2_1 c4_3_0 g4_3_0 c4_3_1 g4_3_1
         go_wp2_with fail
         refine (rplus1 (q + q) (by have := HQ.out; constructor <;> omega) (by have := HQ.out; constructor <;> omega) _).mono ?_
         rintro e w20 ⟨rfl, hb20⟩
         obtain ⟨hc20, hf20⟩ := bcell hb20
         have hz20 := hb20.size
         try simp only [World.size_alloc, World.size_setCell] at hz20
         try refine zw4 w w20 (by omega) fun _ _ _ _ _ _ _ _ => ?_
         try refine zb bq w20 (by omega) fun _ _ => ?_
         try refine zb br w20 (by omega) fun _ _ => ?_
         have c20_0_0 := zci w20 w.heap.size 0 (wH (n)) (by go_simp)
         have c20_0_1 := zcu w20 w.heap.size 1 (wL (n)) (by go_simp)
         have c20_1_0 := zci w20 (w.heap.size + 1) 0 (wH (d)) (by go_simp)
         have c20_1_1 := zcu w20 (w.heap.size + 1) 1 (wL (d)) (by go_simp)
         have c20_2_0 := zci w20 bq 0 (wH (q + q)) (by go_simp)
         have g20_2_0 := zfe w20 bq 0 (by go_simp)
         have c20_2_1 := zcu w20 bq 1 (wL (q + q)) (by go_simp)
         have g20_2_1 := zfe w20 bq 1 (by go_simp)
         have c20_3_0 := zci w20 br 0 (wH (r + r + -d)) (by go_simp)
         have g20_3_0 := zfe w20 br 0 (by go_simp)
         have c20_3_1 := zcu w20 br 1 (wL (r + r + -d)) (by go_simp)
         have g20_3_1 := zfe w20 br 1 (by go_simp)
         clear hc20 hf20 c9_0_0 c9_0_1 c9_1_0 c9_1_1 c9_2_0 g9_2_0 c9_2_1 g9_2_1 c9_3_0 g9_3_0 c9_3_1 g9_3_1
         go_wp2
         go_roundw
         case rel =>
          exact ⟨m - 1, q + q + 1, r + r + -d, rfl, by omega, by omega, by have := div_sub (0) hm0 HEQ.out (ite_f HBT.out); rwa [Int.add_zero] at this, by have := HGE.out; omega, by have := HGE.out; omega, by omega, ⟨HI.out.inv.next (by repeat (first | exact Below.refl _ _ | refine Below.setCell ?_ (by first | omega | (simp <;> omega)) _ | refine Below.alloc ?_ (by first | omega | (simp <;> omega)) _ | refine Below.drew ?_ | refine Below.trans ?_ (Below.mono (by assumption) (by first | omega | (simp [World.setCell] <;> omega))))), HI.out.lo, HI.out.lt, by have := HI.out.sz; (try simp only [World.size_setCell]); omega, by go_simp, by go_simp, by go_simp, by go_simp, by go_simp, by go_simp, by go_simp, by go_simp⟩⟩
         case measure => simp [intOf]; omega

       ·have HBT := hide hbt
        clear hbt
        by_cases hge : r + r + 1 < d
        ·have HGE := hide hge
         clear hge
         have HQ := hide (div_bd (div_same (1) hm0 HEQ.out (ite_t HBT.out)) HN.out hd0 (by omega) (by omega))
         go_wp2_with fail
         refine (rtwice r (by constructor <;> omega) (by constructor <;> omega) _).mono ?_
         rintro e w1 ⟨rfl, hb1⟩
         obtain ⟨hc1, hf1⟩ := bcell hb1
         have hz1 := hb1.size
         try simp only [World.size_alloc, World.size_setCell] at hz1
         try refine zw4 w w1 (by omega) fun _ _ _ _ _ _ _ _ => ?_
         try refine zb bq w1 (by omega) fun _ _ => ?_
         try refine zb br w1 (by omega) fun _ _ => ?_
         have c1_0_0 := zci w1 w.heap.size 0 (wH (n)) (by go_simp)
         have c1_0_1 := zcu w1 w.heap.size 1 (wL (n)) (by go_simp)
         have c1_1_0 := zci w1 (w.heap.size + 1) 0 (wH (d)) (by go_simp)
         have c1_1_1 := zcu w1 (w.heap.size + 1) 1 (wL (d)) (by go_simp)
         have c1_2_0 := zci w1 bq 0 (wH (q)) (by go_simp)
         have g1_2_0 := zfe w1 bq 0 (by go_simp)
         have c1_2_1 := zcu w1 bq 1 (wL (q)) (by go_simp)
         have g1_2_1 := zfe w1 bq 1 (by go_simp)
         have c1_3_0 := zci w1 br 0 (wH (r)) (by go_simp)
         have g1_3_0 := zfe w1 br 0 (by go_simp)
         have c1_3_1 := zcu w1 br 1 (wL (r)) (by go_simp)
         have g1_3_1 := zfe w1 br 1 (by go_simp)
         clear hc1 hf1
         go_wp2_with fail
         refine (rbit_i n m HN.out (by omega) true HBT.out _).mono ?_
         rintro e w2 ⟨rfl, hb2⟩
         obtain ⟨hc2, hf2⟩ := bcell hb2
         have hz2 := hb2.size
         try simp only [World.size_alloc, World.size_setCell] at hz2
         try refine zw4 w w2 (by omega) fun _ _ _ _ _ _ _ _ => ?_
         try refine zb bq w2 (by omega) fun _ _ => ?_
         try refine zb br w2 (by omega) fun _ _ => ?_
         have c2_0_0 := zci w2 w.heap.size 0 (wH (n)) (by go_simp)
         have c2_0_1 := zcu w2 w.heap.size 1 (wL (n)) (by go_simp)
         have c2_1_0 := zci w2 (w.heap.size + 1) 0 (wH (d)) (by go_simp)
         have c2_1_1 := zcu w2 (w.heap.size + 1) 1 (wL (d)) (by go_simp)
         have c2_2_0 := zci w2 bq 0 (wH (q)) (by go_simp)
         have g2_2_0 := zfe w2 bq 0 (by go_simp)
         have c2_2_1 := zcu w2 bq 1 (wL (q)) (by go_simp)
         have g2_2_1 := zfe w2 bq 1 (by go_simp)
         have c2_3_0 := zci w2 br 0 (wH (r + r)) (by go_simp)
         have g2_3_0 := zfe w2 br 0 (by go_simp)
         have c2_3_1 := zcu w2 br 1 (wL (r + r)) (by go_simp)
         have g2_3_1 := zfe w2 br 1 (by go_simp)
         clear hc2 hf2 c1_0_0 c1_0_1 c1_1_0 c1_1_1 c1_2_0 g1_2_0 c1_2_1 g1_2_1 c1_3_0 g1_3_0 c1_3_1 g1_3_1
         go_wp2_with fail
         refine (rplus1 (r + r) (by constructor <;> omega) (by constructor <;> omega) _).mono ?_
         rintro e w3 ⟨rfl, hb3⟩
         obtain ⟨hc3, hf3⟩ := bcell hb3
         have hz3 := hb3.size
         try simp only [World.size_alloc, World.size_setCell] at hz3
         try refine zw4 w w3 (by omega) fun _ _ _ _ _ _ _ _ => ?_
         try refine zb bq w3 (by omega) fun _ _ => ?_
         try refine zb br w3 (by omega) fun _ _ => ?_
         have c3_0_0 := zci w3 w.heap.size 0 (wH (n)) (by go_simp)
         have c3_0_1 := zcu w3 w.heap.size 1 (wL (n)) (by go_simp)
         have c3_1_0 := zci w3 (w.heap.size + 1) 0 (wH (d)) (by go_simp)
         have c3_1_1 := zcu w3 (w.heap.size + 1) 1 (wL (d)) (by go_simp)
         have c3_2_0 := zci w3 bq 0 (wH (q)) (by go_simp)
         have g3_2_0 := zfe w3 bq 0 (by go_simp)
         have c3_2_1 := zcu w3 bq 1 (wL (q)) (by go_simp)
         have g3_2_1 := zfe w3 bq 1 (by go_simp)
         have c3_3_0 := zci w3 br 0 (wH (r + r)) (by go_simp)
         have g3_3_0 := zfe w3 br 0 (by go_simp)
         have c3_3_1 := zcu w3 br 1 (wL (r + r)) (by go_simp)
         have g3_3_1 := zfe w3 br 1 (by go_simp)
         clear hc3 hf3 c2_0_0 c2_0_1 c2_1_0 c2_1_1 c2_2_0 g2_2_0 c2_2_1 g2_2_1 c2_3_0 g2_3_0 c2_3_1 g2_3_1
         go_wp2_with fail
         refine (rtwice q (by have := HQ.out; constructor <;> omega) (by have := HQ.out; constructor <;> omega) _).mono ?_
         rintro e w4 ⟨rfl, hb4⟩
         obtain ⟨hc4, hf4⟩ := bcell hb4
         have hz4 := hb4.size
         try simp only [World.size_alloc, World.size_setCell] at hz4
         try refine zw4 w w4 (by omega) fun _ _ _ _ _ _ _ _ => ?_
         try refine zb bq w4 (by omega) fun _ _ => ?_
         try refine zb br w4 (by omega) fun _ _ => ?_
         have c4_0_0 := zci w4 w.heap.size 0 (wH (n)) (by go_simp)
         have c4_0_1 := zcu w4 w.heap.size 1 (wL (n)) (by go_simp)
         have c4_1_0 := zci w4 (w.heap.size + 1) 0 (wH (d)) (by go_simp)
         have c4_1_1 := zcu w4 (w.heap.size + 1) 1 (wL (d)) (by go_simp)
         have c4_2_0 := zci w4 bq 0 (wH (q)) (by go_simp)
         have g4_2_0 := zfe w4 bq 0 (by go_simp)
         have c4_2_1 := zcu w4 bq 1 (wL (q)) (by go_simp)
         have g4_2_1 := zfe w4 bq 1 (by go_simp)
         have c4_3_0 := zci w4 br 0 (wH (r + r + 1)) (by go_simp)
         have g4_3_0 := zfe w4 br 0 (by go_simp)
         have c4_3_1 := zcu w4 br 1 (wL (r + r + 1)) (by go_simp)
         have g4_3_1 := zfe w4 br 1 (by go_simp)
         clear hc4 hf4 c3_0_0 c3_0_1 c3_1_0 c3_1_1 c3_2_0 g3_2_0 c3_2_1 g3_2_1 c3_3_0 g3_3_0 c3_3_1 g3_3_1
         go_wp2_with fail
         refine (rless_r (r + r + 1) d true (by rw [decide_eq_true_eq]; exact HGE.out) _).mono ?_
         rintro e w5 ⟨rfl, hb5⟩
         obtain ⟨hc5, hf5⟩ := bcell hb5
         have hz5 := hb5.size
         try simp only [World.size_alloc, World.size_setCell] at hz5
         try refine zw4 w w5 (by omega) fun _ _ _ _ _ _ _ _ => ?_
         try refine zb bq w5 (by omega) fun _ _ => ?_
         try refine zb br w5 (by omega) fun _ _ => ?_
         have c5_0_0 := zci w5 w.heap.size 0 (wH (n)) (by go_simp)
         have c5_0_1 := zcu w5 w.heap.size 1 (wL (n)) (by go_simp)
         have c5_1_0 := zci w5 (w.heap.size + 1) 0 (wH (d)) (by go_simp)
         have c5_1_1 := zcu w5 (w.heap.size + 1) 1 (wL (d)) (by go_simp)
         have c5_2_0 := zci w5 bq 0 (wH (q + q)) (by go_simp)
         have g5_2_0 := zfe w5 bq 0 (by go_simp)
         have c5_2_1 := zcu w5 bq 1 (wL (q + q)) (by go_simp)
         have g5_2_1 := zfe w5 bq 1 (by go_simp)
         have c5_3_0 := zci w5 br 0 (wH (r + r + 1)) (by go_simp)
         have g5_3_0 := zfe w5 br 0 (by go_simp)
         have c5_3_1 := zcu w5 br 1 (wL (r + r + 1)) (by go_simp)
         have g5_3_1 := zfe w5 br 1 (by go_simp)
         clear hc5 hf5 c4_0_0 c4_0_1 c4_1_0 c4_1_1 c4_2_0 g4_2_0 c4_2_1 g4_2_1 c4_3_0 g4_3_0 c4_3_1 g4_3_1
         go_wp2
         go_roundw
         case rel =>
          exact ⟨m - 1, q + q, r + r + 1, rfl, by omega, by omega, by have := div_same (1) hm0 HEQ.out (ite_t HBT.out); exact this, by have := HGE.out; omega, by have := HGE.out; omega, by omega, ⟨HI.out.inv.next (by repeat (first | exact Below.refl _ _ | refine Below.setCell ?_ (by first | omega | (simp <;> omega)) _ | refine Below.alloc ?_ (by first | omega | (simp <;> omega)) _ | refine Below.drew ?_ | refine Below.trans ?_ (Below.mono (by assumption) (by first | omega | (simp [World.setCell] <;> omega))))), HI.out.lo, HI.out.lt, by have := HI.out.sz; (try simp only [World.size_setCell]); omega, by go_simp, by go_simp, by go_simp, by go_simp, by go_simp, by go_simp, by go_simp, by go_simp⟩⟩
         case measure => simp [intOf]; omega
        ·have HGE := hide hge
         clear hge
         have HQ := hide (div_bd (div_sub (1) hm0 HEQ.out (ite_t HBT.out)) HN.out hd0 (by omega) (by have := HGE.out; omega))
         have HR1 : Hid (R127 (r + r + 1)) := hide (by constructor <;> omega)
         have HMD : Hid (R127 (-d)) := hide (by constructor <;> omega)
         have HSUB : Hid (R127 (r + r + 1 + -d)) := hide (by constructor <;> omega)
         go_wp2_with fail
         refine (rtwice r (by constructor <;> omega) (by constructor <;> omega) _).mono ?_
         rintro e w1 ⟨rfl, hb1⟩
         obtain ⟨hc1, hf1⟩ := bcell hb1
         have hz1 := hb1.size
         try simp only [World.size_alloc, World.size_setCell] at hz1
         try refine zw4 w w1 (by omega) fun _ _ _ _ _ _ _ _ => ?_
         try refine zb bq w1 (by omega) fun _ _ => ?_
         try refine zb br w1 (by omega) fun _ _ => ?_
         have c1_0_0 := zci w1 w.heap.size 0 (wH (n)) (by go_simp)
         have c1_0_1 := zcu w1 w.heap.size 1 (wL (n)) (by go_simp)
         have c1_1_0 := zci w1 (w.heap.size + 1) 0 (wH (d)) (by go_simp)
         have c1_1_1 := zcu w1 (w.heap.size + 1) 1 (wL (d)) (by go_simp)
         have c1_2_0 := zci w1 bq 0 (wH (q)) (by go_simp)
         have g1_2_0 := zfe w1 bq 0 (by go_simp)
         have c1_2_1 := zcu w1 bq 1 (wL (q)) (by go_simp)
         have g1_2_1 := zfe w1 bq 1 (by go_simp)
         have c1_3_0 := zci w1 br 0 (wH (r)) (by go_simp)
         have g1_3_0 := zfe w1 br 0 (by go_simp)
         have c1_3_1 := zcu w1 br 1 (wL (r)) (by go_simp)
         have g1_3_1 := zfe w1 br 1 (by go_simp)
         clear hc1 hf1
         go_wp2_with fail
         refine (rbit_i n m HN.out (by omega) true HBT.out _).mono ?_
         rintro e w2 ⟨rfl, hb2⟩
         obtain ⟨hc2, hf2⟩ := bcell hb2
         have hz2 := hb2.size
         try simp only [World.size_alloc, World.size_setCell] at hz2
         try refine zw4 w w2 (by omega) fun _ _ _ _ _ _ _ _ => ?_
         try refine zb bq w2 (by omega) fun _ _ => ?_
         try refine zb br w2 (by omega) fun _ _ => ?_
         have c2_0_0 := zci w2 w.heap.size 0 (wH (n)) (by go_simp)
         have c2_0_1 := zcu w2 w.heap.size 1 (wL (n)) (by go_simp)
         have c2_1_0 := zci w2 (w.heap.size + 1) 0 (wH (d)) (by go_simp)
         have c2_1_1 := zcu w2 (w.heap.size + 1) 1 (wL (d)) (by go_simp)
         have c2_2_0 := zci w2 bq 0 (wH (q)) (by go_simp)
         have g2_2_0 := zfe w2 bq 0 (by go_simp)
         have c2_2_1 := zcu w2 bq 1 (wL (q)) (by go_simp)
         have g2_2_1 := zfe w2 bq 1 (by go_simp)
         have c2_3_0 := zci w2 br 0 (wH (r + r)) (by go_simp)
         have g2_3_0 := zfe w2 br 0 (by go_simp)
         have c2_3_1 := zcu w2 br 1 (wL (r + r)) (by go_simp)
         have g2_3_1 := zfe w2 br 1 (by go_simp)
         clear hc2 hf2 c1_0_0 c1_0_1 c1_1_0 c1_1_1 c1_2_0 g1_2_0 c1_2_1 g1_2_1 c1_3_0 g1_3_0 c1_3_1 g1_3_1
         go_wp2_with fail
         refine (rplus1 (r + r) (by constructor <;> omega) (by constructor <;> omega) _).mono ?_
         rintro e w3 ⟨rfl, hb3⟩
         obtain ⟨hc3, hf3⟩ := bcell hb3
         have hz3 := hb3.size
         try simp only [World.size_alloc, World.size_setCell] at hz3
         try refine zw4 w w3 (by omega) fun _ _ _ _ _ _ _ _ => ?_
         try refine zb bq w3 (by omega) fun _ _ => ?_
         try refine zb br w3 (by omega) fun _ _ => ?_
         have c3_0_0 := zci w3 w.heap.size 0 (wH (n)) (by go_simp)
         have c3_0_1 := zcu w3 w.heap.size 1 (wL (n)) (by go_simp)
         have c3_1_0 := zci w3 (w.heap.size + 1) 0 (wH (d)) (by go_simp)
         have c3_1_1 := zcu w3 (w.heap.size + 1) 1 (wL (d)) (by go_simp)
         have c3_2_0 := zci w3 bq 0 (wH (q)) (by go_simp)
         have g3_2_0 := zfe w3 bq 0 (by go_simp)
         have c3_2_1 := zcu w3 bq 1 (wL (q)) (by go_simp)
         have g3_2_1 := zfe w3 bq 1 (by go_simp)
         have c3_3_0 := zci w3 br 0 (wH (r + r)) (by go_simp)
         have g3_3_0 := zfe w3 br 0 (by go_simp)
         have c3_3_1 := zcu w3 br 1 (wL (r + r)) (by go_simp)
         have g3_3_1 := zfe w3 br 1 (by go_simp)
         clear hc3 hf3 c2_0_0 c2_0_1 c2_1_0 c2_1_1 c2_2_0 g2_2_0 c2_2_1 g2_2_1 c2_3_0 g2_3_0 c2_3_1 g2_3_1
         go_wp2_with fail
         refine (rtwice q (by have := HQ.out; constructor <;> omega) (by have := HQ.out; constructor <;> omega) _).mono ?_
         rintro e w4 ⟨rfl, hb4⟩
         obtain ⟨hc4, hf4⟩ := bcell hb4
         have hz4 := hb4.size
         try simp only [World.size_alloc, World.size_setCell] at hz4
         try refine zw4 w w4 (by omega) fun _ _ _ _ _ _ _ _ => ?_
         try refine zb bq w4 (by omega) fun _ _ => ?_
         try refine zb br w4 (by omega) fun _ _ => ?_
         have c4_0_0 := zci w4 w.heap.size 0 (wH (n)) (by go_simp)
         have c4_0_1 := zcu w4 w.heap.size 1 (wL (n)) (by go_simp)
         have c4_1_0 := zci w4 (w.heap.size + 1) 0 (wH (d)) (by go_simp)
         have c4_1_1 := zcu w4 (w.heap.size + 1) 1 (wL (d)) (by go_simp)
         have c4_2_0 := zci w4 bq 0 (wH (q)) (by go_simp)
         have g4_2_0 := zfe w4 bq 0 (by go_simp)
         have c4_2_1 := zcu w4 bq 1 (wL (q)) (by go_simp)
         have g4_2_1 := zfe w4 bq 1 (by go_simp)
         have c4_3_0 := zci w4 br 0 (wH (r + r + 1)) (by go_simp)
         have g4_3_0 := zfe w4 br 0 (by go_simp)
         have c4_3_1 := zcu w4 br 1 (wL (r + r + 1)) (by go_simp)
         have g4_3_1 := zfe w4 br 1 (by go_simp)
         clear hc4 hf4 c3_0_0 c3_0_1 c3_1_0 c3_1_1 c3_2_0 g3_2_0 c3_2_1 g3_2_1 c3_3_0 g3_3_0 c3_3_1 g3_3_1
         go_wp2_with fail
         refine (rless_r (r + r + 1) d false (by rw [decide_eq_false_iff_not]; have := HGE.out; omega) _).mono ?_
         rintro e w5 ⟨rfl, hb5⟩
         obtain ⟨hc5, hf5⟩ := bcell hb5
         have hz5 := hb5.size
         try simp only [World.size_alloc, World.size_setCell] at hz5
         try refine zw4 w w5 (by omega) fun _ _ _ _ _ _ _ _ => ?_
         try refine zb bq w5 (by omega) fun _ _ => ?_
         try refine zb br w5 (by omega) fun _ _ => ?_
         have c5_0_0 := zci w5 w.heap.size 0 (wH (n)) (by go_simp)
         have c5_0_1 := zcu w5 w.heap.size 1 (wL (n)) (by go_simp)
         have c5_1_0 := zci w5 (w.heap.size + 1) 0 (wH (d)) (by go_simp)
         have c5_1_1 := zcu w5 (w.heap.size + 1) 1 (wL (d)) (by go_simp)
         have c5_2_0 := zci w5 bq 0 (wH (q + q)) (by go_simp)
         have g5_2_0 := zfe w5 bq 0 (by go_simp)
         have c5_2_1 := zcu w5 bq 1 (wL (q + q)) (by go_simp)
         have g5_2_1 := zfe w5 bq 1 (by go_simp)
         have c5_3_0 := zci w5 br 0 (wH (r + r + 1)) (by go_simp)
         have g5_3_0 := zfe w5 br 0 (by go_simp)
         have c5_3_1 := zcu w5 br 1 (wL (r + r + 1)) (by go_simp)
         have g5_3_1 := zfe w5 br 1 (by go_simp)
         clear hc5 hf5 c4_0_0 c4_0_1 c4_1_0 c4_1_1 c4_2_0 g4_2_0 c4_2_1 g4_2_1 c4_3_0 g4_3_0 c4_3_1 g4_3_1
         go_wp2_with fail
         refine QT.tail_b 4 (by kernel_rfl) (by kernel_rfl) ?_
         simp only [List.take_succ_cons, List.take_zero, List.drop_succ_cons, List.drop_zero]
         repeat (first
          | go_big_quiet_skip
          | (go_big_quiet_want; go_big_quiet_op; first
           | go_big_quiet_on
           | (apply Exists.intro
              refine ⟨fun _ => ?_, ?_⟩
              ·first
               | rfl
               | (intro hC; obtain ⟨hcq, hfq⟩ := bcellB hC; go_simp; done)
               | (intro hC; obtain ⟨hcq, hfq⟩ := bcellB hC; go_simp; rfl)
               | (intro hC; have hcq := bcellG hC; go_simp; done)
               | (intro hC; have hcq := bcellG hC; go_simp; rfl)
               | (intro hC; go_at_call 111; (first | (with_reducible refine (rminus d HDR.out _).mono ?_)); (intro e w2 hw; exact ⟨hw.1, qtrans (by simp) hC hw.2⟩))
               | (intro hC; go_at_call 78; (first | (with_reducible refine (rplus (r + r + 1) (-d) HR1.out HMD.out HSUB.out _).mono ?_)); (intro e w2 hw; exact ⟨hw.1, qtrans (by simp) hC hw.2⟩))
              go_big_quiet_on)))
         refine wpQuiet_nil ?_
         intro w9 hC9
         obtain ⟨hc9, hf9⟩ := bcellB hC9
         have hz9 := hC9.size
         try simp only [World.size_alloc, World.size_setCell] at hz9
         have : w.heap.size < w9.heap.size := by omega
         have : w.heap.size + 1 < w9.heap.size := by omega
         have : w.heap.size + 1 + 1 < w9.heap.size := by omega
         have : w.heap.size + 1 + 1 + 1 < w9.heap.size := by omega
         have : bq < w9.heap.size := by omega
         have : br < w9.heap.size := by omega
         have c9_0_0 := zci w9 w.heap.size 0 (wH (n)) (by go_simp)
         have c9_0_1 := zcu w9 w.heap.size 1 (wL (n)) (by go_simp)
         have c9_1_0 := zci w9 (w.heap.size + 1) 0 (wH (d)) (by go_simp)
         have c9_1_1 := zcu w9 (w.heap.size + 1) 1 (wL (d)) (by go_simp)
         have c9_2_0 := zci w9 bq 0 (wH (q + q)) (by go_simp)
         have g9_2_0 := zfe w9 bq 0 (by go_simp)
         have c9_2_1 := zcu w9 bq 1 (wL (q + q)) (by go_simp)
         have g9_2_1 := zfe w9 bq 1 (by go_simp)
         have c9_3_0 := zci w9 br 0 (wH (r + r + 1)) (by go_simp)
         have g9_3_0 := zfe w9 br 0 (by go_simp)
         have c9_3_1 := zcu w9 br 1 (wL (r + r + 1)) (by go_simp)
         have g9_3_1 := zfe w9 br 1 (by go_simp)
         clear hc9 hf9 c5_0_0 c5_0_1 c5_1_0 c5_1_1 c5_2_0 g5_2_0 c5_2_1 g5_2_1 c5_3_0 g5_3_0 c5_3_1 g5_3_1
         go_wp2_with fail
         refine (rplus1 (q + q) (by have := HQ.out; constructor <;> omega) (by have := HQ.out; constructor <;> omega) _).mono ?_
         rintro e w20 ⟨rfl, hb20⟩
         obtain ⟨hc20, hf20⟩ := bcell hb20
         have hz20 := hb20.size
         try simp only [World.size_alloc, World.size_setCell] at hz20
         try refine zw4 w w20 (by omega) fun _ _ _ _ _ _ _ _ => ?_
         try refine zb bq w20 (by omega) fun _ _ => ?_
         try refine zb br w20 (by omega) fun _ _ => ?_
         have c20_0_0 := zci w20 w.heap.size 0 (wH (n)) (by go_simp)
         have c20_0_1 := zcu w20 w.heap.size 1 (wL (n)) (by go_simp)
         have c20_1_0 := zci w20 (w.heap.size + 1) 0 (wH (d)) (by go_simp)
         have c20_1_1 := zcu w20 (w.heap.size + 1) 1 (wL (d)) (by go_simp)
         have c20_2_0 := zci w20 bq 0 (wH (q + q)) (by go_simp)
         have g20_2_0 := zfe w20 bq 0 (by go_simp)
         have c20_2_1 := zcu w20 bq 1 (wL (q + q)) (by go_simp)
         have g20_2_1 := zfe w20 bq 1 (by go_simp)
         have c20_3_0 := zci w20 br 0 (wH (r + r + 1 + -d)) (by go_simp)
         have g20_3_0 := zfe w20 br 0 (by go_simp)
         have c20_3_1 := zcu w20 br 1 (wL (r + r + 1 + -d)) (by go_simp)
         have g20_3_1 := zfe w20 br 1 (by go_simp)
         clear hc20 hf20 c9_0_0 c9_0_1 c9_1_0 c9_1_1 c9_2_0 g9_2_0 c9_2_1 g9_2_1 c9_3_0 g9_3_0 c9_3_1 g9_3_1
         go_wp2
         go_roundw
         case rel =>
          exact ⟨m - 1, q + q + 1, r + r + 1 + -d, rfl, by omega, by omega, by have := div_sub (1) hm0 HEQ.out (ite_t HBT.out); exact this, by have := HGE.out; omega, by have := HGE.out; omega, by omega, ⟨HI.out.inv.next (by repeat (first | exact Below.refl _ _ | refine Below.setCell ?_ (by first | omega | (simp <;> omega)) _ | refine Below.alloc ?_ (by first | omega | (simp <;> omega)) _ | refine Below.drew ?_ | refine Below.trans ?_ (Below.mono (by assumption) (by first | omega | (simp [World.setCell] <;> omega))))), HI.out.lo, HI.out.lt, by have := HI.out.sz; (try simp only [World.size_setCell]); omega, by go_simp, by go_simp, by go_simp, by go_simp, by go_simp, by go_simp, by go_simp, by go_simp⟩⟩
         case measure => simp [intOf]; omega
      ·have HE := hide (div_end (show DivEq n d (-1) q r by have h := HEQ.out; rwa [show m = -1 by omega] at h) hr0 hr1)
       go_wp2_with fail
       go_region
       all_goals go_wp2
       all_goals rw [HE.out.1, HE.out.2]
       all_goals refine bodyPost_ret (v := .tuple #[.agg #[.int .i64 (wH (q)), .int .u64 (wL (q))], .agg #[.int .i64 (wH (r)), .int .u64 (wL (r))]]) (by simp only [results, Try.results134]; go_simp) rfl ⟨rfl, blw_⟩
   ·have HI1 := HI
    clear cn0 cn1 cd0 cd1 cq0 cq1 cr0 cr1 fq0 fq1 fr0 fr1 hB hsz p0 p1 p2 HI
    go_wp2
    obtain ⟨w1, rfl⟩ : ∃ w1 : World, w1 = wr := ⟨_, rfl⟩
    go_loopw [9] (fun i wx => ∃ m q r : Int, i = .int .i64 m ∧ -1 ≤ m ∧ m < 128 ∧ DivEq n d m q r ∧ 0 ≤ r ∧ r < d ∧ 0 ≤ q ∧ Div2 w wx n d w1.heap.size (w1.heap.size + 1) q r) (fun i _ => (intOf i + 1).toNat)
    case atStart =>
     have hszx := HI1.out.size
     exact ⟨t, 0, 0, rfl, by omega, by omega, div_top HT.out, by omega, by omega, by omega, ⟨HI1.out.next blw_, by omega, by omega, by simp, by go_simp; rfl, by go_simp; rfl, by go_simp; rfl, by go_simp; rfl, by go_simp, by go_simp, by go_simp, by go_simp⟩⟩
    case round =>
     obtain ⟨m, q, r, rfl, hm1, hm2, heq, hr0, hr1, hq0, hD⟩ := hrel
     have HEQ := hide heq
     have HI := hide hD
     obtain ⟨bq, hbq⟩ : ∃ b, w1.heap.size = b := ⟨_, rfl⟩
     obtain ⟨br, hbr⟩ : ∃ b, w1.heap.size + 1 = b := ⟨_, rfl⟩
     rw [hbr, hbq] at hD HI
     rw [hbr, hbq]
     clear hbr hbq HI1 HT heq
     obtain ⟨⟨hB, hsz, cn0, cn1, cd0, cd1, cq0, cq1, cr0, cr1, fq0, fq1, fr0, fr1⟩, hlo, hlt, hsx, eq0, eq1, er0, er1, gq0, gq1, gr0, gr1⟩ := hD
     have : ¬ w.heap.size = bq := by omega
     have : ¬ w.heap.size = br := by omega
     have : ¬ w.heap.size + 1 = bq := by omega
     have : ¬ w.heap.size + 1 = br := by omega
     have : ¬ w.heap.size + 1 + 1 = bq := by omega
     have : ¬ w.heap.size + 1 + 1 = br := by omega
     have : ¬ w.heap.size + 1 + 1 + 1 = bq := by omega
     have : ¬ w.heap.size + 1 + 1 + 1 = br := by omega
     have : ¬ bq = w.heap.size := by omega
     have : ¬ bq = w.heap.size + 1 := by omega
     have : ¬ bq = w.heap.size + 1 + 1 := by omega
     have : ¬ bq = w.heap.size + 1 + 1 + 1 := by omega
     have : ¬ bq = br := by omega
     have : ¬ br = w.heap.size := by omega
     have : ¬ br = w.heap.size + 1 := by omega
     have : ¬ br = w.heap.size + 1 + 1 := by omega
     have : ¬ br = w.heap.size + 1 + 1 + 1 := by omega
     have : ¬ br = bq := by omega
     have : w.heap.size < wr.heap.size := by omega
     have : w.heap.size + 1 < wr.heap.size := by omega
     have : w.heap.size + 1 + 1 < wr.heap.size := by omega
     have : w.heap.size + 1 + 1 + 1 < wr.heap.size := by omega
     have : bq < wr.heap.size := by omega
     have : br < wr.heap.size := by omega
     by_cases hm0 : 0 ≤ m
     ·skip
      cases hbt : bitB n m.toNat
      ·have HBT := hide hbt
       clear hbt
       by_cases hge : r + r < d
       ·have HGE := hide hge
        clear hge
        have HQ := hide (div_bd (div_same (0) hm0 HEQ.out (ite_f HBT.out)) HN.out hd0 (by omega) (by omega))
        go_wp2_with fail
        refine (rtwice r (by constructor <;> omega) (by constructor <;> omega) _).mono ?_
        rintro e w1 ⟨rfl, hb1⟩
        obtain ⟨hc1, hf1⟩ := bcell hb1
        have hz1 := hb1.size
        try simp only [World.size_alloc, World.size_setCell] at hz1
        try refine zw4 w w1 (by omega) fun _ _ _ _ _ _ _ _ => ?_
        try refine zb bq w1 (by omega) fun _ _ => ?_
        try refine zb br w1 (by omega) fun _ _ => ?_
        have c1_0_0 := zci w1 w.heap.size 0 (wH (n)) (by go_simp)
        have c1_0_1 := zcu w1 w.heap.size 1 (wL (n)) (by go_simp)
        have c1_1_0 := zci w1 (w.heap.size + 1) 0 (wH (d)) (by go_simp)
        have c1_1_1 := zcu w1 (w.heap.size + 1) 1 (wL (d)) (by go_simp)
        have c1_2_0 := zci w1 bq 0 (wH (q)) (by go_simp)
        have g1_2_0 := zfe w1 bq 0 (by go_simp)
        have c1_2_1 := zcu w1 bq 1 (wL (q)) (by go_simp)
        have g1_2_1 := zfe w1 bq 1 (by go_simp)
        have c1_3_0 := zci w1 br 0 (wH (r)) (by go_simp)
        have g1_3_0 := zfe w1 br 0 (by go_simp)
        have c1_3_1 := zcu w1 br 1 (wL (r)) (by go_simp)
        have g1_3_1 := zfe w1 br 1 (by go_simp)
        clear hc1 hf1
        go_wp2_with fail
        refine (rbit_i n m HN.out (by omega) false HBT.out _).mono ?_
        rintro e w2 ⟨rfl, hb2⟩
        obtain ⟨hc2, hf2⟩ := bcell hb2
        have hz2 := hb2.size
        try simp only [World.size_alloc, World.size_setCell] at hz2
        try refine zw4 w w2 (by omega) fun _ _ _ _ _ _ _ _ => ?_
        try refine zb bq w2 (by omega) fun _ _ => ?_
        try refine zb br w2 (by omega) fun _ _ => ?_
        have c2_0_0 := zci w2 w.heap.size 0 (wH (n)) (by go_simp)
        have c2_0_1 := zcu w2 w.heap.size 1 (wL (n)) (by go_simp)
        have c2_1_0 := zci w2 (w.heap.size + 1) 0 (wH (d)) (by go_simp)
        have c2_1_1 := zcu w2 (w.heap.size + 1) 1 (wL (d)) (by go_simp)
        have c2_2_0 := zci w2 bq 0 (wH (q)) (by go_simp)
        have g2_2_0 := zfe w2 bq 0 (by go_simp)
        have c2_2_1 := zcu w2 bq 1 (wL (q)) (by go_simp)
        have g2_2_1 := zfe w2 bq 1 (by go_simp)
        have c2_3_0 := zci w2 br 0 (wH (r + r)) (by go_simp)
        have g2_3_0 := zfe w2 br 0 (by go_simp)
        have c2_3_1 := zcu w2 br 1 (wL (r + r)) (by go_simp)
        have g2_3_1 := zfe w2 br 1 (by go_simp)
        clear hc2 hf2 c1_0_0 c1_0_1 c1_1_0 c1_1_1 c1_2_0 g1_2_0 c1_2_1 g1_2_1 c1_3_0 g1_3_0 c1_3_1 g1_3_1
        go_wp2_with fail
        refine (rtwice q (by have := HQ.out; constructor <;> omega) (by have := HQ.out; constructor <;> omega) _).mono ?_
        rintro e w3 ⟨rfl, hb3⟩
        obtain ⟨hc3, hf3⟩ := bcell hb3
        have hz3 := hb3.size
        try simp only [World.size_alloc, World.size_setCell] at hz3
        try refine zw4 w w3 (by omega) fun _ _ _ _ _ _ _ _ => ?_
        try refine zb bq w3 (by omega) fun _ _ => ?_
        try refine zb br w3 (by omega) fun _ _ => ?_
        have c3_0_0 := zci w3 w.heap.size 0 (wH (n)) (by go_simp)
        have c3_0_1 := zcu w3 w.heap.size 1 (wL (n)) (by go_simp)
        have c3_1_0 := zci w3 (w.heap.size + 1) 0 (wH (d)) (by go_simp)
        have c3_1_1 := zcu w3 (w.heap.size + 1) 1 (wL (d)) (by go_simp)
        have c3_2_0 := zci w3 bq 0 (wH (q)) (by go_simp)
        have g3_2_0 := zfe w3 bq 0 (by go_simp)
        have c3_2_1 := zcu w3 bq 1 (wL (q)) (by go_simp)
        have g3_2_1 := zfe w3 bq 1 (by go_simp)
        have c3_3_0 := zci w3 br 0 (wH (r + r)) (by go_simp)
        have g3_3_0 := zfe w3 br 0 (by go_simp)
        have c3_3_1 := zcu w3 br 1 (wL (r + r)) (by go_simp)
        have g3_3_1 := zfe w3 br 1 (by go_simp)
        clear hc3 hf3 c2_0_0 c2_0_1 c2_1_0 c2_1_1 c2_2_0 g2_2_0 c2_2_1 g2_2_1 c2_3_0 g2_3_0 c2_3_1 g2_3_1
        go_wp2_with fail
        refine (rless_r (r + r) d true (by rw [decide_eq_true_eq]; exact HGE.out) _).mono ?_
        rintro e w4 ⟨rfl, hb4⟩
        obtain ⟨hc4, hf4⟩ := bcell hb4
        have hz4 := hb4.size
        try simp only [World.size_alloc, World.size_setCell] at hz4
        try refine zw4 w w4 (by omega) fun _ _ _ _ _ _ _ _ => ?_
        try refine zb bq w4 (by omega) fun _ _ => ?_
        try refine zb br w4 (by omega) fun _ _ => ?_
        have c4_0_0 := zci w4 w.heap.size 0 (wH (n)) (by go_simp)
        have c4_0_1 := zcu w4 w.heap.size 1 (wL (n)) (by go_simp)
        have c4_1_0 := zci w4 (w.heap.size + 1) 0 (wH (d)) (by go_simp)
        have c4_1_1 := zcu w4 (w.heap.size + 1) 1 (wL (d)) (by go_simp)
        have c4_2_0 := zci w4 bq 0 (wH (q + q)) (by go_simp)
        have g4_2_0 := zfe w4 bq 0 (by go_simp)
        have c4_2_1 := zcu w4 bq 1 (wL (q + q)) (by go_simp)
        have g4_2_1 := zfe w4 bq 1 (by go_simp)
        have c4_3_0 := zci w4 br 0 (wH (r + r)) (by go_simp)
        have g4_3_0 := zfe w4 br 0 (by go_simp)
        have c4_3_1 := zcu w4 br 1 (wL (r + r)) (by go_simp)
        have g4_3_1 := zfe w4 br 1 (by go_simp)
        clear hc4 hf4 c3_0_0 c3_0_1 c3_1_0 c3_1_1 c3_2_0 g3_2_0 c3_2_1 g3_2_1 c3_3_0 g3_3_0 c3_3_1 g3_3_1
        go_wp2
        go_roundw
        case rel =>
         exact ⟨m - 1, q + q, r + r, rfl, by omega, by omega, by have := div_same (0) hm0 HEQ.out (ite_f HBT.out); rwa [Int.add_zero] at this, by have := HGE.out; omega, by have := HGE.out; omega, by omega, ⟨HI.out.inv.next (by repeat (first | exact Below.refl _ _ | refine Below.setCell ?_ (by first | omega | (simp <;> omega)) _ | refine Below.alloc ?_ (by first | omega | (simp <;> omega)) _ | refine Below.drew ?_ | refine Below.trans ?_ (Below.mono (by assumption) (by first | omega | (simp [World.setCell] <;> omega))))), HI.out.lo, HI.out.lt, by have := HI.out.sz; (try simp only [World.size_setCell]); omega, by go_simp, by go_simp, by go_simp, by go_simp, by go_simp, by go_simp, by go_simp, by go_simp⟩⟩
        case measure => simp [intOf]; omega
       ·have HGE := hide hge
        clear hge
        have HQ := hide (div_bd (div_sub (0) hm0 HEQ.out (ite_f HBT.out)) HN.out hd0 (by omega) (by have := HGE.out; omega))
        have HR1 : Hid (R127 (r + r)) := hide (by constructor <;> omega)
        have HMD : Hid (R127 (-d)) := hide (by constructor <;> omega)
        have HSUB : Hid (R127 (r + r + -d)) := hide (by constructor <;> omega)
        go_wp2_with fail
        refine (rtwice r (by constructor <;> omega) (by constructor <;> omega) _).mono ?_
        rintro e w1 ⟨rfl, hb1⟩
        obtain ⟨hc1, hf1⟩ := bcell hb1
        have hz1 := hb1.size
        try simp only [World.size_alloc, World.size_setCell] at hz1
        try refine zw4 w w1 (by omega) fun _ _ _ _ _ _ _ _ => ?_
        try refine zb bq w1 (by omega) fun _ _ => ?_
        try refine zb br w1 (by omega) fun _ _ => ?_
        have c1_0_0 := zci w1 w.heap.size 0 (wH (n)) (by go_simp)
        have c1_0_1 := zcu w1 w.heap.size 1 (wL (n)) (by go_simp)
        have c1_1_0 := zci w1 (w.heap.size + 1) 0 (wH (d)) (by go_simp)
        have c1_1_1 := zcu w1 (w.heap.size + 1) 1 (wL (d)) (by go_simp)
        have c1_2_0 := zci w1 bq 0 (wH (q)) (by go_simp)
        have g1_2_0 := zfe w1 bq 0 (by go_simp)
        have c1_2_1 := zcu w1 bq 1 (wL (q)) (by go_simp)
        have g1_2_1 := zfe w1 bq 1 (by go_simp)
        have c1_3_0 := zci w1 br 0 (wH (r)) (by go_simp)
        have g1_3_0 := zfe w1 br 0 (by go_simp)
        have c1_3_1 := zcu w1 br 1 (wL (r)) (by go_simp)
        have g1_3_1 := zfe w1 br 1 (by go_simp)
        clear hc1 hf1
        go_wp2_with fail
        refine (rbit_i n m HN.out (by omega) false HBT.out _).mono ?_
        rintro e w2 ⟨rfl, hb2⟩
        obtain ⟨hc2, hf2⟩ := bcell hb2
        have hz2 := hb2.size
        try simp only [World.size_alloc, World.size_setCell] at hz2
        try refine zw4 w w2 (by omega) fun _ _ _ _ _ _ _ _ => ?_
        try refine zb bq w2 (by omega) fun _ _ => ?_
        try refine zb br w2 (by omega) fun _ _ => ?_
        have c2_0_0 := zci w2 w.heap.size 0 (wH (n)) (by go_simp)
        have c2_0_1 := zcu w2 w.heap.size 1 (wL (n)) (by go_simp)
        have c2_1_0 := zci w2 (w.heap.size + 1) 0 (wH (d)) (by go_simp)
        have c2_1_1 := zcu w2 (w.heap.size + 1) 1 (wL (d)) (by go_simp)
        have c2_2_0 := zci w2 bq 0 (wH (q)) (by go_simp)
        have g2_2_0 := zfe w2 bq 0 (by go_simp)
        have c2_2_1 := zcu w2 bq 1 (wL (q)) (by go_simp)
        have g2_2_1 := zfe w2 bq 1 (by go_simp)
        have c2_3_0 := zci w2 br 0 (wH (r + r)) (by go_simp)
        have g2_3_0 := zfe w2 br 0 (by go_simp)
        have c2_3_1 := zcu w2 br 1 (wL (r + r)) (by go_simp)
        have g2_3_1 := zfe w2 br 1 (by go_simp)
        clear hc2 hf2 c1_0_0 c1_0_1 c1_1_0 c1_1_1 c1_2_0 g1_2_0 c1_2_1 g1_2_1 c1_3_0 g1_3_0 c1_3_1 g1_3_1
        go_wp2_with fail
        refine (rtwice q (by have := HQ.out; constructor <;> omega) (by have := HQ.out; constructor <;> omega) _).mono ?_
        rintro e w3 ⟨rfl, hb3⟩
        obtain ⟨hc3, hf3⟩ := bcell hb3
        have hz3 := hb3.size
        try simp only [World.size_alloc, World.size_setCell] at hz3
        try refine zw4 w w3 (by omega) fun _ _ _ _ _ _ _ _ => ?_
        try refine zb bq w3 (by omega) fun _ _ => ?_
        try refine zb br w3 (by omega) fun _ _ => ?_
        have c3_0_0 := zci w3 w.heap.size 0 (wH (n)) (by go_simp)
        have c3_0_1 := zcu w3 w.heap.size 1 (wL (n)) (by go_simp)
        have c3_1_0 := zci w3 (w.heap.size + 1) 0 (wH (d)) (by go_simp)
        have c3_1_1 := zcu w3 (w.heap.size + 1) 1 (wL (d)) (by go_simp)
        have c3_2_0 := zci w3 bq 0 (wH (q)) (by go_simp)
        have g3_2_0 := zfe w3 bq 0 (by go_simp)
        have c3_2_1 := zcu w3 bq 1 (wL (q)) (by go_simp)
        have g3_2_1 := zfe w3 bq 1 (by go_simp)
        have c3_3_0 := zci w3 br 0 (wH (r + r)) (by go_simp)
        have g3_3_0 := zfe w3 br 0 (by go_simp)
        have c3_3_1 := zcu w3 br 1 (wL (r + r)) (by go_simp)
        have g3_3_1 := zfe w3 br 1 (by go_simp)
        clear hc3 hf3 c2_0_0 c2_0_1 c2_1_0 c2_1_1 c2_2_0 g2_2_0 c2_2_1 g2_2_1 c2_3_0 g2_3_0 c2_3_1 g2_3_1
        go_wp2_with fail
        refine (rless_r (r + r) d false (by rw [decide_eq_false_iff_not]; have := HGE.out; omega) _).mono ?_
        rintro e w4 ⟨rfl, hb4⟩
        obtain ⟨hc4, hf4⟩ := bcell hb4
        have hz4 := hb4.size
        try simp only [World.size_alloc, World.size_setCell] at hz4
        try refine zw4 w w4 (by omega) fun _ _ _ _ _ _ _ _ => ?_
        try refine zb bq w4 (by omega) fun _ _ => ?_
        try refine zb br w4 (by omega) fun _ _ => ?_
        have c4_0_0 := zci w4 w.heap.size 0 (wH (n)) (by go_simp)
        have c4_0_1 := zcu w4 w.heap.size 1 (wL (n)) (by go_simp)
        have c4_1_0 := zci w4 (w.heap.size + 1) 0 (wH (d)) (by go_simp)
        have c4_1_1 := zcu w4 (w.heap.size + 1) 1 (wL (d)) (by go_simp)
        have c4_2_0 := zci w4 bq 0 (wH (q + q)) (by go_simp)
        have g4_2_0 := zfe w4 bq 0 (by go_simp)
        have c4_2_1 := zcu w4 bq 1 (wL (q + q)) (by go_simp)
        have g4_2_1 := zfe w4 bq 1 (by go_simp)
        have c4_3_0 := zci w4 br 0 (wH (r + r)) (by go_simp)
        have g4_3_0 := zfe w4 br 0 (by go_simp)
        have c4_3_1 := zcu w4 br 1 (wL (r + r)) (by go_simp)
        have g4_3_1 := zfe w4 br 1 (by go_simp)
        clear hc4 hf4 c3_0_0 c3_0_1 c3_1_0 c3_1_1 c3_2_0 g3_2_0 c3_2_1 g3_2_1 c3_3_0 g3_3_0 c3_3_1 g3_3_1
        go_wp2_with fail
        refine QT.tail_b 4 (by kernel_rfl) (by kernel_rfl) ?_
        simp only [List.take_succ_cons, List.take_zero, List.drop_succ_cons, List.drop_zero]
        repeat (first
         | go_big_quiet_skip
         | (go_big_quiet_want; go_big_quiet_op; first
          | go_big_quiet_on
          | (apply Exists.intro
             refine ⟨fun _ => ?_, ?_⟩
             ·first
              | rfl
              | (intro hC; obtain ⟨hcq, hfq⟩ := bcellB hC; go_simp; done)
              | (intro hC; obtain ⟨hcq, hfq⟩ := bcellB hC; go_simp; rfl)
              | (intro hC; have hcq := bcellG hC; go_simp; done)
              | (intro hC; have hcq := bcellG hC; go_simp; rfl)
              | (intro hC; go_at_call 111; (first | (with_reducible refine (rminus d HDR.out _).mono ?_)); (intro e w2 hw; exact ⟨hw.1, qtrans (by simp) hC hw.2⟩))
              | (intro hC; go_at_call 78; (first | (with_reducible refine (rplus (r + r) (-d) HR1.out HMD.out HSUB.out _).mono ?_)); (intro e w2 hw; exact ⟨hw.1, qtrans (by simp) hC hw.2⟩))
             go_big_quiet_on)))
        refine wpQuiet_nil ?_
        intro w9 hC9
        obtain ⟨hc9, hf9⟩ := bcellB hC9
        have hz9 := hC9.size
        try simp only [World.size_alloc, World.size_setCell] at hz9
        have : w.heap.size < w9.heap.size := by omega
        have : w.heap.size + 1 < w9.heap.size := by omega
        have : w.heap.size + 1 + 1 < w9.heap.size := by omega
        have : w.heap.size + 1 + 1 + 1 < w9.heap.size := by omega
        have : bq < w9.heap.size := by omega
        have : br < w9.heap.size := by omega
        have c9_0_0 := zci w9 w.heap.size 0 (wH (n)) (by go_simp)
        have c9_0_1 := zcu w9 w.heap.size 1 (wL (n)) (by go_simp)
        have c9_1_0 := zci w9 (w.heap.size + 1) 0 (wH (d)) (by go_simp)
        have c9_1_1 := zcu w9 (w.heap.size + 1) 1 (wL (d)) (by go_simp)
        have c9_2_0 := zci w9 bq 0 (wH (q + q)) (by go_simp)
        have g9_2_0 := zfe w9 bq 0 (by go_simp)
        have c9_2_1 := zcu w9 bq 1 (wL (q + q)) (by go_simp)
        have g9_2_1 := zfe w9 bq 1 (by go_simp)
        have c9_3_0 := zci w9 br 0 (wH (r + r)) (by go_simp)
        have g9_3_0 := zfe w9 br 0 (by go_simp)
        have c9_3_1 := zcu w9 br 1 (wL (r + r)) (by go_simp)
        have g9_3_1 := zfe w9 br 1 (by go_simp)
        clear hc9 hf9 c4_0_0 c4_0_1 c4_1_0 c4_1_1 c4_2_0 g4_2_0 c4_2_1 g4_2_1 c4_3_0 g4_3_0 c4_3_1 g4_3_1
        go_wp2_with fail
        refine (rplus1 (q + q) (by have := HQ.out; constructor <;> omega) (by have := HQ.out; constructor <;> omega) _).mono ?_
        rintro e w20 ⟨rfl, hb20⟩
        obtain ⟨hc20, hf20⟩ := bcell hb20
        have hz20 := hb20.size
        try simp only [World.size_alloc, World.size_setCell] at hz20
        try refine zw4 w w20 (by omega) fun _ _ _ _ _ _ _ _ => ?_
        try refine zb bq w20 (by omega) fun _ _ => ?_
        try refine zb br w20 (by omega) fun _ _ => ?_
        have c20_0_0 := zci w20 w.heap.size 0 (wH (n)) (by go_simp)
        have c20_0_1 := zcu w20 w.heap.size 1 (wL (n)) (by go_simp)
        have c20_1_0 := zci w20 (w.heap.size + 1) 0 (wH (d)) (by go_simp)
        have c20_1_1 := zcu w20 (w.heap.size + 1) 1 (wL (d)) (by go_simp)
        have c20_2_0 := zci w20 bq 0 (wH (q + q)) (by go_simp)
        have g20_2_0 := zfe w20 bq 0 (by go_simp)
        have c20_2_1 := zcu w20 bq 1 (wL (q + q)) (by go_simp)
        have g20_2_1 := zfe w20 bq 1 (by go_simp)
        have c20_3_0 := zci w20 br 0 (wH (r + r + -d)) (by go_simp)
        have g20_3_0 := zfe w20 br 0 (by go_simp)
        have c20_3_1 := zcu w20 br 1 (wL (r + r + -d)) (by go_simp)
        have g20_3_1 := zfe w20 br 1 (by go_simp)
        clear hc20 hf20 c9_0_0 c9_0_1 c9_1_0 c9_1_1 c9_2_0 g9_2_0 c9_2_1 g9_2_1 c9_3_0 g9_3_0 c9_3_1 g9_3_1
        go_wp2
        go_roundw
        case rel =>
         exact ⟨m - 1, q + q + 1, r + r + -d, rfl, by omega, by omega, by have := div_sub (0) hm0 HEQ.out (ite_f HBT.out); rwa [Int.add_zero] at this, by have := HGE.out; omega, by have := HGE.out; omega, by omega, ⟨HI.out.inv.next (by repeat (first | exact Below.refl _ _ | refine Below.setCell ?_ (by first | omega | (simp <;> omega)) _ | refine Below.alloc ?_ (by first | omega | (simp <;> omega)) _ | refine Below.drew ?_ | refine Below.trans ?_ (Below.mono (by assumption) (by first | omega | (simp [World.setCell] <;> omega))))), HI.out.lo, HI.out.lt, by have := HI.out.sz; (try simp only [World.size_setCell]); omega, by go_simp, by go_simp, by go_simp, by go_simp, by go_simp, by go_simp, by go_simp, by go_simp⟩⟩
        case measure => simp [intOf]; omega

      ·have HBT := hide hbt
       clear hbt
       by_cases hge : r + r + 1 < d
       ·have HGE := hide hge
        clear hge
        have HQ := hide (div_bd (div_same (1) hm0 HEQ.out (ite_t HBT.out)) HN.out hd0 (by omega) (by omega))
        go_wp2_with fail
        refine (rtwice r (by constructor <;> omega) (by constructor <;> omega) _).mono ?_
        rintro e w1 ⟨rfl, hb1⟩
        obtain ⟨hc1, hf1⟩ := bcell hb1
        have hz1 := hb1.size
        try simp only [World.size_alloc, World.size_setCell] at hz1
        try refine zw4 w w1 (by omega) fun _ _ _ _ _ _ _ _ => ?_
        try refine zb bq w1 (by omega) fun _ _ => ?_
        try refine zb br w1 (by omega) fun _ _ => ?_
        have c1_0_0 := zci w1 w.heap.size 0 (wH (n)) (by go_simp)
        have c1_0_1 := zcu w1 w.heap.size 1 (wL (n)) (by go_simp)
        have c1_1_0 := zci w1 (w.heap.size + 1) 0 (wH (d)) (by go_simp)
        have c1_1_1 := zcu w1 (w.heap.size + 1) 1 (wL (d)) (by go_simp)
        have c1_2_0 := zci w1 bq 0 (wH (q)) (by go_simp)
        have g1_2_0 := zfe w1 bq 0 (by go_simp)
        have c1_2_1 := zcu w1 bq 1 (wL (q)) (by go_simp)
        have g1_2_1 := zfe w1 bq 1 (by go_simp)
        have c1_3_0 := zci w1 br 0 (wH (r)) (by go_simp)
        have g1_3_0 := zfe w1 br 0 (by go_simp)
        have c1_3_1 := zcu w1 br 1 (wL (r)) (by go_simp)
        have g1_3_1 := zfe w1 br 1 (by go_simp)
        clear hc1 hf1
        go_wp2_with fail
        refine (rbit_i n m HN.out (by omega) true HBT.out _).mono ?_
        rintro e w2 ⟨rfl, hb2⟩
        obtain ⟨hc2, hf2⟩ := bcell hb2
        have hz2 := hb2.size
        try simp only [World.size_alloc, World.size_setCell] at hz2
        try refine zw4 w w2 (by omega) fun _ _ _ _ _ _ _ _ => ?_
        try refine zb bq w2 (by omega) fun _ _ => ?_
        try refine zb br w2 (by omega) fun _ _ => ?_
        have c2_0_0 := zci w2 w.heap.size 0 (wH (n)) (by go_simp)
        have c2_0_1 := zcu w2 w.heap.size 1 (wL (n)) (by go_simp)
        have c2_1_0 := zci w2 (w.heap.size + 1) 0 (wH (d)) (by go_simp)
        have c2_1_1 := zcu w2 (w.heap.size + 1) 1 (wL (d)) (by go_simp)
        have c2_2_0 := zci w2 bq 0 (wH (q)) (by go_simp)
        have g2_2_0 := zfe w2 bq 0 (by go_simp)
        have c2_2_1 := zcu w2 bq 1 (wL (q)) (by go_simp)
        have g2_2_1 := zfe w2 bq 1 (by go_simp)
        have c2_3_0 := zci w2 br 0 (wH (r + r)) (by go_simp)
        have g2_3_0 := zfe w2 br 0 (by go_simp)
        have c2_3_1 := zcu w2 br 1 (wL (r + r)) (by go_simp)
        have g2_3_1 := zfe w2 br 1 (by go_simp)
        clear hc2 hf2 c1_0_0 c1_0_1 c1_1_0 c1_1_1 c1_2_0 g1_2_0 c1_2_1 g1_2_1 c1_3_0 g1_3_0 c1_3_1 g1_3_1
        go_wp2_with fail
        refine (rplus1 (r + r) (by constructor <;> omega) (by constructor <;> omega) _).mono ?_
        rintro e w3 ⟨rfl, hb3⟩
        obtain ⟨hc3, hf3⟩ := bcell hb3
        have hz3 := hb3.size
        try simp only [World.size_alloc, World.size_setCell] at hz3
        try refine zw4 w w3 (by omega) fun _ _ _ _ _ _ _ _ => ?_
        try refine zb bq w3 (by omega) fun _ _ => ?_
        try refine zb br w3 (by omega) fun _ _ => ?_
        have c3_0_0 := zci w3 w.heap.size 0 (wH (n)) (by go_simp)
        have c3_0_1 := zcu w3 w.heap.size 1 (wL (n)) (by go_simp)
        have c3_1_0 := zci w3 (w.heap.size + 1) 0 (wH (d)) (by go_simp)
        have c3_1_1 := zcu w3 (w.heap.size + 1) 1 (wL (d)) (by go_simp)
        have c3_2_0 := zci w3 bq 0 (wH (q)) (by go_simp)
        have g3_2_0 := zfe w3 bq 0 (by go_simp)
        have c3_2_1 := zcu w3 bq 1 (wL (q)) (by go_simp)
        have g3_2_1 := zfe w3 bq 1 (by go_simp)
        have c3_3_0 := zci w3 br 0 (wH (r + r)) (by go_simp)
        have g3_3_0 := zfe w3 br 0 (by go_simp)
        have c3_3_1 := zcu w3 br 1 (wL (r + r)) (by go_simp)
        have g3_3_1 := zfe w3 br 1 (by go_simp)
        clear hc3 hf3 c2_0_0 c2_0_1 c2_1_0 c2_1_1 c2_2_0 g2_2_0 c2_2_1 g2_2_1 c2_3_0 g2_3_0 c2_3_1 g2_3_1
        go_wp2_with fail
        refine (rtwice q (by have := HQ.out; constructor <;> omega) (by have := HQ.out; constructor <;> omega) _).mono ?_
        rintro e w4 ⟨rfl, hb4⟩
        obtain ⟨hc4, hf4⟩ := bcell hb4
        have hz4 := hb4.size
        try simp only [World.size_alloc, World.size_setCell] at hz4
        try refine zw4 w w4 (by omega) fun _ _ _ _ _ _ _ _ => ?_
        try refine zb bq w4 (by omega) fun _ _ => ?_
        try refine zb br w4 (by omega) fun _ _ => ?_
        have c4_0_0 := zci w4 w.heap.size 0 (wH (n)) (by go_simp)
        have c4_0_1 := zcu w4 w.heap.size 1 (wL (n)) (by go_simp)
        have c4_1_0 := zci w4 (w.heap.size + 1) 0 (wH (d)) (by go_simp)
        have c4_1_1 := zcu w4 (w.heap.size + 1) 1 (wL (d)) (by go_simp)
        have c4_2_0 := zci w4 bq 0 (wH (q)) (by go_simp)
        have g4_2_0 := zfe w4 bq 0 (by go_simp)
        have c4_2_1 := zcu w4 bq 1 (wL (q)) (by go_simp)
        have g4_2_1 := zfe w4 bq 1 (by go_simp)
        have c4_3_0 := zci w4 br 0 (wH (r + r + 1)) (by go_simp)
        have g4_3_0 := zfe w4 br 0 (by go_simp)
        have c4_3_1 := zcu w4 br 1 (wL (r + r + 1)) (by go_simp)
        have g4_3_1 := zfe w4 br 1 (by go_simp)
        clear hc4 hf4 c3_0_0 c3_0_1 c3_1_0 c3_1_1 c3_2_0 g3_2_0 c3_2_1 g3_2_1 c3_3_0 g3_3_0 c3_3_1 g3_3_1
        go_wp2_with fail
        refine (rless_r (r + r + 1) d true (by rw [decide_eq_true_eq]; exact HGE.out) _).mono ?_
        rintro e w5 ⟨rfl, hb5⟩
        obtain ⟨hc5, hf5⟩ := bcell hb5
        have hz5 := hb5.size
        try simp only [World.size_alloc, World.size_setCell] at hz5
        try refine zw4 w w5 (by omega) fun _ _ _ _ _ _ _ _ => ?_
        try refine zb bq w5 (by omega) fun _ _ => ?_
        try refine zb br w5 (by omega) fun _ _ => ?_
        have c5_0_0 := zci w5 w.heap.size 0 (wH (n)) (by go_simp)
        have c5_0_1 := zcu w5 w.heap.size 1 (wL (n)) (by go_simp)
        have c5_1_0 := zci w5 (w.heap.size + 1) 0 (wH (d)) (by go_simp)
        have c5_1_1 := zcu w5 (w.heap.size + 1) 1 (wL (d)) (by go_simp)
        have c5_2_0 := zci w5 bq 0 (wH (q + q)) (by go_simp)
        have g5_2_0 := zfe w5 bq 0 (by go_simp)
        have c5_2_1 := zcu w5 bq 1 (wL (q + q)) (by go_simp)
        have g5_2_1 := zfe w5 bq 1 (by go_simp)
        have c5_3_0 := zci w5 br 0 (wH (r + r + 1)) (by go_simp)
        have g5_3_0 := zfe w5 br 0 (by go_simp)
        have c5_3_1 := zcu w5 br 1 (wL (r + r + 1)) (by go_simp)
        have g5_3_1 := zfe w5 br 1 (by go_simp)
        clear hc5 hf5 c4_0_0 c4_0_1 c4_1_0 c4_1_1 c4_2_0 g4_2_0 c4_2_1 g4_2_1 c4_3_0 g4_3_0 c4_3_1 g4_3_1
        go_wp2
        go_roundw
        case rel =>
         exact ⟨m - 1, q + q, r + r + 1, rfl, by omega, by omega, by have := div_same (1) hm0 HEQ.out (ite_t HBT.out); exact this, by have := HGE.out; omega, by have := HGE.out; omega, by omega, ⟨HI.out.inv.next (by repeat (first | exact Below.refl _ _ | refine Below.setCell ?_ (by first | omega | (simp <;> omega)) _ | refine Below.alloc ?_ (by first | omega | (simp <;> omega)) _ | refine Below.drew ?_ | refine Below.trans ?_ (Below.mono (by assumption) (by first | omega | (simp [World.setCell] <;> omega))))), HI.out.lo, HI.out.lt, by have := HI.out.sz; (try simp only [World.size_setCell]); omega, by go_simp, by go_simp, by go_simp, by go_simp, by go_simp, by go_simp, by go_simp, by go_simp⟩⟩
        case measure => simp [intOf]; omega
       ·have HGE := hide hge
        clear hge
        have HQ := hide (div_bd (div_sub (1) hm0 HEQ.out (ite_t HBT.out)) HN.out hd0 (by omega) (by have := HGE.out; omega))
        have HR1 : Hid (R127 (r + r + 1)) := hide (by constructor <;> omega)
        have HMD : Hid (R127 (-d)) := hide (by constructor <;> omega)
        have HSUB : Hid (R127 (r + r + 1 + -d)) := hide (by constructor <;> omega)
        go_wp2_with fail
        refine (rtwice r (by constructor <;> omega) (by constructor <;> omega) _).mono ?_
        rintro e w1 ⟨rfl, hb1⟩
        obtain ⟨hc1, hf1⟩ := bcell hb1
        have hz1 := hb1.size
        try simp only [World.size_alloc, World.size_setCell] at hz1
        try refine zw4 w w1 (by omega) fun _ _ _ _ _ _ _ _ => ?_
        try refine zb bq w1 (by omega) fun _ _ => ?_
        try refine zb br w1 (by omega) fun _ _ => ?_
        have c1_0_0 := zci w1 w.heap.size 0 (wH (n)) (by go_simp)
        have c1_0_1 := zcu w1 w.heap.size 1 (wL (n)) (by go_simp)
        have c1_1_0 := zci w1 (w.heap.size + 1) 0 (wH (d)) (by go_simp)
        have c1_1_1 := zcu w1 (w.heap.size + 1) 1 (wL (d)) (by go_simp)
        have c1_2_0 := zci w1 bq 0 (wH (q)) (by go_simp)
        have g1_2_0 := zfe w1 bq 0 (by go_simp)
        have c1_2_1 := zcu w1 bq 1 (wL (q)) (by go_simp)
        have g1_2_1 := zfe w1 bq 1 (by go_simp)
        have c1_3_0 := zci w1 br 0 (wH (r)) (by go_simp)
        have g1_3_0 := zfe w1 br 0 (by go_simp)
        have c1_3_1 := zcu w1 br 1 (wL (r)) (by go_simp)
        have g1_3_1 := zfe w1 br 1 (by go_simp)
        clear hc1 hf1
        go_wp2_with fail
        refine (rbit_i n m HN.out (by omega) true HBT.out _).mono ?_
        rintro e w2 ⟨rfl, hb2⟩
        obtain ⟨hc2, hf2⟩ := bcell hb2
        have hz2 := hb2.size
        try simp only [World.size_alloc, World.size_setCell] at hz2
        try refine zw4 w w2 (by omega) fun _ _ _ _ _ _ _ _ => ?_
        try refine zb bq w2 (by omega) fun _ _ => ?_
        try refine zb br w2 (by omega) fun _ _ => ?_
        have c2_0_0 := zci w2 w.heap.size 0 (wH (n)) (by go_simp)
        have c2_0_1 := zcu w2 w.heap.size 1 (wL (n)) (by go_simp)
        have c2_1_0 := zci w2 (w.heap.size + 1) 0 (wH (d)) (by go_simp)
        have c2_1_1 := zcu w2 (w.heap.size + 1) 1 (wL (d)) (by go_simp)
        have c2_2_0 := zci w2 bq 0 (wH (q)) (by go_simp)
        have g2_2_0 := zfe w2 bq 0 (by go_simp)
        have c2_2_1 := zcu w2 bq 1 (wL (q)) (by go_simp)
        have g2_2_1 := zfe w2 bq 1 (by go_simp)
        have c2_3_0 := zci w2 br 0 (wH (r + r)) (by go_simp)
        have g2_3_0 := zfe w2 br 0 (by go_simp)
        have c2_3_1 := zcu w2 br 1 (wL (r + r)) (by go_simp)
        have g2_3_1 := zfe w2 br 1 (by go_simp)
        clear hc2 hf2 c1_0_0 c1_0_1 c1_1_0 c1_1_1 c1_2_0 g1_2_0 c1_2_1 g1_2_1 c1_3_0 g1_3_0 c1_3_1 g1_3_1
        go_wp2_with fail
        refine (rplus1 (r + r) (by constructor <;> omega) (by constructor <;> omega) _).mono ?_
        rintro e w3 ⟨rfl, hb3⟩
        obtain ⟨hc3, hf3⟩ := bcell hb3
        have hz3 := hb3.size
        try simp only [World.size_alloc, World.size_setCell] at hz3
        try refine zw4 w w3 (by omega) fun _ _ _ _ _ _ _ _ => ?_
        try refine zb bq w3 (by omega) fun _ _ => ?_
        try refine zb br w3 (by omega) fun _ _ => ?_
        have c3_0_0 := zci w3 w.heap.size 0 (wH (n)) (by go_simp)
        have c3_0_1 := zcu w3 w.heap.size 1 (wL (n)) (by go_simp)
        have c3_1_0 := zci w3 (w.heap.size + 1) 0 (wH (d)) (by go_simp)
        have c3_1_1 := zcu w3 (w.heap.size + 1) 1 (wL (d)) (by go_simp)
        have c3_2_0 := zci w3 bq 0 (wH (q)) (by go_simp)
        have g3_2_0 := zfe w3 bq 0 (by go_simp)
        have c3_2_1 := zcu w3 bq 1 (wL (q)) (by go_simp)
        have g3_2_1 := zfe w3 bq 1 (by go_simp)
        have c3_3_0 := zci w3 br 0 (wH (r + r)) (by go_simp)
        have g3_3_0 := zfe w3 br 0 (by go_simp)
        have c3_3_1 := zcu w3 br 1 (wL (r + r)) (by go_simp)
        have g3_3_1 := zfe w3 br 1 (by go_simp)
        clear hc3 hf3 c2_0_0 c2_0_1 c2_1_0 c2_1_1 c2_2_0 g2_2_0 c2_2_1 g2_2_1 c2_3_0 g2_3_0 c2_3_1 g2_3_1
        go_wp2_with fail
        refine (rtwice q (by have := HQ.out; constructor <;> omega) (by have := HQ.out; constructor <;> omega) _).mono ?_
        rintro e w4 ⟨rfl, hb4⟩
        obtain ⟨hc4, hf4⟩ := bcell hb4
        have hz4 := hb4.size
        try simp only [World.size_alloc, World.size_setCell] at hz4
        try refine zw4 w w4 (by omega) fun _ _ _ _ _ _ _ _ => ?_
        try refine zb bq w4 (by omega) fun _ _ => ?_
        try refine zb br w4 (by omega) fun _ _ => ?_
        have c4_0_0 := zci w4 w.heap.size 0 (wH (n)) (by go_simp)
        have c4_0_1 := zcu w4 w.heap.size 1 (wL (n)) (by go_simp)
        have c4_1_0 := zci w4 (w.heap.size + 1) 0 (wH (d)) (by go_simp)
        have c4_1_1 := zcu w4 (w.heap.size + 1) 1 (wL (d)) (by go_simp)
        have c4_2_0 := zci w4 bq 0 (wH (q)) (by go_simp)
        have g4_2_0 := zfe w4 bq 0 (by go_simp)
        have c4_2_1 := zcu w4 bq 1 (wL (q)) (by go_simp)
        have g4_2_1 := zfe w4 bq 1 (by go_simp)
        have c4_3_0 := zci w4 br 0 (wH (r + r + 1)) (by go_simp)
        have g4_3_0 := zfe w4 br 0 (by go_simp)
        have c4_3_1 := zcu w4 br 1 (wL (r + r + 1)) (by go_simp)
        have g4_3_1 := zfe w4 br 1 (by go_simp)
        clear hc4 hf4 c3_0_0 c3_0_1 c3_1_0 c3_1_1 c3_2_0 g3_2_0 c3_2_1 g3_2_1 c3_3_0 g3_3_0 c3_3_1 g3_3_1
        go_wp2_with fail
        refine (rless_r (r + r + 1) d false (by rw [decide_eq_false_iff_not]; have := HGE.out; omega) _).mono ?_
        rintro e w5 ⟨rfl, hb5⟩
        obtain ⟨hc5, hf5⟩ := bcell hb5
        have hz5 := hb5.size
        try simp only [World.size_alloc, World.size_setCell] at hz5
        try refine zw4 w w5 (by omega) fun _ _ _ _ _ _ _ _ => ?_
        try refine zb bq w5 (by omega) fun _ _ => ?_
        try refine zb br w5 (by omega) fun _ _ => ?_
        have c5_0_0 := zci w5 w.heap.size 0 (wH (n)) (by go_simp)
        have c5_0_1 := zcu w5 w.heap.size 1 (wL (n)) (by go_simp)
        have c5_1_0 := zci w5 (w.heap.size + 1) 0 (wH (d)) (by go_simp)
        have c5_1_1 := zcu w5 (w.heap.size + 1) 1 (wL (d)) (by go_simp)
        have c5_2_0 := zci w5 bq 0 (wH (q + q)) (by go_simp)
        have g5_2_0 := zfe w5 bq 0 (by go_simp)
        have c5_2_1 := zcu w5 bq 1 (wL (q + q)) (by go_simp)
        have g5_2_1 := zfe w5 bq 1 (by go_simp)
        have c5_3_0 := zci w5 br 0 (wH (r + r + 1)) (by go_simp)
        have g5_3_0 := zfe w5 br 0 (by go_simp)
        have c5_3_1 := zcu w5 br 1 (wL (r + r + 1)) (by go_simp)
        have g5_3_1 := zfe w5 br 1 (by go_simp)
        clear hc5 hf5 c4_0_0 c4_0_1 c4_1_0 c4_1_1 c4_2_0 g4_2_0 c4_2_1 g4_2_1 c4_3_0 g4_3_0 c4_3_1 g4_3_1
        go_wp2_with fail
        refine QT.tail_b 4 (by kernel_rfl) (by kernel_rfl) ?_
        simp only [List.take_succ_cons, List.take_zero, List.drop_succ_cons, List.drop_zero]
        repeat (first
         | go_big_quiet_skip
         | (go_big_quiet_want; go_big_quiet_op; first
          | go_big_quiet_on
          | (apply Exists.intro
             refine ⟨fun _ => ?_, ?_⟩
             ·first
              | rfl
              | (intro hC; obtain ⟨hcq, hfq⟩ := bcellB hC; go_simp; done)
              | (intro hC; obtain ⟨hcq, hfq⟩ := bcellB hC; go_simp; rfl)
              | (intro hC; have hcq := bcellG hC; go_simp; done)
              | (intro hC; have hcq := bcellG hC; go_simp; rfl)
              | (intro hC; go_at_call 111; (first | (with_reducible refine (rminus d HDR.out _).mono ?_)); (intro e w2 hw; exact ⟨hw.1, qtrans (by simp) hC hw.2⟩))
              | (intro hC; go_at_call 78; (first | (with_reducible refine (rplus (r + r + 1) (-d) HR1.out HMD.out HSUB.out _).mono ?_)); (intro e w2 hw; exact ⟨hw.1, qtrans (by simp) hC hw.2⟩))
             go_big_quiet_on)))
        refine wpQuiet_nil ?_
        intro w9 hC9
        obtain ⟨hc9, hf9⟩ := bcellB hC9
        have hz9 := hC9.size
        try simp only [World.size_alloc, World.size_setCell] at hz9
        have : w.heap.size < w9.heap.size := by omega
        have : w.heap.size + 1 < w9.heap.size := by omega
        have : w.heap.size + 1 + 1 < w9.heap.size := by omega
        have : w.heap.size + 1 + 1 + 1 < w9.heap.size := by omega
        have : bq < w9.heap.size := by omega
        have : br < w9.heap.size := by omega
        have c9_0_0 := zci w9 w.heap.size 0 (wH (n)) (by go_simp)
        have c9_0_1 := zcu w9 w.heap.size 1 (wL (n)) (by go_simp)
        have c9_1_0 := zci w9 (w.heap.size + 1) 0 (wH (d)) (by go_simp)
        have c9_1_1 := zcu w9 (w.heap.size + 1) 1 (wL (d)) (by go_simp)
        have c9_2_0 := zci w9 bq 0 (wH (q + q)) (by go_simp)
        have g9_2_0 := zfe w9 bq 0 (by go_simp)
        have c9_2_1 := zcu w9 bq 1 (wL (q + q)) (by go_simp)
        have g9_2_1 := zfe w9 bq 1 (by go_simp)
        have c9_3_0 := zci w9 br 0 (wH (r + r + 1)) (by go_simp)
        have g9_3_0 := zfe w9 br 0 (by go_simp)
        have c9_3_1 := zcu w9 br 1 (wL (r + r + 1)) (by go_simp)
        have g9_3_1 := zfe w9 br 1 (by go_simp)
        clear hc9 hf9 c5_0_0 c5_0_1 c5_1_0 c5_1_1 c5_2_0 g5_2_0 c5_2_1 g5_2_1 c5_3_0 g5_3_0 c5_3_1 g5_3_1
        go_wp2_with fail
        refine (rplus1 (q + q) (by have := HQ.out; constructor <;> omega) (by have := HQ.out; constructor <;> omega) _).mono ?_
        rintro e w20 ⟨rfl, hb20⟩
        obtain ⟨hc20, hf20⟩ := bcell hb20
        have hz20 := hb20.size
        try simp only [World.size_alloc, World.size_setCell] at hz20
        try refine zw4 w w20 (by omega) fun _ _ _ _ _ _ _ _ => ?_
        try refine zb bq w20 (by omega) fun _ _ => ?_
        try refine zb br w20 (by omega) fun _ _ => ?_
        have c20_0_0 := zci w20 w.heap.size 0 (wH (n)) (by go_simp)
        have c20_0_1 := zcu w20 w.heap.size 1 (wL (n)) (by go_simp)
        have c20_1_0 := zci w20 (w.heap.size + 1) 0 (wH (d)) (by go_simp)
        have c20_1_1 := zcu w20 (w.heap.size + 1) 1 (wL (d)) (by go_simp)
        have c20_2_0 := zci w20 bq 0 (wH (q + q)) (by go_simp)
        have g20_2_0 := zfe w20 bq 0 (by go_simp)
        have c20_2_1 := zcu w20 bq 1 (wL (q + q)) (by go_simp)
        have g20_2_1 := zfe w20 bq 1 (by go_simp)
        have c20_3_0 := zci w20 br 0 (wH (r + r + 1 + -d)) (by go_simp)
        have g20_3_0 := zfe w20 br 0 (by go_simp)
        have c20_3_1 := zcu w20 br 1 (wL (r + r + 1 + -d)) (by go_simp)
        have g20_3_1 := zfe w20 br 1 (by go_simp)
        clear hc20 hf20 c9_0_0 c9_0_1 c9_1_0 c9_1_1 c9_2_0 g9_2_0 c9_2_1 g9_2_1 c9_3_0 g9_3_0 c9_3_1 g9_3_1
        go_wp2
        go_roundw
        case rel =>
         exact ⟨m - 1, q + q + 1, r + r + 1 + -d, rfl, by omega, by omega, by have := div_sub (1) hm0 HEQ.out (ite_t HBT.out); exact this, by have := HGE.out; omega, by have := HGE.out; omega, by omega, ⟨HI.out.inv.next (by repeat (first | exact Below.refl _ _ | refine Below.setCell ?_ (by first | omega | (simp <;> omega)) _ | refine Below.alloc ?_ (by first | omega | (simp <;> omega)) _ | refine Below.drew ?_ | refine Below.trans ?_ (Below.mono (by assumption) (by first | omega | (simp [World.setCell] <;> omega))))), HI.out.lo, HI.out.lt, by have := HI.out.sz; (try simp only [World.size_setCell]); omega, by go_simp, by go_simp, by go_simp, by go_simp, by go_simp, by go_simp, by go_simp, by go_simp⟩⟩
        case measure => simp [intOf]; omega
     ·have HE := hide (div_end (show DivEq n d (-1) q r by have h := HEQ.out; rwa [show m = -1 by omega] at h) hr0 hr1)
      go_wp2_with fail
      go_region
      all_goals go_wp2
      all_goals rw [HE.out.1, HE.out.2]
      all_goals refine bodyPost_ret (v := .tuple #[.agg #[.int .i64 (wH (q)), .int .u64 (wL (q))], .agg #[.int .i64 (wH (r)), .int .u64 (wL (r))]]) (by simp only [results, Try.results134]; go_simp) rfl ⟨rfl, blw_⟩
end
section
open Go.RowKit
def mi (x y : Int) : Int := if y < x then y else x
def mx (x y : Int) : Int := if x < y then y else x
theorem mi_eq (x y : Int) : (if y < x then y else x) = mi x y := rfl
theorem mx_eq (x y : Int) : (if x < y then y else x) = mx x y := rfl
theorem sboth (al ah bl bh : Int) (w : World) :
  Calls Try.prog 131 #[.agg #[.int .i64 (al), .int .i64 (ah)], .agg #[.int .i64 (bl), .int .i64 (bh)]] w fun e w' => e = .returned (.agg #[.int .i64 (mi al bl), .int .i64 (mx ah bh)]) ∧ Below w.heap.size w w' := by
 have m1 := mi_eq al bl
 have m2 := mx_eq ah bh
 go_enter Try.func131, Try.ntmps131
 go_wp2
 refine bodyPost_ret (v := .agg #[.int .i64 (mi al bl), .int .i64 (mx ah bh)]) (by simp only [results, Try.results131]; go_simp) rfl ⟨rfl, blw_⟩
end
section
namespace QF
section
variable {P : Program} {ops : Array Oper} {md : Region.Mode} {D : Option Value → World → Prop}

def floatRes (r : Result Next) (R : Value → World → Prop) : Prop :=
 match r with
 | .ok (.value u) w' => R u w'
 | .ok .skip w' => R undef w'
 | _ => False
theorem floatRes_mono {r : Result Next} {R R' : Value → World → Prop} (h : ∀ u w, R u w → R' u w) (hr : floatRes r R) : floatRes r R' := by
 unfold floatRes at *
 split <;> first | exact h _ _ (by simpa using hr) | (simp_all)

def goF (P : Program) (md : Region.Mode) (ops : Array Oper) (D : Option Value → World → Prop) (n : Nat) (L : Option Value → Array Bool → Act → Prop) : Nat → Option Value → Array Bool → Act → Prop
 | 0, fl, done, a => L fl done a
 | k + 1, fl, done, a => Region.ready md ops done ≠ [] ∧ ∀ i ∈ Region.ready md ops done, ∀ o, ops[i]? = some o →
   (i < n ∧ ∃ v, (∀ j, YieldsIn P ops (D j) o v a) ∧ goF P md ops D n L k fl (done.setIfInBounds i true) (a.put o.dst v)) ∨
   (i = n ∧ fl = none ∧ Region.wanted o (yielded ops a.tmps) = true ∧ ∀ w, D none w → floatRes ((execOp a.eval o).run P w) fun u w' => D (some u) w' ∧ goF P md ops D n L k (some u) (done.setIfInBounds i true) (a.put o.dst u))

theorem any_of_goF {n g : Nat} {L : Option Value → Array Bool → Act → Prop} {R : Exit → Act → World → Prop} (hL : ∀ fl done a w, D fl w → L fl done a → wpAny P md ops R g done a w) (k : Nat) :
  ∀ (fl : Option Value) (done : Array Bool) (a : Act) (w : World), D fl w → goF P md ops D n L k fl done a → wpAny P md ops R (k + g) done a w := by
 induction k with
 | zero => intro fl done a w hw h; rw [Nat.zero_add]; exact hL _ _ _ _ hw h
 | succ k ih =>
  intro fl done a w hw h
  rw [show k + 1 + g = (k + g) + 1 by omega]
  refine ⟨fun h0 => absurd h0 h.1, fun i hi => ?_⟩
  obtain ⟨_, o, ho, _⟩ := mem_ready.1 hi
  rcases h.2 i hi o ho with ⟨_, v, hv, hk⟩ | ⟨rfl, rfl, hwant, hf⟩
  ·exact wpOp_of_qOp (C := D fl) hw (fun a' w' hw' h' => ih fl _ a' w' hw' h') ((hv fl).qOp ho hk)
  ·have hr := hf w hw
   unfold wpOp
   simp only [ho, hwant, if_true]
   left
   unfold Oper.wp
   generalize (execOp a.eval o).run P w = r at hr
   unfold floatRes at hr
   split at hr
   ·exact ih _ _ _ _ hr.1 hr.2
   ·exact ih _ _ _ _ hr.1 hr.2
   ·exact hr.elim

theorem yields_back {o oi : Oper} {u v : Value} {a : Act} {C : World → Prop} (hap : oi.apart ops o = true) (hso : ∀ cs b, o.op ≠ .select cs b) (h : YieldsIn P ops C o u (a.put oi.dst v)) : YieldsIn P ops C o u a := by
 obtain ⟨h1, _, _⟩ := Oper.apart_spec hap
 exact h.of_same (execOp_put o hso a oi.dst v h1).symm (wanted_put o a oi.dst v h1).symm
theorem yields_on {o oi : Oper} {u v : Value} {a : Act} {C : World → Prop} (hap : oi.apart ops o = true) (hsi : ∀ cs b, oi.op ≠ .select cs b) (h : YieldsIn P ops C oi v a) : YieldsIn P ops C oi v (a.put o.dst u) := by
 obtain ⟨_, _, h3⟩ := Oper.apart_spec hap
 exact h.of_same (execOp_put oi hsi a o.dst u h3) (wanted_put oi a o.dst u h3)

theorem takeF {n i : Nat} {oi : Oper} {v : Value} {L : Option Value → Array Bool → Act → Prop} (hi : ops[i]? = some oi) (hsel : ∀ (j : Nat) (o : Oper) cs b, ops[j]? = some o → o.op ≠ .select cs b)
  (hs : Region.sinkB md ops (n + 1) = true) (hc : Region.chainB md ops (n + 1) = true) (hn : n + 1 < ops.size) (hin : i < n)
  (hend : ∀ fl done a, L fl done a → ∀ j ∈ Region.ready md ops done, n + 1 ≤ j) (k : Nat) :
  ∀ (fl : Option Value) (done : Array Bool) (a : Act), HeadInv md ops (n + 1) done →
   (∀ j oj, ops[j]? = some oj → j ≠ i → done.getD j true = false → (∀ e ∈ oj.after, Region.binds md e = true → e.on ≠ i) → oi.apart ops oj = true) →
   i ∈ Region.ready md ops done → (∀ j, YieldsIn P ops (D j) oi v a) →
   goF P md ops D n L k fl (done.setIfInBounds i true) (a.put oi.dst v) → goF P md ops D n L (k + 1) fl done a := by
 induction k with
 | zero =>
  intro fl done a inv _ hr hy H
  refine ⟨List.ne_nil_of_mem hr, fun j hj o ho => ?_⟩
  have hjn : j < n + 1 := Nat.lt_of_not_le fun hle => tail_waits hs hc hn inv _ i rfl (by omega) (mem_ready.1 hr).1 j hle hj
  by_cases hji : j = i
  ·subst hji
   obtain rfl : oi = o := Option.some.inj (hi.symm.trans ho)
   exact .inl ⟨hin, v, hy, H⟩
  ·exact absurd (hend _ _ _ H j (ready_mono hj hji)) (by omega)
 | succ k ih =>
  intro fl done a inv hfree hr hy H
  refine ⟨List.ne_nil_of_mem hr, fun j hj o ho => ?_⟩
  have hun := (mem_ready.1 hr).1
  have hjn : j < n + 1 := Nat.lt_of_not_le fun hle => tail_waits hs hc hn inv _ i rfl (by omega) hun j hle hj
  by_cases hji : j = i
  ·subst hji
   obtain rfl : oi = o := Option.some.inj (hi.symm.trans ho)
   exact .inl ⟨hin, v, hy, H⟩
  ·obtain ⟨hjun, oj, hoj, hall⟩ := mem_ready.1 hj
   obtain rfl : oj = o := Option.some.inj (hoj.symm.trans ho)
   have hno : ∀ e ∈ oj.after, Region.binds md e = true → e.on ≠ i := fun e he hb heq => by
    have h1 := hall e he hb
    rw [heq, getD_both hun] at h1
    cases h1
   have hap := hfree j oj hoj hji hjun hno
   obtain ⟨h1, h2, h3⟩ := Oper.apart_spec hap
   have inv' := inv.set hj hjn
   have hfree' : ∀ q oq, ops[q]? = some oq → q ≠ i → (done.setIfInBounds j true).getD q true = false → (∀ e ∈ oq.after, Region.binds md e = true → e.on ≠ i) → oi.apart ops oq = true := fun q oq hq hqi hqun hqno => by
    refine hfree q oq hq hqi ?_ hqno
    by_cases hjq : j = q
    ·exact hjq ▸ hjun
    ·rwa [getD_set_ne true hjq] at hqun
   rcases H.2 j (ready_mono hj hji) oj hoj with ⟨hlt, u, hu, hk⟩ | ⟨rfl, hfl, hw, hf⟩
   ·refine .inl ⟨hlt, u, fun c => yields_back hap (fun cs b => hsel j oj cs b hoj) (hu c), ?_⟩
    refine ih fl _ _ inv' hfree' (ready_mono hr (Ne.symm hji)) (fun c => yields_on hap (fun cs b => hsel i oi cs b hi) (hy c)) ?_
    rw [Array.setIfInBounds_comm _ _ hji, ← Act.put_comm a v u h2]
    exact hk
   ·refine .inr ⟨rfl, hfl, by rwa [wanted_put oj a oi.dst v h1] at hw, fun w hwD => ?_⟩
    have hr2 := hf w hwD
    rw [execOp_put oj (fun cs b => hsel _ oj cs b hoj) a oi.dst v h1] at hr2
    refine floatRes_mono (fun u w' hh => ⟨hh.1, ?_⟩) hr2
    refine ih (some u) _ _ inv' hfree' (ready_mono hr (Ne.symm hji)) (fun c => yields_on hap (fun cs b => hsel i oi cs b hi) (hy c)) ?_
    rw [Array.setIfInBounds_comm _ _ hji, ← Act.put_comm a v u h2]
    exact hh.2

def dstOk (sz : Nat) : List Oper → Bool
 | [] => true
 | o :: r => (match o.dst with | some d => decide (d < sz) && r.all (fun o' => o'.dst != some d) | none => false) && dstOk sz r
theorem put_size (a : Act) (d : Option Tmp) (v : Value) : (a.put d v).tmps.size = a.tmps.size := by
 cases d <;> simp [Act.put]
theorem slot_kept {C : World → Prop} {A : Act} {d : Nat} : ∀ (l : List Oper) (a : Act), wpQuiet P ops C (fun a' => a' = A) l a → (l.all fun o => o.dst != some d) = true → A.tmps[d]? = a.tmps[d]?
 | [], a, h, _ => by rw [show a = A from h]
 | o :: l, a, h, hd => by
  simp only [List.all_cons, Bool.and_eq_true] at hd
  have hne : o.dst ≠ some d := by simpa using hd.1
  have step : ∀ v : Value, (a.put o.dst v).tmps[d]? = a.tmps[d]? := fun v => by
   cases h2 : o.dst with
   | none => rfl
   | some e =>
    have : e ≠ d := fun he => hne (by rw [h2, he])
    simp only [Act.put]
    rw [Array.getElem?_setIfInBounds_ne this]
  have hh : (if Region.wanted o (yielded ops a.tmps) then o.quiet P a C (wpQuiet P ops C (fun a' => a' = A) l) else wpQuiet P ops C (fun a' => a' = A) l (a.put o.dst undef)) := h
  split at hh
  ·obtain ⟨v, _, hk⟩ := hh
   exact (slot_kept l _ hk hd.2).trans (step v)
  ·exact (slot_kept l _ hh hd.2).trans (step _)

def lexFB (md : Region.Mode) (ops : Array Oper) (g n : Nat) : Nat → Nat → Array Bool → Bool
 | 0, _, done => decide (Region.ready md ops done = [n]) && Region.seqB md ops g (n + 1) (done.setIfInBounds n true)
 | f + 1, k, done => (Region.ready md ops done).contains k && Region.free md ops done k && lexFB md ops g n f (k + 1) (done.setIfInBounds k true)
theorem lexF {n g : Nat} {A : Act} {L : Option Value → Array Bool → Act → Prop} (hsel : Region.noSelect ops = true) (hs : Region.sinkB md ops (n + 1) = true) (hc : Region.chainB md ops (n + 1) = true) (hn : n + 1 < ops.size)
  (hend : ∀ fl done a, L fl done a → ∀ j ∈ Region.ready md ops done, n + 1 ≤ j) {on : Oper} (hon : ops[n]? = some on) (hwant : ∀ y, Region.wanted on y = true)
  (hf : ∀ w, D none w → floatRes ((execOp A.eval on).run P w) fun u w' => D (some u) w' ∧ ∀ done, Region.ready md ops done = [n] → Region.seqB md ops g (n + 1) (done.setIfInBounds n true) = true → L (some u) (done.setIfInBounds n true) (A.put on.dst u)) :
  ∀ (l : List Oper) (k : Nat) (done : Array Bool) (a : Act), (∀ j, j < l.length → l[j]? = ops[k + j]?) → k + l.length = n → HeadInv md ops (n + 1) done → dstOk a.tmps.size l = true →
  lexFB md ops g n l.length k done = true → (∀ j, wpQuiet P ops (D j) (fun a' => a' = A) l a) → goF P md ops D n L (l.length + 1) none done a := by
 intro l
 induction l with
 | nil =>
  intro k done a _ hk _ _ hB h
  obtain rfl : k = n := by simpa using hk
  obtain rfl : a = A := h none
  simp only [List.length_nil, lexFB, Bool.and_eq_true, decide_eq_true_eq] at hB
  refine ⟨by rw [hB.1]; simp, fun i hi o ho => ?_⟩
  rw [hB.1] at hi
  obtain rfl : i = k := by simpa using hi
  obtain rfl : on = o := Option.some.inj (hon.symm.trans ho)
  exact .inr ⟨rfl, rfl, hwant _, fun w hw => floatRes_mono (fun u w' hh => ⟨hh.1, hh.2 done hB.1 hB.2⟩) (hf w hw)⟩
 | cons o l ih =>
  intro k done a hl hk inv hd hB h
  have h0 : ops[k]? = some o := by simpa using (hl 0 (by simp)).symm
  have hk' : k + (l.length + 1) = n := by simpa using hk
  simp only [List.length_cons, lexFB, Bool.and_eq_true] at hB
  obtain ⟨⟨hr, hfr⟩, hB'⟩ := hB
  have hr' : k ∈ Region.ready md ops done := by simpa using hr
  simp only [dstOk, Bool.and_eq_true] at hd
  obtain ⟨hd1, hd2⟩ := hd
  obtain ⟨d, hod, hdl, hda⟩ : ∃ d, o.dst = some d ∧ d < a.tmps.size ∧ (l.all fun o' => o'.dst != some d) = true := by
   cases h2 : o.dst with
   | none => rw [h2] at hd1; cases hd1
   | some d => rw [h2] at hd1; simp only [Bool.and_eq_true, decide_eq_true_eq] at hd1; exact ⟨d, rfl, hd1.1, hd1.2⟩
  have hv : ∀ j, ∃ v, YieldsIn P ops (D j) o v a ∧ wpQuiet P ops (D j) (fun a' => a' = A) l (a.put o.dst v) := fun j => by
   have hq : qOp P ops (D j) k (wpQuiet P ops (D j) (fun a' => a' = A) l) a := by unfold qOp; simp only [h0]; exact h j
   exact yieldsIn_of_qOp h0 hq
  obtain ⟨v, _, hw0⟩ := hv none
  have same : ∀ j, YieldsIn P ops (D j) o v a ∧ wpQuiet P ops (D j) (fun a' => a' = A) l (a.put o.dst v) := fun j => by
   obtain ⟨u, hu, hwu⟩ := hv j
   have e1 := slot_kept l _ hw0 hda
   have e2 := slot_kept l _ hwu hda
   rw [hod] at e1 e2
   simp only [Act.put] at e1 e2
   rw [Array.getElem?_setIfInBounds_self_of_lt hdl] at e1 e2
   have : u = v := Option.some.inj (e2.symm.trans e1)
   subst this
   exact ⟨hu, hwu⟩
  exact takeF h0 (Region.noSelect_spec hsel) hs hc hn (by omega) hend (l.length + 1) none done a inv (Region.free_spec h0 hfr) hr' (fun j => (same j).1)
   (ih (k + 1) _ _ (fun j hj => by have := hl (j + 1) (by simpa using hj); simpa [Nat.add_assoc, Nat.add_comm 1 j] using this) (by omega) (inv.set hr' (by omega)) (by rw [put_size]; exact hd2) hB' (fun j => (same j).2))
def floatB (md : Region.Mode) (l : List Oper) (n sz : Nat) : Bool :=
 Region.noSelect l.toArray && decide (n + 1 < l.length) && Region.sinkB md l.toArray (n + 1) && Region.chainB md l.toArray (n + 1) && dstOk sz (l.take n) && lexFB md l.toArray (l.length - (n + 1)) n n 0 (Array.replicate l.toArray.size false)

theorem region_float {id : Nat} {Q : Exit → Act → World → Prop} {a A : Act} {w : World} {l : List Oper} (n sz : Nat) (D : Option Value → World → Prop) (on : Oper) (hm : P.follows .mixedOrders = true) (hB : floatB .any l n sz = true) (hsz : a.tmps.size = sz)
  (hon : l[n]? = some on) (hg : on.guard = none) (h0 : D none w.drew)
  (h1 : ∀ j, wpQuiet P l.toArray (D j) (fun a' => a' = A) (l.take n) a)
  (hf : ∀ w', D none w' → floatRes ((execOp A.eval on).run P w') fun u w'' => D (some u) w'')
  (ht : ∀ u w', D (some u) w' → wpList P l.toArray Q (l.drop (n + 1)) (A.put on.dst u) w') : (Code.region id l.toArray true).wp P Q a w := by
 simp only [floatB, Bool.and_eq_true, decide_eq_true_eq] at hB
 obtain ⟨⟨⟨⟨⟨hsel, hn⟩, hs⟩, hc⟩, hd⟩, hlex⟩ := hB
 have hn' : n + 1 < l.toArray.size := by simpa using hn
 have htl : (l.take n).length = n := by simp; omega
 have hdl : (l.drop (n + 1)).length = l.length - (n + 1) := by simp
 have inv0 : HeadInv .any l.toArray (n + 1) (Array.replicate l.toArray.size false) :=
  ⟨by simp, fun j oj _ hl => (by rw [getD_replicate_false] at hl; cases hl), fun t _ ht => getD_in (by simpa using ht) (getD_replicate_false _ _)⟩
 have H := lexF (P := P) (D := D) (md := .any) (g := l.length - (n + 1)) (A := A)
  (L := fun fl done a' => Region.seqB .any l.toArray (l.length - (n + 1)) (n + 1) done = true ∧ ∀ w', D fl w' → wpList P l.toArray Q (l.drop (n + 1)) a' w')
  hsel hs hc hn' (fun _ _ _ hL => seqB_ready hL.1) (on := on) (by simpa using hon) (fun y => by simp [Region.wanted, hg])
  (fun w' hw' => floatRes_mono (fun u w'' hh => ⟨hh, fun done _ hq => ⟨hq, fun w3 hw3 => ht u w3 hw3⟩⟩) (hf w' hw'))
  (l.take n) 0 _ a (fun j hj => by
   have hj' : j < n := by rw [htl] at hj; exact hj
   simp [hj']) (by simpa using htl) inv0 (by rw [hsz]; exact hd) (by rw [htl]; exact hlex) h1
 refine wp_region_any hm ?_
 have := any_of_goF (R := Q) (g := l.length - (n + 1)) (fun fl done a' w' hw' hL => by
  have := wpAny_of_seq (P := P) (md := .any) (Q' := Q) (l.drop (n + 1)) (n + 1) done a' w' (fun j => by simp [List.getElem?_drop]) (by rw [hdl]; exact hL.1) (hL.2 w' hw')
  rwa [hdl] at this) _ _ _ _ _ h0 H
 rw [htl, show n + 1 + (l.length - (n + 1)) = l.toArray.size by simp; omega] at this
 exact this
end
theorem region_float_ex {P : Program} {id : Nat} {Q : Exit → Act → World → Prop} {a : Act} {w : World} {l : List Oper} (n sz : Nat) (D : Option Value → World → Prop) (on : Oper) (hm : P.follows .mixedOrders = true) (hB : floatB .any l n sz = true) (hsz : a.tmps.size = sz)
  (hon : l[n]? = some on) (hg : on.guard = none) (h0 : D none w.drew)
  (h : ∃ A, (∀ j, wpQuiet P l.toArray (D j) (fun a' => a' = A) (l.take n) a) ∧ (∀ w', D none w' → floatRes ((execOp A.eval on).run P w') fun u w'' => D (some u) w'') ∧
   (∀ u w', D (some u) w' → wpList P l.toArray Q (l.drop (n + 1)) (A.put on.dst u) w')) : (Code.region id l.toArray true).wp P Q a w :=
 let ⟨_, h1, h2, h3⟩ := h
 region_float n sz D on hm hB hsz hon hg h0 h1 h2 h3
open Go.RowKit
def FD (B : Nat) (W0 : World) (z0 z1 : Value) : Option Value → World → Prop
 | none, w => Below B W0 w
 | some u, w => Below B W0 w ∧ ∃ p : Nat, u = .pointer (some ⟨p, 0, none⟩) ∧ W0.heap.size ≤ p ∧ p < w.heap.size ∧ w.cell? ⟨p, 0, none⟩ = some z0 ∧ w.cell? ⟨p, 1, none⟩ = some z1 ∧ w.frozen? ⟨p, 0, none⟩ = false ∧ w.frozen? ⟨p, 1, none⟩ = false
theorem FD.below {B : Nat} {W0 w : World} {z0 z1 : Value} {j : Option Value} (h : FD B W0 z0 z1 j w) : Below B W0 w := by
 cases j
 ·exact h
 ·exact h.1
theorem FD.call {B : Nat} {W0 w w' : World} {z0 z1 : Value} {j : Option Value} (hB : B ≤ W0.heap.size) (h : FD B W0 z0 z1 j w) (hb : Below w.heap.size w w') : FD B W0 z0 z1 j w' := by
 cases j
 ·exact qtrans hB h hb
 ·obtain ⟨h1, p, h2, h3, h4, c0, c1, f0, f1⟩ := h
  exact ⟨qtrans hB h1 hb, p, h2, h3, Nat.lt_of_lt_of_le h4 hb.size, (hb.cell (p := ⟨p, 0, none⟩) h4).trans c0, (hb.cell (p := ⟨p, 1, none⟩) h4).trans c1, (hb.frozen (p := ⟨p, 0, none⟩) h4).trans f0, (hb.frozen (p := ⟨p, 1, none⟩) h4).trans f1⟩
theorem FD.made {B : Nat} {W0 w : World} {z0 z1 : Value} {t : TypeId} (hB : B ≤ W0.heap.size) (h : FD B W0 z0 z1 none w) : FD B W0 z0 z1 (some (.pointer (some ⟨w.heap.size, 0, none⟩))) (w.alloc (.cells #[z0, z1] t)) := by
 have h : Below B W0 w := h
 refine ⟨h.alloc (Nat.le_trans hB h.size) _, w.heap.size, rfl, h.size, by simp, by simp, by simp, by simp [go_sem], by simp [go_sem]⟩
end QF
end
end Go.Proofs.Ytacpahebbnnckaa
