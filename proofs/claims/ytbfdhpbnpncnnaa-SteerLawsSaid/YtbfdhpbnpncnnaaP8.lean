/- Packed: DivA. -/
import Derived.Test.YtbfdhpbnpncnnaaP7
set_option linter.unusedVariables false
set_option linter.unusedSimpArgs false
section
namespace Go.Proofs.Ytbfdhpbnpncnnaa
open Go.RowKit
set_option maxHeartbeats 4000000 in
theorem rdivide_b12 (n : Nat) (d : Int) (hn : n < 2 ^ 127) (hd0 : 0 < d) (hd : d < 85070591730234615865843651857942052864) (hh : (wH (n : Int) == 0) = false ∨ ((wH (n : Int) == 0) = true ∧ (wH d == 0) = false)) (w : World) :
  Calls Try.prog 74 #[.agg #[.int .i64 (wH ((n : Int))), .int .u64 (wL ((n : Int)))], .agg #[.int .i64 (wH (d)), .int .u64 (wL (d))]] w fun e w' => e = .returned (.tuple #[.agg #[.int .i64 (wH ((n : Int) / d)), .int .u64 (wL ((n : Int) / d))], .agg #[.int .i64 (wH ((n : Int) % d)), .int .u64 (wL ((n : Int) % d))]]) ∧ Below w.heap.size w w' := by
 rcases hh with hg | ⟨hg, hg2⟩
 all_goals
  have HN := hide hn
  have HDR : Hid (R126 d) := hide ⟨by omega, by omega⟩
  clear hn
  go_enter Try.func74, Try.ntmps74
  go_wp2
  go_loopw [6] (fun i wr => ∃ t : Nat, i = .int .i64 t ∧ t ≤ 127 ∧ n < 2 ^ (t + 1) ∧ DivInv w wr n d) (fun i _ => (intOf i).toNat)
  case atStart => exact ⟨127, rfl, by omega, by have := HN.out; omega, ⟨blw_, by simp, by go_simp, by go_simp, by go_simp, by go_simp, by go_simp, by go_simp, by go_simp, by go_simp, by go_simp, by go_simp, by go_simp, by go_simp⟩⟩
  case round =>
   obtain ⟨t, rfl, ht, hnt, hI⟩ := hrel
   obtain ⟨hB, hsz, cn0, cn1, cd0, cd1, cq0, cq1, cr0, cr1, fq0, fq1, fr0, fr1⟩ := hI
   have HT := hide hnt
   have HI : Hid (DivInv w wr n d) := hide ⟨hB, hsz, cn0, cn1, cd0, cd1, cq0, cq1, cr0, cr1, fq0, fq1, fr0, fr1⟩
   clear hnt
   have p0 : w.heap.size < wr.heap.size := by omega
   have p1 : w.heap.size + 1 < wr.heap.size := by omega
   have p2 : w.heap.size + 1 + 1 < wr.heap.size := by omega
   by_cases h0 : 0 < t
   ·cases hbt : bitB n t
    ·have HBT := hide hbt
     clear hbt
     go_wp2_with fail
     refine (rbit n t (by have := HN.out; omega) (by omega) false HBT.out _).mono ?_
     rintro e w1 ⟨rfl, hb1⟩
     obtain ⟨hc1, hf1⟩ := bcell hb1
     have hz1 := hb1.size
     go_wp2
     go_roundw
     case rel => exact ⟨t - 1, by go_num, by omega, by have := tb_step n t HT.out HBT.out; rw [show t - 1 + 1 = t by omega]; exact this, HI.out.next (hb1.mono (by omega))⟩
     case measure => simp [intOf]; omega
    ·have HBT := hide hbt
     clear hbt
     go_wp2_with fail
     refine (rbit n t (by have := HN.out; omega) (by omega) true HBT.out _).mono ?_
     rintro e w1 ⟨rfl, hb1⟩
     have HI1 := hide (HI.out.next (hb1.mono (by omega)))
     clear cn0 cn1 cd0 cd1 cq0 cq1 cr0 cr1 fq0 fq1 fr0 fr1 hB hsz p0 p1 p2 HI hb1 HBT
     go_wp2
     go_loopw [9] (fun i wx => ∃ m q r : Int, i = .int .i64 m ∧ -1 ≤ m ∧ m < 128 ∧ DivEq n d m q r ∧ 0 ≤ r ∧ r < d ∧ 0 ≤ q ∧ Div2 w wx n d w1.heap.size (w1.heap.size + 1) q r) (fun i _ => (intOf i + 1).toNat)
     case atStart =>
      have hszx := HI1.out.size
      exact ⟨t, 0, 0, rfl, by omega, by omega, div_top HT.out, by omega, by omega, by omega, ⟨HI1.out.next blw_, by omega, by omega, by simp, by go_simp; rfl, by go_simp; rfl, by go_simp; rfl, by go_simp; rfl, by go_simp, by go_simp, by go_simp, by go_simp⟩⟩
     case round =>
      obtain ⟨m, q, r, rfl, hm1, hm2, heq, hr0, hr1, hq0, hD⟩ := hrel
      have HEQ := hide heq
      have HI := hide hD
      obtain ⟨bq, hbq⟩ : ∃ b, w1.heap.size = b := ⟨_, rfl⟩
      obtain ⟨br, hbr⟩ : ∃ b, w1.heap.size + 1 = b := ⟨_, rfl⟩
      rw [hbr, hbq] at hD HI
      rw [hbr, hbq]
      clear hbr hbq HI1 HT heq
      obtain ⟨⟨hB, hsz, cn0, cn1, cd0, cd1, cq0, cq1, cr0, cr1, fq0, fq1, fr0, fr1⟩, hlo, hlt, hsx, eq0, eq1, er0, er1, gq0, gq1, gr0, gr1⟩ := hD
      have : ¬ w.heap.size = bq := by omega
      have : ¬ w.heap.size = br := by omega
      have : ¬ w.heap.size + 1 = bq := by omega
      have : ¬ w.heap.size + 1 = br := by omega
      have : ¬ w.heap.size + 1 + 1 = bq := by omega
      have : ¬ w.heap.size + 1 + 1 = br := by omega
      have : ¬ w.heap.size + 1 + 1 + 1 = bq := by omega
      have : ¬ w.heap.size + 1 + 1 + 1 = br := by omega
      have : ¬ bq = w.heap.size := by omega
      have : ¬ bq = w.heap.size + 1 := by omega
      have : ¬ bq = w.heap.size + 1 + 1 := by omega
      have : ¬ bq = w.heap.size + 1 + 1 + 1 := by omega
      have : ¬ bq = br := by omega
      have : ¬ br = w.heap.size := by omega
      have : ¬ br = w.heap.size + 1 := by omega
      have : ¬ br = w.heap.size + 1 + 1 := by omega
      have : ¬ br = w.heap.size + 1 + 1 + 1 := by omega
      have : ¬ br = bq := by omega
      have : w.heap.size < wr.heap.size := by omega
      have : w.heap.size + 1 < wr.heap.size := by omega
      have : w.heap.size + 1 + 1 < wr.heap.size := by omega
      have : w.heap.size + 1 + 1 + 1 < wr.heap.size := by omega
      have : bq < wr.heap.size := by omega
      have : br < wr.heap.size := by omega
      by_cases hm0 : 0 ≤ m
      ·skip
       cases hbt : bitB n m.toNat
       ·have HBT := hide hbt
        clear hbt
        by_cases hge : r + r < d
        ·have HGE := hide hge
         clear hge
         have HQ := hide (div_bd (div_same (0) hm0 HEQ.out (ite_f HBT.out)) HN.out hd0 (by omega) (by omega))
         go_wp2_with fail
         refine (rtwice r (by constructor <;> omega) (by constructor <;> omega) _).mono ?_
         rintro e w1 ⟨rfl, hb1⟩
         obtain ⟨hc1, hf1⟩ := bcell hb1
         have hz1 := hb1.size
         try simp only [World.size_alloc, World.size_setCell] at hz1
         try have : w.heap.size < w1.heap.size := by omega
         try have : w.heap.size ≤ w1.heap.size := by omega
         try have : w.heap.size + 1 < w1.heap.size := by omega
         try have : w.heap.size + 1 ≤ w1.heap.size := by omega
         try have : w.heap.size + 1 + 1 < w1.heap.size := by omega
         try have : w.heap.size + 1 + 1 ≤ w1.heap.size := by omega
         try have : w.heap.size + 1 + 1 + 1 < w1.heap.size := by omega
         try have : w.heap.size + 1 + 1 + 1 ≤ w1.heap.size := by omega
         try have : bq < w1.heap.size := by omega
         try have : bq ≤ w1.heap.size := by omega
         try have : br < w1.heap.size := by omega
         try have : br ≤ w1.heap.size := by omega
         have c1_0_0 : w1.cell? ⟨w.heap.size, 0, none⟩ = some (.int .i64 (wH (n))) := by go_simp
         have c1_0_1 : w1.cell? ⟨w.heap.size, 1, none⟩ = some (.int .u64 (wL (n))) := by go_simp
         have c1_1_0 : w1.cell? ⟨w.heap.size + 1, 0, none⟩ = some (.int .i64 (wH (d))) := by go_simp
         have c1_1_1 : w1.cell? ⟨w.heap.size + 1, 1, none⟩ = some (.int .u64 (wL (d))) := by go_simp
         have c1_2_0 : w1.cell? ⟨bq, 0, none⟩ = some (.int .i64 (wH (q))) := by go_simp
         have g1_2_0 : w1.frozen? ⟨bq, 0, none⟩ = false := by go_simp
         have c1_2_1 : w1.cell? ⟨bq, 1, none⟩ = some (.int .u64 (wL (q))) := by go_simp
         have g1_2_1 : w1.frozen? ⟨bq, 1, none⟩ = false := by go_simp
         have c1_3_0 : w1.cell? ⟨br, 0, none⟩ = some (.int .i64 (wH (r))) := by go_simp
         have g1_3_0 : w1.frozen? ⟨br, 0, none⟩ = false := by go_simp
         have c1_3_1 : w1.cell? ⟨br, 1, none⟩ = some (.int .u64 (wL (r))) := by go_simp
         have g1_3_1 : w1.frozen? ⟨br, 1, none⟩ = false := by go_simp
         clear hc1 hf1
         go_wp2_with fail
         refine (rbit_i n m HN.out (by omega) false HBT.out _).mono ?_
         rintro e w2 ⟨rfl, hb2⟩
         obtain ⟨hc2, hf2⟩ := bcell hb2
         have hz2 := hb2.size
         try simp only [World.size_alloc, World.size_setCell] at hz2
         try have : w.heap.size < w2.heap.size := by omega
         try have : w.heap.size ≤ w2.heap.size := by omega
         try have : w.heap.size + 1 < w2.heap.size := by omega
         try have : w.heap.size + 1 ≤ w2.heap.size := by omega
         try have : w.heap.size + 1 + 1 < w2.heap.size := by omega
         try have : w.heap.size + 1 + 1 ≤ w2.heap.size := by omega
         try have : w.heap.size + 1 + 1 + 1 < w2.heap.size := by omega
         try have : w.heap.size + 1 + 1 + 1 ≤ w2.heap.size := by omega
         try have : bq < w2.heap.size := by omega
         try have : bq ≤ w2.heap.size := by omega
         try have : br < w2.heap.size := by omega
         try have : br ≤ w2.heap.size := by omega
         have c2_0_0 : w2.cell? ⟨w.heap.size, 0, none⟩ = some (.int .i64 (wH (n))) := by go_simp
         have c2_0_1 : w2.cell? ⟨w.heap.size, 1, none⟩ = some (.int .u64 (wL (n))) := by go_simp
         have c2_1_0 : w2.cell? ⟨w.heap.size + 1, 0, none⟩ = some (.int .i64 (wH (d))) := by go_simp
         have c2_1_1 : w2.cell? ⟨w.heap.size + 1, 1, none⟩ = some (.int .u64 (wL (d))) := by go_simp
         have c2_2_0 : w2.cell? ⟨bq, 0, none⟩ = some (.int .i64 (wH (q))) := by go_simp
         have g2_2_0 : w2.frozen? ⟨bq, 0, none⟩ = false := by go_simp
         have c2_2_1 : w2.cell? ⟨bq, 1, none⟩ = some (.int .u64 (wL (q))) := by go_simp
         have g2_2_1 : w2.frozen? ⟨bq, 1, none⟩ = false := by go_simp
         have c2_3_0 : w2.cell? ⟨br, 0, none⟩ = some (.int .i64 (wH (r + r))) := by go_simp
         have g2_3_0 : w2.frozen? ⟨br, 0, none⟩ = false := by go_simp
         have c2_3_1 : w2.cell? ⟨br, 1, none⟩ = some (.int .u64 (wL (r + r))) := by go_simp
         have g2_3_1 : w2.frozen? ⟨br, 1, none⟩ = false := by go_simp
         clear hc2 hf2 c1_0_0 c1_0_1 c1_1_0 c1_1_1 c1_2_0 g1_2_0 c1_2_1 g1_2_1 c1_3_0 g1_3_0 c1_3_1 g1_3_1
         go_wp2_with fail
         refine (rtwice q (by have := HQ.out; constructor <;> omega) (by have := HQ.out; constructor <;> omega) _).mono ?_
         rintro e w3 ⟨rfl, hb3⟩
         obtain ⟨hc3, hf3⟩ := bcell hb3
         have hz3 := hb3.size
         try simp only [World.size_alloc, World.size_setCell] at hz3
         try have : w.heap.size < w3.heap.size := by omega
         try have : w.heap.size ≤ w3.heap.size := by omega
         try have : w.heap.size + 1 < w3.heap.size := by omega
         try have : w.heap.size + 1 ≤ w3.heap.size := by omega
         try have : w.heap.size + 1 + 1 < w3.heap.size := by omega
         try have : w.heap.size + 1 + 1 ≤ w3.heap.size := by omega
         try have : w.heap.size + 1 + 1 + 1 < w3.heap.size := by omega
         try have : w.heap.size + 1 + 1 + 1 ≤ w3.heap.size := by omega
         try have : bq < w3.heap.size := by omega
         try have : bq ≤ w3.heap.size := by omega
         try have : br < w3.heap.size := by omega
         try have : br ≤ w3.heap.size := by omega
         have c3_0_0 : w3.cell? ⟨w.heap.size, 0, none⟩ = some (.int .i64 (wH (n))) := by go_simp
         have c3_0_1 : w3.cell? ⟨w.heap.size, 1, none⟩ = some (.int .u64 (wL (n))) := by go_simp
         have c3_1_0 : w3.cell? ⟨w.heap.size + 1, 0, none⟩ = some (.int .i64 (wH (d))) := by go_simp
         have c3_1_1 : w3.cell? ⟨w.heap.size + 1, 1, none⟩ = some (.int .u64 (wL (d))) := by go_simp
         have c3_2_0 : w3.cell? ⟨bq, 0, none⟩ = some (.int .i64 (wH (q))) := by go_simp
         have g3_2_0 : w3.frozen? ⟨bq, 0, none⟩ = false := by go_simp
         have c3_2_1 : w3.cell? ⟨bq, 1, none⟩ = some (.int .u64 (wL (q))) := by go_simp
         have g3_2_1 : w3.frozen? ⟨bq, 1, none⟩ = false := by go_simp
         have c3_3_0 : w3.cell? ⟨br, 0, none⟩ = some (.int .i64 (wH (r + r))) := by go_simp
         have g3_3_0 : w3.frozen? ⟨br, 0, none⟩ = false := by go_simp
         have c3_3_1 : w3.cell? ⟨br, 1, none⟩ = some (.int .u64 (wL (r + r))) := by go_simp
         have g3_3_1 : w3.frozen? ⟨br, 1, none⟩ = false := by go_simp
         clear hc3 hf3 c2_0_0 c2_0_1 c2_1_0 c2_1_1 c2_2_0 g2_2_0 c2_2_1 g2_2_1 c2_3_0 g2_3_0 c2_3_1 g2_3_1
         go_wp2_with fail
         refine (rless_r (r + r) d true (by rw [decide_eq_true_eq]; exact HGE.out) _).mono ?_
         rintro e w4 ⟨rfl, hb4⟩
         obtain ⟨hc4, hf4⟩ := bcell hb4
         have hz4 := hb4.size
         try simp only [World.size_alloc, World.size_setCell] at hz4
         try have : w.heap.size < w4.heap.size := by omega
         try have : w.heap.size ≤ w4.heap.size := by omega
         try have : w.heap.size + 1 < w4.heap.size := by omega
         try have : w.heap.size + 1 ≤ w4.heap.size := by omega
         try have : w.heap.size + 1 + 1 < w4.heap.size := by omega
         try have : w.heap.size + 1 + 1 ≤ w4.heap.size := by omega
         try have : w.heap.size + 1 + 1 + 1 < w4.heap.size := by omega
         try have : w.heap.size + 1 + 1 + 1 ≤ w4.heap.size := by omega
         try have : bq < w4.heap.size := by omega
         try have : bq ≤ w4.heap.size := by omega
         try have : br < w4.heap.size := by omega
         try have : br ≤ w4.heap.size := by omega
         have c4_0_0 : w4.cell? ⟨w.heap.size, 0, none⟩ = some (.int .i64 (wH (n))) := by go_simp
         have c4_0_1 : w4.cell? ⟨w.heap.size, 1, none⟩ = some (.int .u64 (wL (n))) := by go_simp
         have c4_1_0 : w4.cell? ⟨w.heap.size + 1, 0, none⟩ = some (.int .i64 (wH (d))) := by go_simp
         have c4_1_1 : w4.cell? ⟨w.heap.size + 1, 1, none⟩ = some (.int .u64 (wL (d))) := by go_simp
         have c4_2_0 : w4.cell? ⟨bq, 0, none⟩ = some (.int .i64 (wH (q + q))) := by go_simp
         have g4_2_0 : w4.frozen? ⟨bq, 0, none⟩ = false := by go_simp
         have c4_2_1 : w4.cell? ⟨bq, 1, none⟩ = some (.int .u64 (wL (q + q))) := by go_simp
         have g4_2_1 : w4.frozen? ⟨bq, 1, none⟩ = false := by go_simp
         have c4_3_0 : w4.cell? ⟨br, 0, none⟩ = some (.int .i64 (wH (r + r))) := by go_simp
         have g4_3_0 : w4.frozen? ⟨br, 0, none⟩ = false := by go_simp
         have c4_3_1 : w4.cell? ⟨br, 1, none⟩ = some (.int .u64 (wL (r + r))) := by go_simp
         have g4_3_1 : w4.frozen? ⟨br, 1, none⟩ = false := by go_simp
         clear hc4 hf4 c3_0_0 c3_0_1 c3_1_0 c3_1_1 c3_2_0 g3_2_0 c3_2_1 g3_2_1 c3_3_0 g3_3_0 c3_3_1 g3_3_1
         go_wp2
         go_roundw
         case rel =>
          exact ⟨m - 1, q + q, r + r, rfl, by omega, by omega, by have := div_same (0) hm0 HEQ.out (ite_f HBT.out); rwa [Int.add_zero] at this, by have := HGE.out; omega, by have := HGE.out; omega, by omega, ⟨HI.out.inv.next (by repeat (first | exact Below.refl _ _ | refine Below.setCell ?_ (by first | omega | (simp <;> omega)) _ | refine Below.alloc ?_ (by first | omega | (simp <;> omega)) _ | refine Below.drew ?_ | refine Below.trans ?_ (Below.mono (by assumption) (by first | omega | (simp [World.setCell] <;> omega))))), HI.out.lo, HI.out.lt, by have := HI.out.sz; (try simp only [World.size_setCell]); omega, by go_simp, by go_simp, by go_simp, by go_simp, by go_simp, by go_simp, by go_simp, by go_simp⟩⟩
         case measure => simp [intOf]; omega
        ·have HGE := hide hge
         clear hge
         have HQ := hide (div_bd (div_sub (0) hm0 HEQ.out (ite_f HBT.out)) HN.out hd0 (by omega) (by have := HGE.out; omega))
         have HR1 : Hid (R127 (r + r)) := hide (by constructor <;> omega)
         have HMD : Hid (R127 (-d)) := hide (by constructor <;> omega)
         have HSUB : Hid (R127 (r + r + -d)) := hide (by constructor <;> omega)
         go_wp2_with fail
         refine (rtwice r (by constructor <;> omega) (by constructor <;> omega) _).mono ?_
         rintro e w1 ⟨rfl, hb1⟩
         obtain ⟨hc1, hf1⟩ := bcell hb1
         have hz1 := hb1.size
         try simp only [World.size_alloc, World.size_setCell] at hz1
         try have : w.heap.size < w1.heap.size := by omega
         try have : w.heap.size ≤ w1.heap.size := by omega
         try have : w.heap.size + 1 < w1.heap.size := by omega
         try have : w.heap.size + 1 ≤ w1.heap.size := by omega
         try have : w.heap.size + 1 + 1 < w1.heap.size := by omega
         try have : w.heap.size + 1 + 1 ≤ w1.heap.size := by omega
         try have : w.heap.size + 1 + 1 + 1 < w1.heap.size := by omega
         try have : w.heap.size + 1 + 1 + 1 ≤ w1.heap.size := by omega
         try have : bq < w1.heap.size := by omega
         try have : bq ≤ w1.heap.size := by omega
         try have : br < w1.heap.size := by omega
         try have : br ≤ w1.heap.size := by omega
         have c1_0_0 : w1.cell? ⟨w.heap.size, 0, none⟩ = some (.int .i64 (wH (n))) := by go_simp
         have c1_0_1 : w1.cell? ⟨w.heap.size, 1, none⟩ = some (.int .u64 (wL (n))) := by go_simp
         have c1_1_0 : w1.cell? ⟨w.heap.size + 1, 0, none⟩ = some (.int .i64 (wH (d))) := by go_simp
         have c1_1_1 : w1.cell? ⟨w.heap.size + 1, 1, none⟩ = some (.int .u64 (wL (d))) := by go_simp
         have c1_2_0 : w1.cell? ⟨bq, 0, none⟩ = some (.int .i64 (wH (q))) := by go_simp
         have g1_2_0 : w1.frozen? ⟨bq, 0, none⟩ = false := by go_simp
         have c1_2_1 : w1.cell? ⟨bq, 1, none⟩ = some (.int .u64 (wL (q))) := by go_simp
         have g1_2_1 : w1.frozen? ⟨bq, 1, none⟩ = false := by go_simp
         have c1_3_0 : w1.cell? ⟨br, 0, none⟩ = some (.int .i64 (wH (r))) := by go_simp
         have g1_3_0 : w1.frozen? ⟨br, 0, none⟩ = false := by go_simp
         have c1_3_1 : w1.cell? ⟨br, 1, none⟩ = some (.int .u64 (wL (r))) := by go_simp
         have g1_3_1 : w1.frozen? ⟨br, 1, none⟩ = false := by go_simp
         clear hc1 hf1
         go_wp2_with fail
         refine (rbit_i n m HN.out (by omega) false HBT.out _).mono ?_
         rintro e w2 ⟨rfl, hb2⟩
         obtain ⟨hc2, hf2⟩ := bcell hb2
         have hz2 := hb2.size
         try simp only [World.size_alloc, World.size_setCell] at hz2
         try have : w.heap.size < w2.heap.size := by omega
         try have : w.heap.size ≤ w2.heap.size := by omega
         try have : w.heap.size + 1 < w2.heap.size := by omega
         try have : w.heap.size + 1 ≤ w2.heap.size := by omega
         try have : w.heap.size + 1 + 1 < w2.heap.size := by omega
         try have : w.heap.size + 1 + 1 ≤ w2.heap.size := by omega
         try have : w.heap.size + 1 + 1 + 1 < w2.heap.size := by omega
         try have : w.heap.size + 1 + 1 + 1 ≤ w2.heap.size := by omega
         try have : bq < w2.heap.size := by omega
         try have : bq ≤ w2.heap.size := by omega
         try have : br < w2.heap.size := by omega
         try have : br ≤ w2.heap.size := by omega
         have c2_0_0 : w2.cell? ⟨w.heap.size, 0, none⟩ = some (.int .i64 (wH (n))) := by go_simp
         have c2_0_1 : w2.cell? ⟨w.heap.size, 1, none⟩ = some (.int .u64 (wL (n))) := by go_simp
         have c2_1_0 : w2.cell? ⟨w.heap.size + 1, 0, none⟩ = some (.int .i64 (wH (d))) := by go_simp
         have c2_1_1 : w2.cell? ⟨w.heap.size + 1, 1, none⟩ = some (.int .u64 (wL (d))) := by go_simp
         have c2_2_0 : w2.cell? ⟨bq, 0, none⟩ = some (.int .i64 (wH (q))) := by go_simp
         have g2_2_0 : w2.frozen? ⟨bq, 0, none⟩ = false := by go_simp
         have c2_2_1 : w2.cell? ⟨bq, 1, none⟩ = some (.int .u64 (wL (q))) := by go_simp
         have g2_2_1 : w2.frozen? ⟨bq, 1, none⟩ = false := by go_simp
         have c2_3_0 : w2.cell? ⟨br, 0, none⟩ = some (.int .i64 (wH (r + r))) := by go_simp
         have g2_3_0 : w2.frozen? ⟨br, 0, none⟩ = false := by go_simp
         have c2_3_1 : w2.cell? ⟨br, 1, none⟩ = some (.int .u64 (wL (r + r))) := by go_simp
         have g2_3_1 : w2.frozen? ⟨br, 1, none⟩ = false := by go_simp
         clear hc2 hf2 c1_0_0 c1_0_1 c1_1_0 c1_1_1 c1_2_0 g1_2_0 c1_2_1 g1_2_1 c1_3_0 g1_3_0 c1_3_1 g1_3_1
         go_wp2_with fail
         refine (rtwice q (by have := HQ.out; constructor <;> omega) (by have := HQ.out; constructor <;> omega) _).mono ?_
         rintro e w3 ⟨rfl, hb3⟩
         obtain ⟨hc3, hf3⟩ := bcell hb3
         have hz3 := hb3.size
         try simp only [World.size_alloc, World.size_setCell] at hz3
         try have : w.heap.size < w3.heap.size := by omega
         try have : w.heap.size ≤ w3.heap.size := by omega
         try have : w.heap.size + 1 < w3.heap.size := by omega
         try have : w.heap.size + 1 ≤ w3.heap.size := by omega
         try have : w.heap.size + 1 + 1 < w3.heap.size := by omega
         try have : w.heap.size + 1 + 1 ≤ w3.heap.size := by omega
         try have : w.heap.size + 1 + 1 + 1 < w3.heap.size := by omega
         try have : w.heap.size + 1 + 1 + 1 ≤ w3.heap.size := by omega
         try have : bq < w3.heap.size := by omega
         try have : bq ≤ w3.heap.size := by omega
         try have : br < w3.heap.size := by omega
         try have : br ≤ w3.heap.size := by omega
         have c3_0_0 : w3.cell? ⟨w.heap.size, 0, none⟩ = some (.int .i64 (wH (n))) := by go_simp
         have c3_0_1 : w3.cell? ⟨w.heap.size, 1, none⟩ = some (.int .u64 (wL (n))) := by go_simp
         have c3_1_0 : w3.cell? ⟨w.heap.size + 1, 0, none⟩ = some (.int .i64 (wH (d))) := by go_simp
         have c3_1_1 : w3.cell? ⟨w.heap.size + 1, 1, none⟩ = some (.int .u64 (wL (d))) := by go_simp
         have c3_2_0 : w3.cell? ⟨bq, 0, none⟩ = some (.int .i64 (wH (q))) := by go_simp
         have g3_2_0 : w3.frozen? ⟨bq, 0, none⟩ = false := by go_simp
         have c3_2_1 : w3.cell? ⟨bq, 1, none⟩ = some (.int .u64 (wL (q))) := by go_simp
         have g3_2_1 : w3.frozen? ⟨bq, 1, none⟩ = false := by go_simp
         have c3_3_0 : w3.cell? ⟨br, 0, none⟩ = some (.int .i64 (wH (r + r))) := by go_simp
         have g3_3_0 : w3.frozen? ⟨br, 0, none⟩ = false := by go_simp
         have c3_3_1 : w3.cell? ⟨br, 1, none⟩ = some (.int .u64 (wL (r + r))) := by go_simp
         have g3_3_1 : w3.frozen? ⟨br, 1, none⟩ = false := by go_simp
         clear hc3 hf3 c2_0_0 c2_0_1 c2_1_0 c2_1_1 c2_2_0 g2_2_0 c2_2_1 g2_2_1 c2_3_0 g2_3_0 c2_3_1 g2_3_1
         go_wp2_with fail
         refine (rless_r (r + r) d false (by rw [decide_eq_false_iff_not]; have := HGE.out; omega) _).mono ?_
         rintro e w4 ⟨rfl, hb4⟩
         obtain ⟨hc4, hf4⟩ := bcell hb4
         have hz4 := hb4.size
         try simp only [World.size_alloc, World.size_setCell] at hz4
         try have : w.heap.size < w4.heap.size := by omega
         try have : w.heap.size ≤ w4.heap.size := by omega
         try have : w.heap.size + 1 < w4.heap.size := by omega
         try have : w.heap.size + 1 ≤ w4.heap.size := by omega
         try have : w.heap.size + 1 + 1 < w4.heap.size := by omega
         try have : w.heap.size + 1 + 1 ≤ w4.heap.size := by omega
         try have : w.heap.size + 1 + 1 + 1 < w4.heap.size := by omega
         try have : w.heap.size + 1 + 1 + 1 ≤ w4.heap.size := by omega
         try have : bq < w4.heap.size := by omega
         try have : bq ≤ w4.heap.size := by omega
         try have : br < w4.heap.size := by omega
         try have : br ≤ w4.heap.size := by omega
         have c4_0_0 : w4.cell? ⟨w.heap.size, 0, none⟩ = some (.int .i64 (wH (n))) := by go_simp
         have c4_0_1 : w4.cell? ⟨w.heap.size, 1, none⟩ = some (.int .u64 (wL (n))) := by go_simp
         have c4_1_0 : w4.cell? ⟨w.heap.size + 1, 0, none⟩ = some (.int .i64 (wH (d))) := by go_simp
         have c4_1_1 : w4.cell? ⟨w.heap.size + 1, 1, none⟩ = some (.int .u64 (wL (d))) := by go_simp
         have c4_2_0 : w4.cell? ⟨bq, 0, none⟩ = some (.int .i64 (wH (q + q))) := by go_simp
         have g4_2_0 : w4.frozen? ⟨bq, 0, none⟩ = false := by go_simp
         have c4_2_1 : w4.cell? ⟨bq, 1, none⟩ = some (.int .u64 (wL (q + q))) := by go_simp
         have g4_2_1 : w4.frozen? ⟨bq, 1, none⟩ = false := by go_simp
         have c4_3_0 : w4.cell? ⟨br, 0, none⟩ = some (.int .i64 (wH (r + r))) := by go_simp
         have g4_3_0 : w4.frozen? ⟨br, 0, none⟩ = false := by go_simp
         have c4_3_1 : w4.cell? ⟨br, 1, none⟩ = some (.int .u64 (wL (r + r))) := by go_simp
         have g4_3_1 : w4.frozen? ⟨br, 1, none⟩ = false := by go_simp
         clear hc4 hf4 c3_0_0 c3_0_1 c3_1_0 c3_1_1 c3_2_0 g3_2_0 c3_2_1 g3_2_1 c3_3_0 g3_3_0 c3_3_1 g3_3_1
         go_wp2_with fail
         refine QT.tail_b 4 (by kernel_rfl) (by kernel_rfl) ?_
         simp only [List.take_succ_cons, List.take_zero, List.drop_succ_cons, List.drop_zero]
         repeat (first
          | go_big_quiet_skip
          | (go_big_quiet_want; go_big_quiet_op; first
           | go_big_quiet_on
           | (apply Exists.intro
              refine ⟨fun _ => ?_, ?_⟩
              ·first
               | rfl
               | (intro hC; obtain ⟨hcq, hfq⟩ := bcellB hC; go_simp; done)
               | (intro hC; obtain ⟨hcq, hfq⟩ := bcellB hC; go_simp; rfl)
               | (intro hC; have hcq := bcellG hC; go_simp; done)
               | (intro hC; have hcq := bcellG hC; go_simp; rfl)
               | (intro hC; go_at_call 59; (first | (with_reducible refine (rminus d HDR.out _).mono ?_)); (intro e w2 hw; exact ⟨hw.1, qtrans (by simp) hC hw.2⟩))
               | (intro hC; go_at_call 63; (first | (with_reducible refine (rplus (r + r) (-d) HR1.out HMD.out HSUB.out _).mono ?_)); (intro e w2 hw; exact ⟨hw.1, qtrans (by simp) hC hw.2⟩))
              go_big_quiet_on)))
         refine wpQuiet_nil ?_
         intro w9 hC9
         obtain ⟨hc9, hf9⟩ := bcellB hC9
         have hz9 := hC9.size
         try simp only [World.size_alloc, World.size_setCell] at hz9
         have : w.heap.size < w9.heap.size := by omega
         have : w.heap.size + 1 < w9.heap.size := by omega
         have : w.heap.size + 1 + 1 < w9.heap.size := by omega
         have : w.heap.size + 1 + 1 + 1 < w9.heap.size := by omega
         have : bq < w9.heap.size := by omega
         have : br < w9.heap.size := by omega
         have c9_0_0 : w9.cell? ⟨w.heap.size, 0, none⟩ = some (.int .i64 (wH (n))) := by go_simp
         have c9_0_1 : w9.cell? ⟨w.heap.size, 1, none⟩ = some (.int .u64 (wL (n))) := by go_simp
         have c9_1_0 : w9.cell? ⟨w.heap.size + 1, 0, none⟩ = some (.int .i64 (wH (d))) := by go_simp
         have c9_1_1 : w9.cell? ⟨w.heap.size + 1, 1, none⟩ = some (.int .u64 (wL (d))) := by go_simp
         have c9_2_0 : w9.cell? ⟨bq, 0, none⟩ = some (.int .i64 (wH (q + q))) := by go_simp
         have g9_2_0 : w9.frozen? ⟨bq, 0, none⟩ = false := by go_simp
         have c9_2_1 : w9.cell? ⟨bq, 1, none⟩ = some (.int .u64 (wL (q + q))) := by go_simp
         have g9_2_1 : w9.frozen? ⟨bq, 1, none⟩ = false := by go_simp
         have c9_3_0 : w9.cell? ⟨br, 0, none⟩ = some (.int .i64 (wH (r + r))) := by go_simp
         have g9_3_0 : w9.frozen? ⟨br, 0, none⟩ = false := by go_simp
         have c9_3_1 : w9.cell? ⟨br, 1, none⟩ = some (.int .u64 (wL (r + r))) := by go_simp
         have g9_3_1 : w9.frozen? ⟨br, 1, none⟩ = false := by go_simp
         clear hc9 hf9 c4_0_0 c4_0_1 c4_1_0 c4_1_1 c4_2_0 g4_2_0 c4_2_1 g4_2_1 c4_3_0 g4_3_0 c4_3_1 g4_3_1
         go_wp2_with fail
         refine (rplus1 (q + q) (by have := HQ.out; constructor <;> omega) (by have := HQ.out; constructor <;> omega) _).mono ?_
         rintro e w20 ⟨rfl, hb20⟩
         obtain ⟨hc20, hf20⟩ := bcell hb20
         have hz20 := hb20.size
         try simp only [World.size_alloc, World.size_setCell] at hz20
         try have : w.heap.size < w20.heap.size := by omega
         try have : w.heap.size ≤ w20.heap.size := by omega
         try have : w.heap.size + 1 < w20.heap.size := by omega
         try have : w.heap.size + 1 ≤ w20.heap.size := by omega
         try have : w.heap.size + 1 + 1 < w20.heap.size := by omega
         try have : w.heap.size + 1 + 1 ≤ w20.heap.size := by omega
         try have : w.heap.size + 1 + 1 + 1 < w20.heap.size := by omega
         try have : w.heap.size + 1 + 1 + 1 ≤ w20.heap.size := by omega
         try have : bq < w20.heap.size := by omega
         try have : bq ≤ w20.heap.size := by omega
         try have : br < w20.heap.size := by omega
         try have : br ≤ w20.heap.size := by omega
         have c20_0_0 : w20.cell? ⟨w.heap.size, 0, none⟩ = some (.int .i64 (wH (n))) := by go_simp
         have c20_0_1 : w20.cell? ⟨w.heap.size, 1, none⟩ = some (.int .u64 (wL (n))) := by go_simp
         have c20_1_0 : w20.cell? ⟨w.heap.size + 1, 0, none⟩ = some (.int .i64 (wH (d))) := by go_simp
         have c20_1_1 : w20.cell? ⟨w.heap.size + 1, 1, none⟩ = some (.int .u64 (wL (d))) := by go_simp
         have c20_2_0 : w20.cell? ⟨bq, 0, none⟩ = some (.int .i64 (wH (q + q))) := by go_simp
         have g20_2_0 : w20.frozen? ⟨bq, 0, none⟩ = false := by go_simp
         have c20_2_1 : w20.cell? ⟨bq, 1, none⟩ = some (.int .u64 (wL (q + q))) := by go_simp
         have g20_2_1 : w20.frozen? ⟨bq, 1, none⟩ = false := by go_simp
         have c20_3_0 : w20.cell? ⟨br, 0, none⟩ = some (.int .i64 (wH (r + r + -d))) := by go_simp
         have g20_3_0 : w20.frozen? ⟨br, 0, none⟩ = false := by go_simp
         have c20_3_1 : w20.cell? ⟨br, 1, none⟩ = some (.int .u64 (wL (r + r + -d))) := by go_simp
         have g20_3_1 : w20.frozen? ⟨br, 1, none⟩ = false := by go_simp
         clear hc20 hf20 c9_0_0 c9_0_1 c9_1_0 c9_1_1 c9_2_0 g9_2_0 c9_2_1 g9_2_1 c9_3_0 g9_3_0 c9_3_1 g9_3_1
         go_wp2
         go_roundw
         case rel =>
          exact ⟨m - 1, q + q + 1, r + r + -d, rfl, by omega, by omega, by have := div_sub (0) hm0 HEQ.out (ite_f HBT.out); rwa [Int.add_zero] at this, by have := HGE.out; omega, by have := HGE.out; omega, by omega, ⟨HI.out.inv.next (by repeat (first | exact Below.refl _ _ | refine Below.setCell ?_ (by first | omega | (simp <;> omega)) _ | refine Below.alloc ?_ (by first | omega | (simp <;> omega)) _ | refine Below.drew ?_ | refine Below.trans ?_ (Below.mono (by assumption) (by first | omega | (simp [World.setCell] <;> omega))))), HI.out.lo, HI.out.lt, by have := HI.out.sz; (try simp only [World.size_setCell]); omega, by go_simp, by go_simp, by go_simp, by go_simp, by go_simp, by go_simp, by go_simp, by go_simp⟩⟩
         case measure => simp [intOf]; omega

       ·have HBT := hide hbt
        clear hbt
        by_cases hge : r + r + 1 < d
        ·have HGE := hide hge
         clear hge
         have HQ := hide (div_bd (div_same (1) hm0 HEQ.out (ite_t HBT.out)) HN.out hd0 (by omega) (by omega))
         go_wp2_with fail
         refine (rtwice r (by constructor <;> omega) (by constructor <;> omega) _).mono ?_
         rintro e w1 ⟨rfl, hb1⟩
         obtain ⟨hc1, hf1⟩ := bcell hb1
         have hz1 := hb1.size
         try simp only [World.size_alloc, World.size_setCell] at hz1
         try have : w.heap.size < w1.heap.size := by omega
         try have : w.heap.size ≤ w1.heap.size := by omega
         try have : w.heap.size + 1 < w1.heap.size := by omega
         try have : w.heap.size + 1 ≤ w1.heap.size := by omega
         try have : w.heap.size + 1 + 1 < w1.heap.size := by omega
         try have : w.heap.size + 1 + 1 ≤ w1.heap.size := by omega
         try have : w.heap.size + 1 + 1 + 1 < w1.heap.size := by omega
         try have : w.heap.size + 1 + 1 + 1 ≤ w1.heap.size := by omega
         try have : bq < w1.heap.size := by omega
         try have : bq ≤ w1.heap.size := by omega
         try have : br < w1.heap.size := by omega
         try have : br ≤ w1.heap.size := by omega
         have c1_0_0 : w1.cell? ⟨w.heap.size, 0, none⟩ = some (.int .i64 (wH (n))) := by go_simp
         have c1_0_1 : w1.cell? ⟨w.heap.size, 1, none⟩ = some (.int .u64 (wL (n))) := by go_simp
         have c1_1_0 : w1.cell? ⟨w.heap.size + 1, 0, none⟩ = some (.int .i64 (wH (d))) := by go_simp
         have c1_1_1 : w1.cell? ⟨w.heap.size + 1, 1, none⟩ = some (.int .u64 (wL (d))) := by go_simp
         have c1_2_0 : w1.cell? ⟨bq, 0, none⟩ = some (.int .i64 (wH (q))) := by go_simp
         have g1_2_0 : w1.frozen? ⟨bq, 0, none⟩ = false := by go_simp
         have c1_2_1 : w1.cell? ⟨bq, 1, none⟩ = some (.int .u64 (wL (q))) := by go_simp
         have g1_2_1 : w1.frozen? ⟨bq, 1, none⟩ = false := by go_simp
         have c1_3_0 : w1.cell? ⟨br, 0, none⟩ = some (.int .i64 (wH (r))) := by go_simp
         have g1_3_0 : w1.frozen? ⟨br, 0, none⟩ = false := by go_simp
         have c1_3_1 : w1.cell? ⟨br, 1, none⟩ = some (.int .u64 (wL (r))) := by go_simp
         have g1_3_1 : w1.frozen? ⟨br, 1, none⟩ = false := by go_simp
         clear hc1 hf1
         go_wp2_with fail
         refine (rbit_i n m HN.out (by omega) true HBT.out _).mono ?_
         rintro e w2 ⟨rfl, hb2⟩
         obtain ⟨hc2, hf2⟩ := bcell hb2
         have hz2 := hb2.size
         try simp only [World.size_alloc, World.size_setCell] at hz2
         try have : w.heap.size < w2.heap.size := by omega
         try have : w.heap.size ≤ w2.heap.size := by omega
         try have : w.heap.size + 1 < w2.heap.size := by omega
         try have : w.heap.size + 1 ≤ w2.heap.size := by omega
         try have : w.heap.size + 1 + 1 < w2.heap.size := by omega
         try have : w.heap.size + 1 + 1 ≤ w2.heap.size := by omega
         try have : w.heap.size + 1 + 1 + 1 < w2.heap.size := by omega
         try have : w.heap.size + 1 + 1 + 1 ≤ w2.heap.size := by omega
         try have : bq < w2.heap.size := by omega
         try have : bq ≤ w2.heap.size := by omega
         try have : br < w2.heap.size := by omega
         try have : br ≤ w2.heap.size := by omega
         have c2_0_0 : w2.cell? ⟨w.heap.size, 0, none⟩ = some (.int .i64 (wH (n))) := by go_simp
         have c2_0_1 : w2.cell? ⟨w.heap.size, 1, none⟩ = some (.int .u64 (wL (n))) := by go_simp
         have c2_1_0 : w2.cell? ⟨w.heap.size + 1, 0, none⟩ = some (.int .i64 (wH (d))) := by go_simp
         have c2_1_1 : w2.cell? ⟨w.heap.size + 1, 1, none⟩ = some (.int .u64 (wL (d))) := by go_simp
         have c2_2_0 : w2.cell? ⟨bq, 0, none⟩ = some (.int .i64 (wH (q))) := by go_simp
         have g2_2_0 : w2.frozen? ⟨bq, 0, none⟩ = false := by go_simp
         have c2_2_1 : w2.cell? ⟨bq, 1, none⟩ = some (.int .u64 (wL (q))) := by go_simp
         have g2_2_1 : w2.frozen? ⟨bq, 1, none⟩ = false := by go_simp
         have c2_3_0 : w2.cell? ⟨br, 0, none⟩ = some (.int .i64 (wH (r + r))) := by go_simp
         have g2_3_0 : w2.frozen? ⟨br, 0, none⟩ = false := by go_simp
         have c2_3_1 : w2.cell? ⟨br, 1, none⟩ = some (.int .u64 (wL (r + r))) := by go_simp
         have g2_3_1 : w2.frozen? ⟨br, 1, none⟩ = false := by go_simp
         clear hc2 hf2 c1_0_0 c1_0_1 c1_1_0 c1_1_1 c1_2_0 g1_2_0 c1_2_1 g1_2_1 c1_3_0 g1_3_0 c1_3_1 g1_3_1
         go_wp2_with fail
         refine (rplus1 (r + r) (by constructor <;> omega) (by constructor <;> omega) _).mono ?_
         rintro e w3 ⟨rfl, hb3⟩
         obtain ⟨hc3, hf3⟩ := bcell hb3
         have hz3 := hb3.size
         try simp only [World.size_alloc, World.size_setCell] at hz3
         try have : w.heap.size < w3.heap.size := by omega
         try have : w.heap.size ≤ w3.heap.size := by omega
         try have : w.heap.size + 1 < w3.heap.size := by omega
         try have : w.heap.size + 1 ≤ w3.heap.size := by omega
         try have : w.heap.size + 1 + 1 < w3.heap.size := by omega
         try have : w.heap.size + 1 + 1 ≤ w3.heap.size := by omega
         try have : w.heap.size + 1 + 1 + 1 < w3.heap.size := by omega
         try have : w.heap.size + 1 + 1 + 1 ≤ w3.heap.size := by omega
         try have : bq < w3.heap.size := by omega
         try have : bq ≤ w3.heap.size := by omega
         try have : br < w3.heap.size := by omega
         try have : br ≤ w3.heap.size := by omega
         have c3_0_0 : w3.cell? ⟨w.heap.size, 0, none⟩ = some (.int .i64 (wH (n))) := by go_simp
         have c3_0_1 : w3.cell? ⟨w.heap.size, 1, none⟩ = some (.int .u64 (wL (n))) := by go_simp
         have c3_1_0 : w3.cell? ⟨w.heap.size + 1, 0, none⟩ = some (.int .i64 (wH (d))) := by go_simp
         have c3_1_1 : w3.cell? ⟨w.heap.size + 1, 1, none⟩ = some (.int .u64 (wL (d))) := by go_simp
         have c3_2_0 : w3.cell? ⟨bq, 0, none⟩ = some (.int .i64 (wH (q))) := by go_simp
         have g3_2_0 : w3.frozen? ⟨bq, 0, none⟩ = false := by go_simp
         have c3_2_1 : w3.cell? ⟨bq, 1, none⟩ = some (.int .u64 (wL (q))) := by go_simp
         have g3_2_1 : w3.frozen? ⟨bq, 1, none⟩ = false := by go_simp
         have c3_3_0 : w3.cell? ⟨br, 0, none⟩ = some (.int .i64 (wH (r + r))) := by go_simp
         have g3_3_0 : w3.frozen? ⟨br, 0, none⟩ = false := by go_simp
         have c3_3_1 : w3.cell? ⟨br, 1, none⟩ = some (.int .u64 (wL (r + r))) := by go_simp
         have g3_3_1 : w3.frozen? ⟨br, 1, none⟩ = false := by go_simp
         clear hc3 hf3 c2_0_0 c2_0_1 c2_1_0 c2_1_1 c2_2_0 g2_2_0 c2_2_1 g2_2_1 c2_3_0 g2_3_0 c2_3_1 g2_3_1
         go_wp2_with fail
         refine (rtwice q (by have := HQ.out; constructor <;> omega) (by have := HQ.out; constructor <;> omega) _).mono ?_
         rintro e w4 ⟨rfl, hb4⟩
         obtain ⟨hc4, hf4⟩ := bcell hb4
         have hz4 := hb4.size
         try simp only [World.size_alloc, World.size_setCell] at hz4
         try have : w.heap.size < w4.heap.size := by omega
         try have : w.heap.size ≤ w4.heap.size := by omega
         try have : w.heap.size + 1 < w4.heap.size := by omega
         try have : w.heap.size + 1 ≤ w4.heap.size := by omega
         try have : w.heap.size + 1 + 1 < w4.heap.size := by omega
         try have : w.heap.size + 1 + 1 ≤ w4.heap.size := by omega
         try have : w.heap.size + 1 + 1 + 1 < w4.heap.size := by omega
         try have : w.heap.size + 1 + 1 + 1 ≤ w4.heap.size := by omega
         try have : bq < w4.heap.size := by omega
         try have : bq ≤ w4.heap.size := by omega
         try have : br < w4.heap.size := by omega
         try have : br ≤ w4.heap.size := by omega
         have c4_0_0 : w4.cell? ⟨w.heap.size, 0, none⟩ = some (.int .i64 (wH (n))) := by go_simp
         have c4_0_1 : w4.cell? ⟨w.heap.size, 1, none⟩ = some (.int .u64 (wL (n))) := by go_simp
         have c4_1_0 : w4.cell? ⟨w.heap.size + 1, 0, none⟩ = some (.int .i64 (wH (d))) := by go_simp
         have c4_1_1 : w4.cell? ⟨w.heap.size + 1, 1, none⟩ = some (.int .u64 (wL (d))) := by go_simp
         have c4_2_0 : w4.cell? ⟨bq, 0, none⟩ = some (.int .i64 (wH (q))) := by go_simp
         have g4_2_0 : w4.frozen? ⟨bq, 0, none⟩ = false := by go_simp
         have c4_2_1 : w4.cell? ⟨bq, 1, none⟩ = some (.int .u64 (wL (q))) := by go_simp
         have g4_2_1 : w4.frozen? ⟨bq, 1, none⟩ = false := by go_simp
         have c4_3_0 : w4.cell? ⟨br, 0, none⟩ = some (.int .i64 (wH (r + r + 1))) := by go_simp
         have g4_3_0 : w4.frozen? ⟨br, 0, none⟩ = false := by go_simp
         have c4_3_1 : w4.cell? ⟨br, 1, none⟩ = some (.int .u64 (wL (r + r + 1))) := by go_simp
         have g4_3_1 : w4.frozen? ⟨br, 1, none⟩ = false := by go_simp
         clear hc4 hf4 c3_0_0 c3_0_1 c3_1_0 c3_1_1 c3_2_0 g3_2_0 c3_2_1 g3_2_1 c3_3_0 g3_3_0 c3_3_1 g3_3_1
         go_wp2_with fail
         refine (rless_r (r + r + 1) d true (by rw [decide_eq_true_eq]; exact HGE.out) _).mono ?_
         rintro e w5 ⟨rfl, hb5⟩
         obtain ⟨hc5, hf5⟩ := bcell hb5
         have hz5 := hb5.size
         try simp only [World.size_alloc, World.size_setCell] at hz5
         try have : w.heap.size < w5.heap.size := by omega
         try have : w.heap.size ≤ w5.heap.size := by omega
         try have : w.heap.size + 1 < w5.heap.size := by omega
         try have : w.heap.size + 1 ≤ w5.heap.size := by omega
         try have : w.heap.size + 1 + 1 < w5.heap.size := by omega
         try have : w.heap.size + 1 + 1 ≤ w5.heap.size := by omega
         try have : w.heap.size + 1 + 1 + 1 < w5.heap.size := by omega
         try have : w.heap.size + 1 + 1 + 1 ≤ w5.heap.size := by omega
         try have : bq < w5.heap.size := by omega
         try have : bq ≤ w5.heap.size := by omega
         try have : br < w5.heap.size := by omega
         try have : br ≤ w5.heap.size := by omega
         have c5_0_0 : w5.cell? ⟨w.heap.size, 0, none⟩ = some (.int .i64 (wH (n))) := by go_simp
         have c5_0_1 : w5.cell? ⟨w.heap.size, 1, none⟩ = some (.int .u64 (wL (n))) := by go_simp
         have c5_1_0 : w5.cell? ⟨w.heap.size + 1, 0, none⟩ = some (.int .i64 (wH (d))) := by go_simp
         have c5_1_1 : w5.cell? ⟨w.heap.size + 1, 1, none⟩ = some (.int .u64 (wL (d))) := by go_simp
         have c5_2_0 : w5.cell? ⟨bq, 0, none⟩ = some (.int .i64 (wH (q + q))) := by go_simp
         have g5_2_0 : w5.frozen? ⟨bq, 0, none⟩ = false := by go_simp
         have c5_2_1 : w5.cell? ⟨bq, 1, none⟩ = some (.int .u64 (wL (q + q))) := by go_simp
         have g5_2_1 : w5.frozen? ⟨bq, 1, none⟩ = false := by go_simp
         have c5_3_0 : w5.cell? ⟨br, 0, none⟩ = some (.int .i64 (wH (r + r + 1))) := by go_simp
         have g5_3_0 : w5.frozen? ⟨br, 0, none⟩ = false := by go_simp
         have c5_3_1 : w5.cell? ⟨br, 1, none⟩ = some (.int .u64 (wL (r + r + 1))) := by go_simp
         have g5_3_1 : w5.frozen? ⟨br, 1, none⟩ = false := by go_simp
         clear hc5 hf5 c4_0_0 c4_0_1 c4_1_0 c4_1_1 c4_2_0 g4_2_0 c4_2_1 g4_2_1 c4_3_0 g4_3_0 c4_3_1 g4_3_1
         go_wp2
         go_roundw
         case rel =>
          exact ⟨m - 1, q + q, r + r + 1, rfl, by omega, by omega, by have := div_same (1) hm0 HEQ.out (ite_t HBT.out); exact this, by have := HGE.out; omega, by have := HGE.out; omega, by omega, ⟨HI.out.inv.next (by repeat (first | exact Below.refl _ _ | refine Below.setCell ?_ (by first | omega | (simp <;> omega)) _ | refine Below.alloc ?_ (by first | omega | (simp <;> omega)) _ | refine Below.drew ?_ | refine Below.trans ?_ (Below.mono (by assumption) (by first | omega | (simp [World.setCell] <;> omega))))), HI.out.lo, HI.out.lt, by have := HI.out.sz; (try simp only [World.size_setCell]); omega, by go_simp, by go_simp, by go_simp, by go_simp, by go_simp, by go_simp, by go_simp, by go_simp⟩⟩
         case measure => simp [intOf]; omega
        ·have HGE := hide hge
         clear hge
         have HQ := hide (div_bd (div_sub (1) hm0 HEQ.out (ite_t HBT.out)) HN.out hd0 (by omega) (by have := HGE.out; omega))
         have HR1 : Hid (R127 (r + r + 1)) := hide (by constructor <;> omega)
         have HMD : Hid (R127 (-d)) := hide (by constructor <;> omega)
         have HSUB : Hid (R127 (r + r + 1 + -d)) := hide (by constructor <;> omega)
         go_wp2_with fail
         refine (rtwice r (by constructor <;> omega) (by constructor <;> omega) _).mono ?_
         rintro e w1 ⟨rfl, hb1⟩
         obtain ⟨hc1, hf1⟩ := bcell hb1
         have hz1 := hb1.size
         try simp only [World.size_alloc, World.size_setCell] at hz1
         try have : w.heap.size < w1.heap.size := by omega
         try have : w.heap.size ≤ w1.heap.size := by omega
         try have : w.heap.size + 1 < w1.heap.size := by omega
         try have : w.heap.size + 1 ≤ w1.heap.size := by omega
         try have : w.heap.size + 1 + 1 < w1.heap.size := by omega
         try have : w.heap.size + 1 + 1 ≤ w1.heap.size := by omega
         try have : w.heap.size + 1 + 1 + 1 < w1.heap.size := by omega
         try have : w.heap.size + 1 + 1 + 1 ≤ w1.heap.size := by omega
         try have : bq < w1.heap.size := by omega
         try have : bq ≤ w1.heap.size := by omega
         try have : br < w1.heap.size := by omega
         try have : br ≤ w1.heap.size := by omega
         have c1_0_0 : w1.cell? ⟨w.heap.size, 0, none⟩ = some (.int .i64 (wH (n))) := by go_simp
         have c1_0_1 : w1.cell? ⟨w.heap.size, 1, none⟩ = some (.int .u64 (wL (n))) := by go_simp
         have c1_1_0 : w1.cell? ⟨w.heap.size + 1, 0, none⟩ = some (.int .i64 (wH (d))) := by go_simp
         have c1_1_1 : w1.cell? ⟨w.heap.size + 1, 1, none⟩ = some (.int .u64 (wL (d))) := by go_simp
         have c1_2_0 : w1.cell? ⟨bq, 0, none⟩ = some (.int .i64 (wH (q))) := by go_simp
         have g1_2_0 : w1.frozen? ⟨bq, 0, none⟩ = false := by go_simp
         have c1_2_1 : w1.cell? ⟨bq, 1, none⟩ = some (.int .u64 (wL (q))) := by go_simp
         have g1_2_1 : w1.frozen? ⟨bq, 1, none⟩ = false := by go_simp
         have c1_3_0 : w1.cell? ⟨br, 0, none⟩ = some (.int .i64 (wH (r))) := by go_simp
         have g1_3_0 : w1.frozen? ⟨br, 0, none⟩ = false := by go_simp
         have c1_3_1 : w1.cell? ⟨br, 1, none⟩ = some (.int .u64 (wL (r))) := by go_simp
         have g1_3_1 : w1.frozen? ⟨br, 1, none⟩ = false := by go_simp
         clear hc1 hf1
         go_wp2_with fail
         refine (rbit_i n m HN.out (by omega) true HBT.out _).mono ?_
         rintro e w2 ⟨rfl, hb2⟩
         obtain ⟨hc2, hf2⟩ := bcell hb2
         have hz2 := hb2.size
         try simp only [World.size_alloc, World.size_setCell] at hz2
         try have : w.heap.size < w2.heap.size := by omega
         try have : w.heap.size ≤ w2.heap.size := by omega
         try have : w.heap.size + 1 < w2.heap.size := by omega
         try have : w.heap.size + 1 ≤ w2.heap.size := by omega
         try have : w.heap.size + 1 + 1 < w2.heap.size := by omega
         try have : w.heap.size + 1 + 1 ≤ w2.heap.size := by omega
         try have : w.heap.size + 1 + 1 + 1 < w2.heap.size := by omega
         try have : w.heap.size + 1 + 1 + 1 ≤ w2.heap.size := by omega
         try have : bq < w2.heap.size := by omega
         try have : bq ≤ w2.heap.size := by omega
         try have : br < w2.heap.size := by omega
         try have : br ≤ w2.heap.size := by omega
         have c2_0_0 : w2.cell? ⟨w.heap.size, 0, none⟩ = some (.int .i64 (wH (n))) := by go_simp
         have c2_0_1 : w2.cell? ⟨w.heap.size, 1, none⟩ = some (.int .u64 (wL (n))) := by go_simp
         have c2_1_0 : w2.cell? ⟨w.heap.size + 1, 0, none⟩ = some (.int .i64 (wH (d))) := by go_simp
         have c2_1_1 : w2.cell? ⟨w.heap.size + 1, 1, none⟩ = some (.int .u64 (wL (d))) := by go_simp
         have c2_2_0 : w2.cell? ⟨bq, 0, none⟩ = some (.int .i64 (wH (q))) := by go_simp
         have g2_2_0 : w2.frozen? ⟨bq, 0, none⟩ = false := by go_simp
         have c2_2_1 : w2.cell? ⟨bq, 1, none⟩ = some (.int .u64 (wL (q))) := by go_simp
         have g2_2_1 : w2.frozen? ⟨bq, 1, none⟩ = false := by go_simp
         have c2_3_0 : w2.cell? ⟨br, 0, none⟩ = some (.int .i64 (wH (r + r))) := by go_simp
         have g2_3_0 : w2.frozen? ⟨br, 0, none⟩ = false := by go_simp
         have c2_3_1 : w2.cell? ⟨br, 1, none⟩ = some (.int .u64 (wL (r + r))) := by go_simp
         have g2_3_1 : w2.frozen? ⟨br, 1, none⟩ = false := by go_simp
         clear hc2 hf2 c1_0_0 c1_0_1 c1_1_0 c1_1_1 c1_2_0 g1_2_0 c1_2_1 g1_2_1 c1_3_0 g1_3_0 c1_3_1 g1_3_1
         go_wp2_with fail
         refine (rplus1 (r + r) (by constructor <;> omega) (by constructor <;> omega) _).mono ?_
         rintro e w3 ⟨rfl, hb3⟩
         obtain ⟨hc3, hf3⟩ := bcell hb3
         have hz3 := hb3.size
         try simp only [World.size_alloc, World.size_setCell] at hz3
         try have : w.heap.size < w3.heap.size := by omega
         try have : w.heap.size ≤ w3.heap.size := by omega
         try have : w.heap.size + 1 < w3.heap.size := by omega
         try have : w.heap.size + 1 ≤ w3.heap.size := by omega
         try have : w.heap.size + 1 + 1 < w3.heap.size := by omega
         try have : w.heap.size + 1 + 1 ≤ w3.heap.size := by omega
         try have : w.heap.size + 1 + 1 + 1 < w3.heap.size := by omega
         try have : w.heap.size + 1 + 1 + 1 ≤ w3.heap.size := by omega
         try have : bq < w3.heap.size := by omega
         try have : bq ≤ w3.heap.size := by omega
         try have : br < w3.heap.size := by omega
         try have : br ≤ w3.heap.size := by omega
         have c3_0_0 : w3.cell? ⟨w.heap.size, 0, none⟩ = some (.int .i64 (wH (n))) := by go_simp
         have c3_0_1 : w3.cell? ⟨w.heap.size, 1, none⟩ = some (.int .u64 (wL (n))) := by go_simp
         have c3_1_0 : w3.cell? ⟨w.heap.size + 1, 0, none⟩ = some (.int .i64 (wH (d))) := by go_simp
         have c3_1_1 : w3.cell? ⟨w.heap.size + 1, 1, none⟩ = some (.int .u64 (wL (d))) := by go_simp
         have c3_2_0 : w3.cell? ⟨bq, 0, none⟩ = some (.int .i64 (wH (q))) := by go_simp
         have g3_2_0 : w3.frozen? ⟨bq, 0, none⟩ = false := by go_simp
         have c3_2_1 : w3.cell? ⟨bq, 1, none⟩ = some (.int .u64 (wL (q))) := by go_simp
         have g3_2_1 : w3.frozen? ⟨bq, 1, none⟩ = false := by go_simp
         have c3_3_0 : w3.cell? ⟨br, 0, none⟩ = some (.int .i64 (wH (r + r))) := by go_simp
         have g3_3_0 : w3.frozen? ⟨br, 0, none⟩ = false := by go_simp
         have c3_3_1 : w3.cell? ⟨br, 1, none⟩ = some (.int .u64 (wL (r + r))) := by go_simp
         have g3_3_1 : w3.frozen? ⟨br, 1, none⟩ = false := by go_simp
         clear hc3 hf3 c2_0_0 c2_0_1 c2_1_0 c2_1_1 c2_2_0 g2_2_0 c2_2_1 g2_2_1 c2_3_0 g2_3_0 c2_3_1 g2_3_1
         go_wp2_with fail
         refine (rtwice q (by have := HQ.out; constructor <;> omega) (by have := HQ.out; constructor <;> omega) _).mono ?_
         rintro e w4 ⟨rfl, hb4⟩
         obtain ⟨hc4, hf4⟩ := bcell hb4
         have hz4 := hb4.size
         try simp only [World.size_alloc, World.size_setCell] at hz4
         try have : w.heap.size < w4.heap.size := by omega
         try have : w.heap.size ≤ w4.heap.size := by omega
         try have : w.heap.size + 1 < w4.heap.size := by omega
         try have : w.heap.size + 1 ≤ w4.heap.size := by omega
         try have : w.heap.size + 1 + 1 < w4.heap.size := by omega
         try have : w.heap.size + 1 + 1 ≤ w4.heap.size := by omega
         try have : w.heap.size + 1 + 1 + 1 < w4.heap.size := by omega
         try have : w.heap.size + 1 + 1 + 1 ≤ w4.heap.size := by omega
         try have : bq < w4.heap.size := by omega
         try have : bq ≤ w4.heap.size := by omega
         try have : br < w4.heap.size := by omega
         try have : br ≤ w4.heap.size := by omega
         have c4_0_0 : w4.cell? ⟨w.heap.size, 0, none⟩ = some (.int .i64 (wH (n))) := by go_simp
         have c4_0_1 : w4.cell? ⟨w.heap.size, 1, none⟩ = some (.int .u64 (wL (n))) := by go_simp
         have c4_1_0 : w4.cell? ⟨w.heap.size + 1, 0, none⟩ = some (.int .i64 (wH (d))) := by go_simp
         have c4_1_1 : w4.cell? ⟨w.heap.size + 1, 1, none⟩ = some (.int .u64 (wL (d))) := by go_simp
         have c4_2_0 : w4.cell? ⟨bq, 0, none⟩ = some (.int .i64 (wH (q))) := by go_simp
         have g4_2_0 : w4.frozen? ⟨bq, 0, none⟩ = false := by go_simp
         have c4_2_1 : w4.cell? ⟨bq, 1, none⟩ = some (.int .u64 (wL (q))) := by go_simp
         have g4_2_1 : w4.frozen? ⟨bq, 1, none⟩ = false := by go_simp
         have c4_3_0 : w4.cell? ⟨br, 0, none⟩ = some (.int .i64 (wH (r + r + 1))) := by go_simp
         have g4_3_0 : w4.frozen? ⟨br, 0, none⟩ = false := by go_simp
         have c4_3_1 : w4.cell? ⟨br, 1, none⟩ = some (.int .u64 (wL (r + r + 1))) := by go_simp
         have g4_3_1 : w4.frozen? ⟨br, 1, none⟩ = false := by go_simp
         clear hc4 hf4 c3_0_0 c3_0_1 c3_1_0 c3_1_1 c3_2_0 g3_2_0 c3_2_1 g3_2_1 c3_3_0 g3_3_0 c3_3_1 g3_3_1
         go_wp2_with fail
         refine (rless_r (r + r + 1) d false (by rw [decide_eq_false_iff_not]; have := HGE.out; omega) _).mono ?_
         rintro e w5 ⟨rfl, hb5⟩
         obtain ⟨hc5, hf5⟩ := bcell hb5
         have hz5 := hb5.size
         try simp only [World.size_alloc, World.size_setCell] at hz5
         try have : w.heap.size < w5.heap.size := by omega
         try have : w.heap.size ≤ w5.heap.size := by omega
         try have : w.heap.size + 1 < w5.heap.size := by omega
         try have : w.heap.size + 1 ≤ w5.heap.size := by omega
         try have : w.heap.size + 1 + 1 < w5.heap.size := by omega
         try have : w.heap.size + 1 + 1 ≤ w5.heap.size := by omega
         try have : w.heap.size + 1 + 1 + 1 < w5.heap.size := by omega
         try have : w.heap.size + 1 + 1 + 1 ≤ w5.heap.size := by omega
         try have : bq < w5.heap.size := by omega
         try have : bq ≤ w5.heap.size := by omega
         try have : br < w5.heap.size := by omega
         try have : br ≤ w5.heap.size := by omega
         have c5_0_0 : w5.cell? ⟨w.heap.size, 0, none⟩ = some (.int .i64 (wH (n))) := by go_simp
         have c5_0_1 : w5.cell? ⟨w.heap.size, 1, none⟩ = some (.int .u64 (wL (n))) := by go_simp
         have c5_1_0 : w5.cell? ⟨w.heap.size + 1, 0, none⟩ = some (.int .i64 (wH (d))) := by go_simp
         have c5_1_1 : w5.cell? ⟨w.heap.size + 1, 1, none⟩ = some (.int .u64 (wL (d))) := by go_simp
         have c5_2_0 : w5.cell? ⟨bq, 0, none⟩ = some (.int .i64 (wH (q + q))) := by go_simp
         have g5_2_0 : w5.frozen? ⟨bq, 0, none⟩ = false := by go_simp
         have c5_2_1 : w5.cell? ⟨bq, 1, none⟩ = some (.int .u64 (wL (q + q))) := by go_simp
         have g5_2_1 : w5.frozen? ⟨bq, 1, none⟩ = false := by go_simp
         have c5_3_0 : w5.cell? ⟨br, 0, none⟩ = some (.int .i64 (wH (r + r + 1))) := by go_simp
         have g5_3_0 : w5.frozen? ⟨br, 0, none⟩ = false := by go_simp
         have c5_3_1 : w5.cell? ⟨br, 1, none⟩ = some (.int .u64 (wL (r + r + 1))) := by go_simp
         have g5_3_1 : w5.frozen? ⟨br, 1, none⟩ = false := by go_simp
         clear hc5 hf5 c4_0_0 c4_0_1 c4_1_0 c4_1_1 c4_2_0 g4_2_0 c4_2_1 g4_2_1 c4_3_0 g4_3_0 c4_3_1 g4_3_1
         go_wp2_with fail
         refine QT.tail_b 4 (by kernel_rfl) (by kernel_rfl) ?_
         simp only [List.take_succ_cons, List.take_zero, List.drop_succ_cons, List.drop_zero]
         repeat (first
          | go_big_quiet_skip
          | (go_big_quiet_want; go_big_quiet_op; first
           | go_big_quiet_on
           | (apply Exists.intro
              refine ⟨fun _ => ?_, ?_⟩
              ·first
               | rfl
               | (intro hC; obtain ⟨hcq, hfq⟩ := bcellB hC; go_simp; done)
               | (intro hC; obtain ⟨hcq, hfq⟩ := bcellB hC; go_simp; rfl)
               | (intro hC; have hcq := bcellG hC; go_simp; done)
               | (intro hC; have hcq := bcellG hC; go_simp; rfl)
               | (intro hC; go_at_call 59; (first | (with_reducible refine (rminus d HDR.out _).mono ?_)); (intro e w2 hw; exact ⟨hw.1, qtrans (by simp) hC hw.2⟩))
               | (intro hC; go_at_call 63; (first | (with_reducible refine (rplus (r + r + 1) (-d) HR1.out HMD.out HSUB.out _).mono ?_)); (intro e w2 hw; exact ⟨hw.1, qtrans (by simp) hC hw.2⟩))
              go_big_quiet_on)))
         refine wpQuiet_nil ?_
         intro w9 hC9
         obtain ⟨hc9, hf9⟩ := bcellB hC9
         have hz9 := hC9.size
         try simp only [World.size_alloc, World.size_setCell] at hz9
         have : w.heap.size < w9.heap.size := by omega
         have : w.heap.size + 1 < w9.heap.size := by omega
         have : w.heap.size + 1 + 1 < w9.heap.size := by omega
         have : w.heap.size + 1 + 1 + 1 < w9.heap.size := by omega
         have : bq < w9.heap.size := by omega
         have : br < w9.heap.size := by omega
         have c9_0_0 : w9.cell? ⟨w.heap.size, 0, none⟩ = some (.int .i64 (wH (n))) := by go_simp
         have c9_0_1 : w9.cell? ⟨w.heap.size, 1, none⟩ = some (.int .u64 (wL (n))) := by go_simp
         have c9_1_0 : w9.cell? ⟨w.heap.size + 1, 0, none⟩ = some (.int .i64 (wH (d))) := by go_simp
         have c9_1_1 : w9.cell? ⟨w.heap.size + 1, 1, none⟩ = some (.int .u64 (wL (d))) := by go_simp
         have c9_2_0 : w9.cell? ⟨bq, 0, none⟩ = some (.int .i64 (wH (q + q))) := by go_simp
         have g9_2_0 : w9.frozen? ⟨bq, 0, none⟩ = false := by go_simp
         have c9_2_1 : w9.cell? ⟨bq, 1, none⟩ = some (.int .u64 (wL (q + q))) := by go_simp
         have g9_2_1 : w9.frozen? ⟨bq, 1, none⟩ = false := by go_simp
         have c9_3_0 : w9.cell? ⟨br, 0, none⟩ = some (.int .i64 (wH (r + r + 1))) := by go_simp
         have g9_3_0 : w9.frozen? ⟨br, 0, none⟩ = false := by go_simp
         have c9_3_1 : w9.cell? ⟨br, 1, none⟩ = some (.int .u64 (wL (r + r + 1))) := by go_simp
         have g9_3_1 : w9.frozen? ⟨br, 1, none⟩ = false := by go_simp
         clear hc9 hf9 c5_0_0 c5_0_1 c5_1_0 c5_1_1 c5_2_0 g5_2_0 c5_2_1 g5_2_1 c5_3_0 g5_3_0 c5_3_1 g5_3_1
         go_wp2_with fail
         refine (rplus1 (q + q) (by have := HQ.out; constructor <;> omega) (by have := HQ.out; constructor <;> omega) _).mono ?_
         rintro e w20 ⟨rfl, hb20⟩
         obtain ⟨hc20, hf20⟩ := bcell hb20
         have hz20 := hb20.size
         try simp only [World.size_alloc, World.size_setCell] at hz20
         try have : w.heap.size < w20.heap.size := by omega
         try have : w.heap.size ≤ w20.heap.size := by omega
         try have : w.heap.size + 1 < w20.heap.size := by omega
         try have : w.heap.size + 1 ≤ w20.heap.size := by omega
         try have : w.heap.size + 1 + 1 < w20.heap.size := by omega
         try have : w.heap.size + 1 + 1 ≤ w20.heap.size := by omega
         try have : w.heap.size + 1 + 1 + 1 < w20.heap.size := by omega
         try have : w.heap.size + 1 + 1 + 1 ≤ w20.heap.size := by omega
         try have : bq < w20.heap.size := by omega
         try have : bq ≤ w20.heap.size := by omega
         try have : br < w20.heap.size := by omega
         try have : br ≤ w20.heap.size := by omega
         have c20_0_0 : w20.cell? ⟨w.heap.size, 0, none⟩ = some (.int .i64 (wH (n))) := by go_simp
         have c20_0_1 : w20.cell? ⟨w.heap.size, 1, none⟩ = some (.int .u64 (wL (n))) := by go_simp
         have c20_1_0 : w20.cell? ⟨w.heap.size + 1, 0, none⟩ = some (.int .i64 (wH (d))) := by go_simp
         have c20_1_1 : w20.cell? ⟨w.heap.size + 1, 1, none⟩ = some (.int .u64 (wL (d))) := by go_simp
         have c20_2_0 : w20.cell? ⟨bq, 0, none⟩ = some (.int .i64 (wH (q + q))) := by go_simp
         have g20_2_0 : w20.frozen? ⟨bq, 0, none⟩ = false := by go_simp
         have c20_2_1 : w20.cell? ⟨bq, 1, none⟩ = some (.int .u64 (wL (q + q))) := by go_simp
         have g20_2_1 : w20.frozen? ⟨bq, 1, none⟩ = false := by go_simp
         have c20_3_0 : w20.cell? ⟨br, 0, none⟩ = some (.int .i64 (wH (r + r + 1 + -d))) := by go_simp
         have g20_3_0 : w20.frozen? ⟨br, 0, none⟩ = false := by go_simp
         have c20_3_1 : w20.cell? ⟨br, 1, none⟩ = some (.int .u64 (wL (r + r + 1 + -d))) := by go_simp
         have g20_3_1 : w20.frozen? ⟨br, 1, none⟩ = false := by go_simp
         clear hc20 hf20 c9_0_0 c9_0_1 c9_1_0 c9_1_1 c9_2_0 g9_2_0 c9_2_1 g9_2_1 c9_3_0 g9_3_0 c9_3_1 g9_3_1
         go_wp2
         go_roundw
         case rel =>
          exact ⟨m - 1, q + q + 1, r + r + 1 + -d, rfl, by omega, by omega, by have := div_sub (1) hm0 HEQ.out (ite_t HBT.out); exact this, by have := HGE.out; omega, by have := HGE.out; omega, by omega, ⟨HI.out.inv.next (by repeat (first | exact Below.refl _ _ | refine Below.setCell ?_ (by first | omega | (simp <;> omega)) _ | refine Below.alloc ?_ (by first | omega | (simp <;> omega)) _ | refine Below.drew ?_ | refine Below.trans ?_ (Below.mono (by assumption) (by first | omega | (simp [World.setCell] <;> omega))))), HI.out.lo, HI.out.lt, by have := HI.out.sz; (try simp only [World.size_setCell]); omega, by go_simp, by go_simp, by go_simp, by go_simp, by go_simp, by go_simp, by go_simp, by go_simp⟩⟩
         case measure => simp [intOf]; omega
      ·have HE := hide (div_end (show DivEq n d (-1) q r by have h := HEQ.out; rwa [show m = -1 by omega] at h) hr0 hr1)
       go_wp2_with fail
       go_region
       all_goals go_wp2
       all_goals rw [HE.out.1, HE.out.2]
       all_goals refine bodyPost_ret (v := .tuple #[.agg #[.int .i64 (wH (q)), .int .u64 (wL (q))], .agg #[.int .i64 (wH (r)), .int .u64 (wL (r))]]) (by simp only [results, Try.results74]; go_simp) rfl ⟨rfl, blw_⟩
   ·have HI1 := HI
    clear cn0 cn1 cd0 cd1 cq0 cq1 cr0 cr1 fq0 fq1 fr0 fr1 hB hsz p0 p1 p2 HI
    go_wp2
    obtain ⟨w1, rfl⟩ : ∃ w1 : World, w1 = wr := ⟨_, rfl⟩
    go_loopw [9] (fun i wx => ∃ m q r : Int, i = .int .i64 m ∧ -1 ≤ m ∧ m < 128 ∧ DivEq n d m q r ∧ 0 ≤ r ∧ r < d ∧ 0 ≤ q ∧ Div2 w wx n d w1.heap.size (w1.heap.size + 1) q r) (fun i _ => (intOf i + 1).toNat)
    case atStart =>
     have hszx := HI1.out.size
     exact ⟨t, 0, 0, rfl, by omega, by omega, div_top HT.out, by omega, by omega, by omega, ⟨HI1.out.next blw_, by omega, by omega, by simp, by go_simp; rfl, by go_simp; rfl, by go_simp; rfl, by go_simp; rfl, by go_simp, by go_simp, by go_simp, by go_simp⟩⟩
    case round =>
     obtain ⟨m, q, r, rfl, hm1, hm2, heq, hr0, hr1, hq0, hD⟩ := hrel
     have HEQ := hide heq
     have HI := hide hD
     obtain ⟨bq, hbq⟩ : ∃ b, w1.heap.size = b := ⟨_, rfl⟩
     obtain ⟨br, hbr⟩ : ∃ b, w1.heap.size + 1 = b := ⟨_, rfl⟩
     rw [hbr, hbq] at hD HI
     rw [hbr, hbq]
     clear hbr hbq HI1 HT heq
     obtain ⟨⟨hB, hsz, cn0, cn1, cd0, cd1, cq0, cq1, cr0, cr1, fq0, fq1, fr0, fr1⟩, hlo, hlt, hsx, eq0, eq1, er0, er1, gq0, gq1, gr0, gr1⟩ := hD
     have : ¬ w.heap.size = bq := by omega
     have : ¬ w.heap.size = br := by omega
     have : ¬ w.heap.size + 1 = bq := by omega
     have : ¬ w.heap.size + 1 = br := by omega
     have : ¬ w.heap.size + 1 + 1 = bq := by omega
     have : ¬ w.heap.size + 1 + 1 = br := by omega
     have : ¬ w.heap.size + 1 + 1 + 1 = bq := by omega
     have : ¬ w.heap.size + 1 + 1 + 1 = br := by omega
     have : ¬ bq = w.heap.size := by omega
     have : ¬ bq = w.heap.size + 1 := by omega
     have : ¬ bq = w.heap.size + 1 + 1 := by omega
     have : ¬ bq = w.heap.size + 1 + 1 + 1 := by omega
     have : ¬ bq = br := by omega
     have : ¬ br = w.heap.size := by omega
     have : ¬ br = w.heap.size + 1 := by omega
     have : ¬ br = w.heap.size + 1 + 1 := by omega
     have : ¬ br = w.heap.size + 1 + 1 + 1 := by omega
     have : ¬ br = bq := by omega
     have : w.heap.size < wr.heap.size := by omega
     have : w.heap.size + 1 < wr.heap.size := by omega
     have : w.heap.size + 1 + 1 < wr.heap.size := by omega
     have : w.heap.size + 1 + 1 + 1 < wr.heap.size := by omega
     have : bq < wr.heap.size := by omega
     have : br < wr.heap.size := by omega
     by_cases hm0 : 0 ≤ m
     ·skip
      cases hbt : bitB n m.toNat
      ·have HBT := hide hbt
       clear hbt
       by_cases hge : r + r < d
       ·have HGE := hide hge
        clear hge
        have HQ := hide (div_bd (div_same (0) hm0 HEQ.out (ite_f HBT.out)) HN.out hd0 (by omega) (by omega))
        go_wp2_with fail
        refine (rtwice r (by constructor <;> omega) (by constructor <;> omega) _).mono ?_
        rintro e w1 ⟨rfl, hb1⟩
        obtain ⟨hc1, hf1⟩ := bcell hb1
        have hz1 := hb1.size
        try simp only [World.size_alloc, World.size_setCell] at hz1
        try have : w.heap.size < w1.heap.size := by omega
        try have : w.heap.size ≤ w1.heap.size := by omega
        try have : w.heap.size + 1 < w1.heap.size := by omega
        try have : w.heap.size + 1 ≤ w1.heap.size := by omega
        try have : w.heap.size + 1 + 1 < w1.heap.size := by omega
        try have : w.heap.size + 1 + 1 ≤ w1.heap.size := by omega
        try have : w.heap.size + 1 + 1 + 1 < w1.heap.size := by omega
        try have : w.heap.size + 1 + 1 + 1 ≤ w1.heap.size := by omega
        try have : bq < w1.heap.size := by omega
        try have : bq ≤ w1.heap.size := by omega
        try have : br < w1.heap.size := by omega
        try have : br ≤ w1.heap.size := by omega
        have c1_0_0 : w1.cell? ⟨w.heap.size, 0, none⟩ = some (.int .i64 (wH (n))) := by go_simp
        have c1_0_1 : w1.cell? ⟨w.heap.size, 1, none⟩ = some (.int .u64 (wL (n))) := by go_simp
        have c1_1_0 : w1.cell? ⟨w.heap.size + 1, 0, none⟩ = some (.int .i64 (wH (d))) := by go_simp
        have c1_1_1 : w1.cell? ⟨w.heap.size + 1, 1, none⟩ = some (.int .u64 (wL (d))) := by go_simp
        have c1_2_0 : w1.cell? ⟨bq, 0, none⟩ = some (.int .i64 (wH (q))) := by go_simp
        have g1_2_0 : w1.frozen? ⟨bq, 0, none⟩ = false := by go_simp
        have c1_2_1 : w1.cell? ⟨bq, 1, none⟩ = some (.int .u64 (wL (q))) := by go_simp
        have g1_2_1 : w1.frozen? ⟨bq, 1, none⟩ = false := by go_simp
        have c1_3_0 : w1.cell? ⟨br, 0, none⟩ = some (.int .i64 (wH (r))) := by go_simp
        have g1_3_0 : w1.frozen? ⟨br, 0, none⟩ = false := by go_simp
        have c1_3_1 : w1.cell? ⟨br, 1, none⟩ = some (.int .u64 (wL (r))) := by go_simp
        have g1_3_1 : w1.frozen? ⟨br, 1, none⟩ = false := by go_simp
        clear hc1 hf1
        go_wp2_with fail
        refine (rbit_i n m HN.out (by omega) false HBT.out _).mono ?_
        rintro e w2 ⟨rfl, hb2⟩
        obtain ⟨hc2, hf2⟩ := bcell hb2
        have hz2 := hb2.size
        try simp only [World.size_alloc, World.size_setCell] at hz2
        try have : w.heap.size < w2.heap.size := by omega
        try have : w.heap.size ≤ w2.heap.size := by omega
        try have : w.heap.size + 1 < w2.heap.size := by omega
        try have : w.heap.size + 1 ≤ w2.heap.size := by omega
        try have : w.heap.size + 1 + 1 < w2.heap.size := by omega
        try have : w.heap.size + 1 + 1 ≤ w2.heap.size := by omega
        try have : w.heap.size + 1 + 1 + 1 < w2.heap.size := by omega
        try have : w.heap.size + 1 + 1 + 1 ≤ w2.heap.size := by omega
        try have : bq < w2.heap.size := by omega
        try have : bq ≤ w2.heap.size := by omega
        try have : br < w2.heap.size := by omega
        try have : br ≤ w2.heap.size := by omega
        have c2_0_0 : w2.cell? ⟨w.heap.size, 0, none⟩ = some (.int .i64 (wH (n))) := by go_simp
        have c2_0_1 : w2.cell? ⟨w.heap.size, 1, none⟩ = some (.int .u64 (wL (n))) := by go_simp
        have c2_1_0 : w2.cell? ⟨w.heap.size + 1, 0, none⟩ = some (.int .i64 (wH (d))) := by go_simp
        have c2_1_1 : w2.cell? ⟨w.heap.size + 1, 1, none⟩ = some (.int .u64 (wL (d))) := by go_simp
        have c2_2_0 : w2.cell? ⟨bq, 0, none⟩ = some (.int .i64 (wH (q))) := by go_simp
        have g2_2_0 : w2.frozen? ⟨bq, 0, none⟩ = false := by go_simp
        have c2_2_1 : w2.cell? ⟨bq, 1, none⟩ = some (.int .u64 (wL (q))) := by go_simp
        have g2_2_1 : w2.frozen? ⟨bq, 1, none⟩ = false := by go_simp
        have c2_3_0 : w2.cell? ⟨br, 0, none⟩ = some (.int .i64 (wH (r + r))) := by go_simp
        have g2_3_0 : w2.frozen? ⟨br, 0, none⟩ = false := by go_simp
        have c2_3_1 : w2.cell? ⟨br, 1, none⟩ = some (.int .u64 (wL (r + r))) := by go_simp
        have g2_3_1 : w2.frozen? ⟨br, 1, none⟩ = false := by go_simp
        clear hc2 hf2 c1_0_0 c1_0_1 c1_1_0 c1_1_1 c1_2_0 g1_2_0 c1_2_1 g1_2_1 c1_3_0 g1_3_0 c1_3_1 g1_3_1
        go_wp2_with fail
        refine (rtwice q (by have := HQ.out; constructor <;> omega) (by have := HQ.out; constructor <;> omega) _).mono ?_
        rintro e w3 ⟨rfl, hb3⟩
        obtain ⟨hc3, hf3⟩ := bcell hb3
        have hz3 := hb3.size
        try simp only [World.size_alloc, World.size_setCell] at hz3
        try have : w.heap.size < w3.heap.size := by omega
        try have : w.heap.size ≤ w3.heap.size := by omega
        try have : w.heap.size + 1 < w3.heap.size := by omega
        try have : w.heap.size + 1 ≤ w3.heap.size := by omega
        try have : w.heap.size + 1 + 1 < w3.heap.size := by omega
        try have : w.heap.size + 1 + 1 ≤ w3.heap.size := by omega
        try have : w.heap.size + 1 + 1 + 1 < w3.heap.size := by omega
        try have : w.heap.size + 1 + 1 + 1 ≤ w3.heap.size := by omega
        try have : bq < w3.heap.size := by omega
        try have : bq ≤ w3.heap.size := by omega
        try have : br < w3.heap.size := by omega
        try have : br ≤ w3.heap.size := by omega
        have c3_0_0 : w3.cell? ⟨w.heap.size, 0, none⟩ = some (.int .i64 (wH (n))) := by go_simp
        have c3_0_1 : w3.cell? ⟨w.heap.size, 1, none⟩ = some (.int .u64 (wL (n))) := by go_simp
        have c3_1_0 : w3.cell? ⟨w.heap.size + 1, 0, none⟩ = some (.int .i64 (wH (d))) := by go_simp
        have c3_1_1 : w3.cell? ⟨w.heap.size + 1, 1, none⟩ = some (.int .u64 (wL (d))) := by go_simp
        have c3_2_0 : w3.cell? ⟨bq, 0, none⟩ = some (.int .i64 (wH (q))) := by go_simp
        have g3_2_0 : w3.frozen? ⟨bq, 0, none⟩ = false := by go_simp
        have c3_2_1 : w3.cell? ⟨bq, 1, none⟩ = some (.int .u64 (wL (q))) := by go_simp
        have g3_2_1 : w3.frozen? ⟨bq, 1, none⟩ = false := by go_simp
        have c3_3_0 : w3.cell? ⟨br, 0, none⟩ = some (.int .i64 (wH (r + r))) := by go_simp
        have g3_3_0 : w3.frozen? ⟨br, 0, none⟩ = false := by go_simp
        have c3_3_1 : w3.cell? ⟨br, 1, none⟩ = some (.int .u64 (wL (r + r))) := by go_simp
        have g3_3_1 : w3.frozen? ⟨br, 1, none⟩ = false := by go_simp
        clear hc3 hf3 c2_0_0 c2_0_1 c2_1_0 c2_1_1 c2_2_0 g2_2_0 c2_2_1 g2_2_1 c2_3_0 g2_3_0 c2_3_1 g2_3_1
        go_wp2_with fail
        refine (rless_r (r + r) d true (by rw [decide_eq_true_eq]; exact HGE.out) _).mono ?_
        rintro e w4 ⟨rfl, hb4⟩
        obtain ⟨hc4, hf4⟩ := bcell hb4
        have hz4 := hb4.size
        try simp only [World.size_alloc, World.size_setCell] at hz4
        try have : w.heap.size < w4.heap.size := by omega
        try have : w.heap.size ≤ w4.heap.size := by omega
        try have : w.heap.size + 1 < w4.heap.size := by omega
        try have : w.heap.size + 1 ≤ w4.heap.size := by omega
        try have : w.heap.size + 1 + 1 < w4.heap.size := by omega
        try have : w.heap.size + 1 + 1 ≤ w4.heap.size := by omega
        try have : w.heap.size + 1 + 1 + 1 < w4.heap.size := by omega
        try have : w.heap.size + 1 + 1 + 1 ≤ w4.heap.size := by omega
        try have : bq < w4.heap.size := by omega
        try have : bq ≤ w4.heap.size := by omega
        try have : br < w4.heap.size := by omega
        try have : br ≤ w4.heap.size := by omega
        have c4_0_0 : w4.cell? ⟨w.heap.size, 0, none⟩ = some (.int .i64 (wH (n))) := by go_simp
        have c4_0_1 : w4.cell? ⟨w.heap.size, 1, none⟩ = some (.int .u64 (wL (n))) := by go_simp
        have c4_1_0 : w4.cell? ⟨w.heap.size + 1, 0, none⟩ = some (.int .i64 (wH (d))) := by go_simp
        have c4_1_1 : w4.cell? ⟨w.heap.size + 1, 1, none⟩ = some (.int .u64 (wL (d))) := by go_simp
        have c4_2_0 : w4.cell? ⟨bq, 0, none⟩ = some (.int .i64 (wH (q + q))) := by go_simp
        have g4_2_0 : w4.frozen? ⟨bq, 0, none⟩ = false := by go_simp
        have c4_2_1 : w4.cell? ⟨bq, 1, none⟩ = some (.int .u64 (wL (q + q))) := by go_simp
        have g4_2_1 : w4.frozen? ⟨bq, 1, none⟩ = false := by go_simp
        have c4_3_0 : w4.cell? ⟨br, 0, none⟩ = some (.int .i64 (wH (r + r))) := by go_simp
        have g4_3_0 : w4.frozen? ⟨br, 0, none⟩ = false := by go_simp
        have c4_3_1 : w4.cell? ⟨br, 1, none⟩ = some (.int .u64 (wL (r + r))) := by go_simp
        have g4_3_1 : w4.frozen? ⟨br, 1, none⟩ = false := by go_simp
        clear hc4 hf4 c3_0_0 c3_0_1 c3_1_0 c3_1_1 c3_2_0 g3_2_0 c3_2_1 g3_2_1 c3_3_0 g3_3_0 c3_3_1 g3_3_1
        go_wp2
        go_roundw
        case rel =>
         exact ⟨m - 1, q + q, r + r, rfl, by omega, by omega, by have := div_same (0) hm0 HEQ.out (ite_f HBT.out); rwa [Int.add_zero] at this, by have := HGE.out; omega, by have := HGE.out; omega, by omega, ⟨HI.out.inv.next (by repeat (first | exact Below.refl _ _ | refine Below.setCell ?_ (by first | omega | (simp <;> omega)) _ | refine Below.alloc ?_ (by first | omega | (simp <;> omega)) _ | refine Below.drew ?_ | refine Below.trans ?_ (Below.mono (by assumption) (by first | omega | (simp [World.setCell] <;> omega))))), HI.out.lo, HI.out.lt, by have := HI.out.sz; (try simp only [World.size_setCell]); omega, by go_simp, by go_simp, by go_simp, by go_simp, by go_simp, by go_simp, by go_simp, by go_simp⟩⟩
        case measure => simp [intOf]; omega
       ·have HGE := hide hge
        clear hge
        have HQ := hide (div_bd (div_sub (0) hm0 HEQ.out (ite_f HBT.out)) HN.out hd0 (by omega) (by have := HGE.out; omega))
        have HR1 : Hid (R127 (r + r)) := hide (by constructor <;> omega)
        have HMD : Hid (R127 (-d)) := hide (by constructor <;> omega)
        have HSUB : Hid (R127 (r + r + -d)) := hide (by constructor <;> omega)
        go_wp2_with fail
        refine (rtwice r (by constructor <;> omega) (by constructor <;> omega) _).mono ?_
        rintro e w1 ⟨rfl, hb1⟩
        obtain ⟨hc1, hf1⟩ := bcell hb1
        have hz1 := hb1.size
        try simp only [World.size_alloc, World.size_setCell] at hz1
        try have : w.heap.size < w1.heap.size := by omega
        try have : w.heap.size ≤ w1.heap.size := by omega
        try have : w.heap.size + 1 < w1.heap.size := by omega
        try have : w.heap.size + 1 ≤ w1.heap.size := by omega
        try have : w.heap.size + 1 + 1 < w1.heap.size := by omega
        try have : w.heap.size + 1 + 1 ≤ w1.heap.size := by omega
        try have : w.heap.size + 1 + 1 + 1 < w1.heap.size := by omega
        try have : w.heap.size + 1 + 1 + 1 ≤ w1.heap.size := by omega
        try have : bq < w1.heap.size := by omega
        try have : bq ≤ w1.heap.size := by omega
        try have : br < w1.heap.size := by omega
        try have : br ≤ w1.heap.size := by omega
        have c1_0_0 : w1.cell? ⟨w.heap.size, 0, none⟩ = some (.int .i64 (wH (n))) := by go_simp
        have c1_0_1 : w1.cell? ⟨w.heap.size, 1, none⟩ = some (.int .u64 (wL (n))) := by go_simp
        have c1_1_0 : w1.cell? ⟨w.heap.size + 1, 0, none⟩ = some (.int .i64 (wH (d))) := by go_simp
        have c1_1_1 : w1.cell? ⟨w.heap.size + 1, 1, none⟩ = some (.int .u64 (wL (d))) := by go_simp
        have c1_2_0 : w1.cell? ⟨bq, 0, none⟩ = some (.int .i64 (wH (q))) := by go_simp
        have g1_2_0 : w1.frozen? ⟨bq, 0, none⟩ = false := by go_simp
        have c1_2_1 : w1.cell? ⟨bq, 1, none⟩ = some (.int .u64 (wL (q))) := by go_simp
        have g1_2_1 : w1.frozen? ⟨bq, 1, none⟩ = false := by go_simp
        have c1_3_0 : w1.cell? ⟨br, 0, none⟩ = some (.int .i64 (wH (r))) := by go_simp
        have g1_3_0 : w1.frozen? ⟨br, 0, none⟩ = false := by go_simp
        have c1_3_1 : w1.cell? ⟨br, 1, none⟩ = some (.int .u64 (wL (r))) := by go_simp
        have g1_3_1 : w1.frozen? ⟨br, 1, none⟩ = false := by go_simp
        clear hc1 hf1
        go_wp2_with fail
        refine (rbit_i n m HN.out (by omega) false HBT.out _).mono ?_
        rintro e w2 ⟨rfl, hb2⟩
        obtain ⟨hc2, hf2⟩ := bcell hb2
        have hz2 := hb2.size
        try simp only [World.size_alloc, World.size_setCell] at hz2
        try have : w.heap.size < w2.heap.size := by omega
        try have : w.heap.size ≤ w2.heap.size := by omega
        try have : w.heap.size + 1 < w2.heap.size := by omega
        try have : w.heap.size + 1 ≤ w2.heap.size := by omega
        try have : w.heap.size + 1 + 1 < w2.heap.size := by omega
        try have : w.heap.size + 1 + 1 ≤ w2.heap.size := by omega
        try have : w.heap.size + 1 + 1 + 1 < w2.heap.size := by omega
        try have : w.heap.size + 1 + 1 + 1 ≤ w2.heap.size := by omega
        try have : bq < w2.heap.size := by omega
        try have : bq ≤ w2.heap.size := by omega
        try have : br < w2.heap.size := by omega
        try have : br ≤ w2.heap.size := by omega
        have c2_0_0 : w2.cell? ⟨w.heap.size, 0, none⟩ = some (.int .i64 (wH (n))) := by go_simp
        have c2_0_1 : w2.cell? ⟨w.heap.size, 1, none⟩ = some (.int .u64 (wL (n))) := by go_simp
        have c2_1_0 : w2.cell? ⟨w.heap.size + 1, 0, none⟩ = some (.int .i64 (wH (d))) := by go_simp
        have c2_1_1 : w2.cell? ⟨w.heap.size + 1, 1, none⟩ = some (.int .u64 (wL (d))) := by go_simp
        have c2_2_0 : w2.cell? ⟨bq, 0, none⟩ = some (.int .i64 (wH (q))) := by go_simp
        have g2_2_0 : w2.frozen? ⟨bq, 0, none⟩ = false := by go_simp
        have c2_2_1 : w2.cell? ⟨bq, 1, none⟩ = some (.int .u64 (wL (q))) := by go_simp
        have g2_2_1 : w2.frozen? ⟨bq, 1, none⟩ = false := by go_simp
        have c2_3_0 : w2.cell? ⟨br, 0, none⟩ = some (.int .i64 (wH (r + r))) := by go_simp
        have g2_3_0 : w2.frozen? ⟨br, 0, none⟩ = false := by go_simp
        have c2_3_1 : w2.cell? ⟨br, 1, none⟩ = some (.int .u64 (wL (r + r))) := by go_simp
        have g2_3_1 : w2.frozen? ⟨br, 1, none⟩ = false := by go_simp
        clear hc2 hf2 c1_0_0 c1_0_1 c1_1_0 c1_1_1 c1_2_0 g1_2_0 c1_2_1 g1_2_1 c1_3_0 g1_3_0 c1_3_1 g1_3_1
        go_wp2_with fail
        refine (rtwice q (by have := HQ.out; constructor <;> omega) (by have := HQ.out; constructor <;> omega) _).mono ?_
        rintro e w3 ⟨rfl, hb3⟩
        obtain ⟨hc3, hf3⟩ := bcell hb3
        have hz3 := hb3.size
        try simp only [World.size_alloc, World.size_setCell] at hz3
        try have : w.heap.size < w3.heap.size := by omega
        try have : w.heap.size ≤ w3.heap.size := by omega
        try have : w.heap.size + 1 < w3.heap.size := by omega
        try have : w.heap.size + 1 ≤ w3.heap.size := by omega
        try have : w.heap.size + 1 + 1 < w3.heap.size := by omega
        try have : w.heap.size + 1 + 1 ≤ w3.heap.size := by omega
        try have : w.heap.size + 1 + 1 + 1 < w3.heap.size := by omega
        try have : w.heap.size + 1 + 1 + 1 ≤ w3.heap.size := by omega
        try have : bq < w3.heap.size := by omega
        try have : bq ≤ w3.heap.size := by omega
        try have : br < w3.heap.size := by omega
        try have : br ≤ w3.heap.size := by omega
        have c3_0_0 : w3.cell? ⟨w.heap.size, 0, none⟩ = some (.int .i64 (wH (n))) := by go_simp
        have c3_0_1 : w3.cell? ⟨w.heap.size, 1, none⟩ = some (.int .u64 (wL (n))) := by go_simp
        have c3_1_0 : w3.cell? ⟨w.heap.size + 1, 0, none⟩ = some (.int .i64 (wH (d))) := by go_simp
        have c3_1_1 : w3.cell? ⟨w.heap.size + 1, 1, none⟩ = some (.int .u64 (wL (d))) := by go_simp
        have c3_2_0 : w3.cell? ⟨bq, 0, none⟩ = some (.int .i64 (wH (q))) := by go_simp
        have g3_2_0 : w3.frozen? ⟨bq, 0, none⟩ = false := by go_simp
        have c3_2_1 : w3.cell? ⟨bq, 1, none⟩ = some (.int .u64 (wL (q))) := by go_simp
        have g3_2_1 : w3.frozen? ⟨bq, 1, none⟩ = false := by go_simp
        have c3_3_0 : w3.cell? ⟨br, 0, none⟩ = some (.int .i64 (wH (r + r))) := by go_simp
        have g3_3_0 : w3.frozen? ⟨br, 0, none⟩ = false := by go_simp
        have c3_3_1 : w3.cell? ⟨br, 1, none⟩ = some (.int .u64 (wL (r + r))) := by go_simp
        have g3_3_1 : w3.frozen? ⟨br, 1, none⟩ = false := by go_simp
        clear hc3 hf3 c2_0_0 c2_0_1 c2_1_0 c2_1_1 c2_2_0 g2_2_0 c2_2_1 g2_2_1 c2_3_0 g2_3_0 c2_3_1 g2_3_1
        go_wp2_with fail
        refine (rless_r (r + r) d false (by rw [decide_eq_false_iff_not]; have := HGE.out; omega) _).mono ?_
        rintro e w4 ⟨rfl, hb4⟩
        obtain ⟨hc4, hf4⟩ := bcell hb4
        have hz4 := hb4.size
        try simp only [World.size_alloc, World.size_setCell] at hz4
        try have : w.heap.size < w4.heap.size := by omega
        try have : w.heap.size ≤ w4.heap.size := by omega
        try have : w.heap.size + 1 < w4.heap.size := by omega
        try have : w.heap.size + 1 ≤ w4.heap.size := by omega
        try have : w.heap.size + 1 + 1 < w4.heap.size := by omega
        try have : w.heap.size + 1 + 1 ≤ w4.heap.size := by omega
        try have : w.heap.size + 1 + 1 + 1 < w4.heap.size := by omega
        try have : w.heap.size + 1 + 1 + 1 ≤ w4.heap.size := by omega
        try have : bq < w4.heap.size := by omega
        try have : bq ≤ w4.heap.size := by omega
        try have : br < w4.heap.size := by omega
        try have : br ≤ w4.heap.size := by omega
        have c4_0_0 : w4.cell? ⟨w.heap.size, 0, none⟩ = some (.int .i64 (wH (n))) := by go_simp
        have c4_0_1 : w4.cell? ⟨w.heap.size, 1, none⟩ = some (.int .u64 (wL (n))) := by go_simp
        have c4_1_0 : w4.cell? ⟨w.heap.size + 1, 0, none⟩ = some (.int .i64 (wH (d))) := by go_simp
        have c4_1_1 : w4.cell? ⟨w.heap.size + 1, 1, none⟩ = some (.int .u64 (wL (d))) := by go_simp
        have c4_2_0 : w4.cell? ⟨bq, 0, none⟩ = some (.int .i64 (wH (q + q))) := by go_simp
        have g4_2_0 : w4.frozen? ⟨bq, 0, none⟩ = false := by go_simp
        have c4_2_1 : w4.cell? ⟨bq, 1, none⟩ = some (.int .u64 (wL (q + q))) := by go_simp
        have g4_2_1 : w4.frozen? ⟨bq, 1, none⟩ = false := by go_simp
        have c4_3_0 : w4.cell? ⟨br, 0, none⟩ = some (.int .i64 (wH (r + r))) := by go_simp
        have g4_3_0 : w4.frozen? ⟨br, 0, none⟩ = false := by go_simp
        have c4_3_1 : w4.cell? ⟨br, 1, none⟩ = some (.int .u64 (wL (r + r))) := by go_simp
        have g4_3_1 : w4.frozen? ⟨br, 1, none⟩ = false := by go_simp
        clear hc4 hf4 c3_0_0 c3_0_1 c3_1_0 c3_1_1 c3_2_0 g3_2_0 c3_2_1 g3_2_1 c3_3_0 g3_3_0 c3_3_1 g3_3_1
        go_wp2_with fail
        refine QT.tail_b 4 (by kernel_rfl) (by kernel_rfl) ?_
        simp only [List.take_succ_cons, List.take_zero, List.drop_succ_cons, List.drop_zero]
        repeat (first
         | go_big_quiet_skip
         | (go_big_quiet_want; go_big_quiet_op; first
          | go_big_quiet_on
          | (apply Exists.intro
             refine ⟨fun _ => ?_, ?_⟩
             ·first
              | rfl
              | (intro hC; obtain ⟨hcq, hfq⟩ := bcellB hC; go_simp; done)
              | (intro hC; obtain ⟨hcq, hfq⟩ := bcellB hC; go_simp; rfl)
              | (intro hC; have hcq := bcellG hC; go_simp; done)
              | (intro hC; have hcq := bcellG hC; go_simp; rfl)
              | (intro hC; go_at_call 59; (first | (with_reducible refine (rminus d HDR.out _).mono ?_)); (intro e w2 hw; exact ⟨hw.1, qtrans (by simp) hC hw.2⟩))
              | (intro hC; go_at_call 63; (first | (with_reducible refine (rplus (r + r) (-d) HR1.out HMD.out HSUB.out _).mono ?_)); (intro e w2 hw; exact ⟨hw.1, qtrans (by simp) hC hw.2⟩))
             go_big_quiet_on)))
        refine wpQuiet_nil ?_
        intro w9 hC9
        obtain ⟨hc9, hf9⟩ := bcellB hC9
        have hz9 := hC9.size
        try simp only [World.size_alloc, World.size_setCell] at hz9
        have : w.heap.size < w9.heap.size := by omega
        have : w.heap.size + 1 < w9.heap.size := by omega
        have : w.heap.size + 1 + 1 < w9.heap.size := by omega
        have : w.heap.size + 1 + 1 + 1 < w9.heap.size := by omega
        have : bq < w9.heap.size := by omega
        have : br < w9.heap.size := by omega
        have c9_0_0 : w9.cell? ⟨w.heap.size, 0, none⟩ = some (.int .i64 (wH (n))) := by go_simp
        have c9_0_1 : w9.cell? ⟨w.heap.size, 1, none⟩ = some (.int .u64 (wL (n))) := by go_simp
        have c9_1_0 : w9.cell? ⟨w.heap.size + 1, 0, none⟩ = some (.int .i64 (wH (d))) := by go_simp
        have c9_1_1 : w9.cell? ⟨w.heap.size + 1, 1, none⟩ = some (.int .u64 (wL (d))) := by go_simp
        have c9_2_0 : w9.cell? ⟨bq, 0, none⟩ = some (.int .i64 (wH (q + q))) := by go_simp
        have g9_2_0 : w9.frozen? ⟨bq, 0, none⟩ = false := by go_simp
        have c9_2_1 : w9.cell? ⟨bq, 1, none⟩ = some (.int .u64 (wL (q + q))) := by go_simp
        have g9_2_1 : w9.frozen? ⟨bq, 1, none⟩ = false := by go_simp
        have c9_3_0 : w9.cell? ⟨br, 0, none⟩ = some (.int .i64 (wH (r + r))) := by go_simp
        have g9_3_0 : w9.frozen? ⟨br, 0, none⟩ = false := by go_simp
        have c9_3_1 : w9.cell? ⟨br, 1, none⟩ = some (.int .u64 (wL (r + r))) := by go_simp
        have g9_3_1 : w9.frozen? ⟨br, 1, none⟩ = false := by go_simp
        clear hc9 hf9 c4_0_0 c4_0_1 c4_1_0 c4_1_1 c4_2_0 g4_2_0 c4_2_1 g4_2_1 c4_3_0 g4_3_0 c4_3_1 g4_3_1
        go_wp2_with fail
        refine (rplus1 (q + q) (by have := HQ.out; constructor <;> omega) (by have := HQ.out; constructor <;> omega) _).mono ?_
        rintro e w20 ⟨rfl, hb20⟩
        obtain ⟨hc20, hf20⟩ := bcell hb20
        have hz20 := hb20.size
        try simp only [World.size_alloc, World.size_setCell] at hz20
        try have : w.heap.size < w20.heap.size := by omega
        try have : w.heap.size ≤ w20.heap.size := by omega
        try have : w.heap.size + 1 < w20.heap.size := by omega
        try have : w.heap.size + 1 ≤ w20.heap.size := by omega
        try have : w.heap.size + 1 + 1 < w20.heap.size := by omega
        try have : w.heap.size + 1 + 1 ≤ w20.heap.size := by omega
        try have : w.heap.size + 1 + 1 + 1 < w20.heap.size := by omega
        try have : w.heap.size + 1 + 1 + 1 ≤ w20.heap.size := by omega
        try have : bq < w20.heap.size := by omega
        try have : bq ≤ w20.heap.size := by omega
        try have : br < w20.heap.size := by omega
        try have : br ≤ w20.heap.size := by omega
        have c20_0_0 : w20.cell? ⟨w.heap.size, 0, none⟩ = some (.int .i64 (wH (n))) := by go_simp
        have c20_0_1 : w20.cell? ⟨w.heap.size, 1, none⟩ = some (.int .u64 (wL (n))) := by go_simp
        have c20_1_0 : w20.cell? ⟨w.heap.size + 1, 0, none⟩ = some (.int .i64 (wH (d))) := by go_simp
        have c20_1_1 : w20.cell? ⟨w.heap.size + 1, 1, none⟩ = some (.int .u64 (wL (d))) := by go_simp
        have c20_2_0 : w20.cell? ⟨bq, 0, none⟩ = some (.int .i64 (wH (q + q))) := by go_simp
        have g20_2_0 : w20.frozen? ⟨bq, 0, none⟩ = false := by go_simp
        have c20_2_1 : w20.cell? ⟨bq, 1, none⟩ = some (.int .u64 (wL (q + q))) := by go_simp
        have g20_2_1 : w20.frozen? ⟨bq, 1, none⟩ = false := by go_simp
        have c20_3_0 : w20.cell? ⟨br, 0, none⟩ = some (.int .i64 (wH (r + r + -d))) := by go_simp
        have g20_3_0 : w20.frozen? ⟨br, 0, none⟩ = false := by go_simp
        have c20_3_1 : w20.cell? ⟨br, 1, none⟩ = some (.int .u64 (wL (r + r + -d))) := by go_simp
        have g20_3_1 : w20.frozen? ⟨br, 1, none⟩ = false := by go_simp
        clear hc20 hf20 c9_0_0 c9_0_1 c9_1_0 c9_1_1 c9_2_0 g9_2_0 c9_2_1 g9_2_1 c9_3_0 g9_3_0 c9_3_1 g9_3_1
        go_wp2
        go_roundw
        case rel =>
         exact ⟨m - 1, q + q + 1, r + r + -d, rfl, by omega, by omega, by have := div_sub (0) hm0 HEQ.out (ite_f HBT.out); rwa [Int.add_zero] at this, by have := HGE.out; omega, by have := HGE.out; omega, by omega, ⟨HI.out.inv.next (by repeat (first | exact Below.refl _ _ | refine Below.setCell ?_ (by first | omega | (simp <;> omega)) _ | refine Below.alloc ?_ (by first | omega | (simp <;> omega)) _ | refine Below.drew ?_ | refine Below.trans ?_ (Below.mono (by assumption) (by first | omega | (simp [World.setCell] <;> omega))))), HI.out.lo, HI.out.lt, by have := HI.out.sz; (try simp only [World.size_setCell]); omega, by go_simp, by go_simp, by go_simp, by go_simp, by go_simp, by go_simp, by go_simp, by go_simp⟩⟩
        case measure => simp [intOf]; omega

      ·have HBT := hide hbt
       clear hbt
       by_cases hge : r + r + 1 < d
       ·have HGE := hide hge
        clear hge
        have HQ := hide (div_bd (div_same (1) hm0 HEQ.out (ite_t HBT.out)) HN.out hd0 (by omega) (by omega))
        go_wp2_with fail
        refine (rtwice r (by constructor <;> omega) (by constructor <;> omega) _).mono ?_
        rintro e w1 ⟨rfl, hb1⟩
        obtain ⟨hc1, hf1⟩ := bcell hb1
        have hz1 := hb1.size
        try simp only [World.size_alloc, World.size_setCell] at hz1
        try have : w.heap.size < w1.heap.size := by omega
        try have : w.heap.size ≤ w1.heap.size := by omega
        try have : w.heap.size + 1 < w1.heap.size := by omega
        try have : w.heap.size + 1 ≤ w1.heap.size := by omega
        try have : w.heap.size + 1 + 1 < w1.heap.size := by omega
        try have : w.heap.size + 1 + 1 ≤ w1.heap.size := by omega
        try have : w.heap.size + 1 + 1 + 1 < w1.heap.size := by omega
        try have : w.heap.size + 1 + 1 + 1 ≤ w1.heap.size := by omega
        try have : bq < w1.heap.size := by omega
        try have : bq ≤ w1.heap.size := by omega
        try have : br < w1.heap.size := by omega
        try have : br ≤ w1.heap.size := by omega
        have c1_0_0 : w1.cell? ⟨w.heap.size, 0, none⟩ = some (.int .i64 (wH (n))) := by go_simp
        have c1_0_1 : w1.cell? ⟨w.heap.size, 1, none⟩ = some (.int .u64 (wL (n))) := by go_simp
        have c1_1_0 : w1.cell? ⟨w.heap.size + 1, 0, none⟩ = some (.int .i64 (wH (d))) := by go_simp
        have c1_1_1 : w1.cell? ⟨w.heap.size + 1, 1, none⟩ = some (.int .u64 (wL (d))) := by go_simp
        have c1_2_0 : w1.cell? ⟨bq, 0, none⟩ = some (.int .i64 (wH (q))) := by go_simp
        have g1_2_0 : w1.frozen? ⟨bq, 0, none⟩ = false := by go_simp
        have c1_2_1 : w1.cell? ⟨bq, 1, none⟩ = some (.int .u64 (wL (q))) := by go_simp
        have g1_2_1 : w1.frozen? ⟨bq, 1, none⟩ = false := by go_simp
        have c1_3_0 : w1.cell? ⟨br, 0, none⟩ = some (.int .i64 (wH (r))) := by go_simp
        have g1_3_0 : w1.frozen? ⟨br, 0, none⟩ = false := by go_simp
        have c1_3_1 : w1.cell? ⟨br, 1, none⟩ = some (.int .u64 (wL (r))) := by go_simp
        have g1_3_1 : w1.frozen? ⟨br, 1, none⟩ = false := by go_simp
        clear hc1 hf1
        go_wp2_with fail
        refine (rbit_i n m HN.out (by omega) true HBT.out _).mono ?_
        rintro e w2 ⟨rfl, hb2⟩
        obtain ⟨hc2, hf2⟩ := bcell hb2
        have hz2 := hb2.size
        try simp only [World.size_alloc, World.size_setCell] at hz2
        try have : w.heap.size < w2.heap.size := by omega
        try have : w.heap.size ≤ w2.heap.size := by omega
        try have : w.heap.size + 1 < w2.heap.size := by omega
        try have : w.heap.size + 1 ≤ w2.heap.size := by omega
        try have : w.heap.size + 1 + 1 < w2.heap.size := by omega
        try have : w.heap.size + 1 + 1 ≤ w2.heap.size := by omega
        try have : w.heap.size + 1 + 1 + 1 < w2.heap.size := by omega
        try have : w.heap.size + 1 + 1 + 1 ≤ w2.heap.size := by omega
        try have : bq < w2.heap.size := by omega
        try have : bq ≤ w2.heap.size := by omega
        try have : br < w2.heap.size := by omega
        try have : br ≤ w2.heap.size := by omega
        have c2_0_0 : w2.cell? ⟨w.heap.size, 0, none⟩ = some (.int .i64 (wH (n))) := by go_simp
        have c2_0_1 : w2.cell? ⟨w.heap.size, 1, none⟩ = some (.int .u64 (wL (n))) := by go_simp
        have c2_1_0 : w2.cell? ⟨w.heap.size + 1, 0, none⟩ = some (.int .i64 (wH (d))) := by go_simp
        have c2_1_1 : w2.cell? ⟨w.heap.size + 1, 1, none⟩ = some (.int .u64 (wL (d))) := by go_simp
        have c2_2_0 : w2.cell? ⟨bq, 0, none⟩ = some (.int .i64 (wH (q))) := by go_simp
        have g2_2_0 : w2.frozen? ⟨bq, 0, none⟩ = false := by go_simp
        have c2_2_1 : w2.cell? ⟨bq, 1, none⟩ = some (.int .u64 (wL (q))) := by go_simp
        have g2_2_1 : w2.frozen? ⟨bq, 1, none⟩ = false := by go_simp
        have c2_3_0 : w2.cell? ⟨br, 0, none⟩ = some (.int .i64 (wH (r + r))) := by go_simp
        have g2_3_0 : w2.frozen? ⟨br, 0, none⟩ = false := by go_simp
        have c2_3_1 : w2.cell? ⟨br, 1, none⟩ = some (.int .u64 (wL (r + r))) := by go_simp
        have g2_3_1 : w2.frozen? ⟨br, 1, none⟩ = false := by go_simp
        clear hc2 hf2 c1_0_0 c1_0_1 c1_1_0 c1_1_1 c1_2_0 g1_2_0 c1_2_1 g1_2_1 c1_3_0 g1_3_0 c1_3_1 g1_3_1
        go_wp2_with fail
        refine (rplus1 (r + r) (by constructor <;> omega) (by constructor <;> omega) _).mono ?_
        rintro e w3 ⟨rfl, hb3⟩
        obtain ⟨hc3, hf3⟩ := bcell hb3
        have hz3 := hb3.size
        try simp only [World.size_alloc, World.size_setCell] at hz3
        try have : w.heap.size < w3.heap.size := by omega
        try have : w.heap.size ≤ w3.heap.size := by omega
        try have : w.heap.size + 1 < w3.heap.size := by omega
        try have : w.heap.size + 1 ≤ w3.heap.size := by omega
        try have : w.heap.size + 1 + 1 < w3.heap.size := by omega
        try have : w.heap.size + 1 + 1 ≤ w3.heap.size := by omega
        try have : w.heap.size + 1 + 1 + 1 < w3.heap.size := by omega
        try have : w.heap.size + 1 + 1 + 1 ≤ w3.heap.size := by omega
        try have : bq < w3.heap.size := by omega
        try have : bq ≤ w3.heap.size := by omega
        try have : br < w3.heap.size := by omega
        try have : br ≤ w3.heap.size := by omega
        have c3_0_0 : w3.cell? ⟨w.heap.size, 0, none⟩ = some (.int .i64 (wH (n))) := by go_simp
        have c3_0_1 : w3.cell? ⟨w.heap.size, 1, none⟩ = some (.int .u64 (wL (n))) := by go_simp
        have c3_1_0 : w3.cell? ⟨w.heap.size + 1, 0, none⟩ = some (.int .i64 (wH (d))) := by go_simp
        have c3_1_1 : w3.cell? ⟨w.heap.size + 1, 1, none⟩ = some (.int .u64 (wL (d))) := by go_simp
        have c3_2_0 : w3.cell? ⟨bq, 0, none⟩ = some (.int .i64 (wH (q))) := by go_simp
        have g3_2_0 : w3.frozen? ⟨bq, 0, none⟩ = false := by go_simp
        have c3_2_1 : w3.cell? ⟨bq, 1, none⟩ = some (.int .u64 (wL (q))) := by go_simp
        have g3_2_1 : w3.frozen? ⟨bq, 1, none⟩ = false := by go_simp
        have c3_3_0 : w3.cell? ⟨br, 0, none⟩ = some (.int .i64 (wH (r + r))) := by go_simp
        have g3_3_0 : w3.frozen? ⟨br, 0, none⟩ = false := by go_simp
        have c3_3_1 : w3.cell? ⟨br, 1, none⟩ = some (.int .u64 (wL (r + r))) := by go_simp
        have g3_3_1 : w3.frozen? ⟨br, 1, none⟩ = false := by go_simp
        clear hc3 hf3 c2_0_0 c2_0_1 c2_1_0 c2_1_1 c2_2_0 g2_2_0 c2_2_1 g2_2_1 c2_3_0 g2_3_0 c2_3_1 g2_3_1
        go_wp2_with fail
        refine (rtwice q (by have := HQ.out; constructor <;> omega) (by have := HQ.out; constructor <;> omega) _).mono ?_
        rintro e w4 ⟨rfl, hb4⟩
        obtain ⟨hc4, hf4⟩ := bcell hb4
        have hz4 := hb4.size
        try simp only [World.size_alloc, World.size_setCell] at hz4
        try have : w.heap.size < w4.heap.size := by omega
        try have : w.heap.size ≤ w4.heap.size := by omega
        try have : w.heap.size + 1 < w4.heap.size := by omega
        try have : w.heap.size + 1 ≤ w4.heap.size := by omega
        try have : w.heap.size + 1 + 1 < w4.heap.size := by omega
        try have : w.heap.size + 1 + 1 ≤ w4.heap.size := by omega
        try have : w.heap.size + 1 + 1 + 1 < w4.heap.size := by omega
        try have : w.heap.size + 1 + 1 + 1 ≤ w4.heap.size := by omega
        try have : bq < w4.heap.size := by omega
        try have : bq ≤ w4.heap.size := by omega
        try have : br < w4.heap.size := by omega
        try have : br ≤ w4.heap.size := by omega
        have c4_0_0 : w4.cell? ⟨w.heap.size, 0, none⟩ = some (.int .i64 (wH (n))) := by go_simp
        have c4_0_1 : w4.cell? ⟨w.heap.size, 1, none⟩ = some (.int .u64 (wL (n))) := by go_simp
        have c4_1_0 : w4.cell? ⟨w.heap.size + 1, 0, none⟩ = some (.int .i64 (wH (d))) := by go_simp
        have c4_1_1 : w4.cell? ⟨w.heap.size + 1, 1, none⟩ = some (.int .u64 (wL (d))) := by go_simp
        have c4_2_0 : w4.cell? ⟨bq, 0, none⟩ = some (.int .i64 (wH (q))) := by go_simp
        have g4_2_0 : w4.frozen? ⟨bq, 0, none⟩ = false := by go_simp
        have c4_2_1 : w4.cell? ⟨bq, 1, none⟩ = some (.int .u64 (wL (q))) := by go_simp
        have g4_2_1 : w4.frozen? ⟨bq, 1, none⟩ = false := by go_simp
        have c4_3_0 : w4.cell? ⟨br, 0, none⟩ = some (.int .i64 (wH (r + r + 1))) := by go_simp
        have g4_3_0 : w4.frozen? ⟨br, 0, none⟩ = false := by go_simp
        have c4_3_1 : w4.cell? ⟨br, 1, none⟩ = some (.int .u64 (wL (r + r + 1))) := by go_simp
        have g4_3_1 : w4.frozen? ⟨br, 1, none⟩ = false := by go_simp
        clear hc4 hf4 c3_0_0 c3_0_1 c3_1_0 c3_1_1 c3_2_0 g3_2_0 c3_2_1 g3_2_1 c3_3_0 g3_3_0 c3_3_1 g3_3_1
        go_wp2_with fail
        refine (rless_r (r + r + 1) d true (by rw [decide_eq_true_eq]; exact HGE.out) _).mono ?_
        rintro e w5 ⟨rfl, hb5⟩
        obtain ⟨hc5, hf5⟩ := bcell hb5
        have hz5 := hb5.size
        try simp only [World.size_alloc, World.size_setCell] at hz5
        try have : w.heap.size < w5.heap.size := by omega
        try have : w.heap.size ≤ w5.heap.size := by omega
        try have : w.heap.size + 1 < w5.heap.size := by omega
        try have : w.heap.size + 1 ≤ w5.heap.size := by omega
        try have : w.heap.size + 1 + 1 < w5.heap.size := by omega
        try have : w.heap.size + 1 + 1 ≤ w5.heap.size := by omega
        try have : w.heap.size + 1 + 1 + 1 < w5.heap.size := by omega
        try have : w.heap.size + 1 + 1 + 1 ≤ w5.heap.size := by omega
        try have : bq < w5.heap.size := by omega
        try have : bq ≤ w5.heap.size := by omega
        try have : br < w5.heap.size := by omega
        try have : br ≤ w5.heap.size := by omega
        have c5_0_0 : w5.cell? ⟨w.heap.size, 0, none⟩ = some (.int .i64 (wH (n))) := by go_simp
        have c5_0_1 : w5.cell? ⟨w.heap.size, 1, none⟩ = some (.int .u64 (wL (n))) := by go_simp
        have c5_1_0 : w5.cell? ⟨w.heap.size + 1, 0, none⟩ = some (.int .i64 (wH (d))) := by go_simp
        have c5_1_1 : w5.cell? ⟨w.heap.size + 1, 1, none⟩ = some (.int .u64 (wL (d))) := by go_simp
        have c5_2_0 : w5.cell? ⟨bq, 0, none⟩ = some (.int .i64 (wH (q + q))) := by go_simp
        have g5_2_0 : w5.frozen? ⟨bq, 0, none⟩ = false := by go_simp
        have c5_2_1 : w5.cell? ⟨bq, 1, none⟩ = some (.int .u64 (wL (q + q))) := by go_simp
        have g5_2_1 : w5.frozen? ⟨bq, 1, none⟩ = false := by go_simp
        have c5_3_0 : w5.cell? ⟨br, 0, none⟩ = some (.int .i64 (wH (r + r + 1))) := by go_simp
        have g5_3_0 : w5.frozen? ⟨br, 0, none⟩ = false := by go_simp
        have c5_3_1 : w5.cell? ⟨br, 1, none⟩ = some (.int .u64 (wL (r + r + 1))) := by go_simp
        have g5_3_1 : w5.frozen? ⟨br, 1, none⟩ = false := by go_simp
        clear hc5 hf5 c4_0_0 c4_0_1 c4_1_0 c4_1_1 c4_2_0 g4_2_0 c4_2_1 g4_2_1 c4_3_0 g4_3_0 c4_3_1 g4_3_1
        go_wp2
        go_roundw
        case rel =>
         exact ⟨m - 1, q + q, r + r + 1, rfl, by omega, by omega, by have := div_same (1) hm0 HEQ.out (ite_t HBT.out); exact this, by have := HGE.out; omega, by have := HGE.out; omega, by omega, ⟨HI.out.inv.next (by repeat (first | exact Below.refl _ _ | refine Below.setCell ?_ (by first | omega | (simp <;> omega)) _ | refine Below.alloc ?_ (by first | omega | (simp <;> omega)) _ | refine Below.drew ?_ | refine Below.trans ?_ (Below.mono (by assumption) (by first | omega | (simp [World.setCell] <;> omega))))), HI.out.lo, HI.out.lt, by have := HI.out.sz; (try simp only [World.size_setCell]); omega, by go_simp, by go_simp, by go_simp, by go_simp, by go_simp, by go_simp, by go_simp, by go_simp⟩⟩
        case measure => simp [intOf]; omega
       ·have HGE := hide hge
        clear hge
        have HQ := hide (div_bd (div_sub (1) hm0 HEQ.out (ite_t HBT.out)) HN.out hd0 (by omega) (by have := HGE.out; omega))
        have HR1 : Hid (R127 (r + r + 1)) := hide (by constructor <;> omega)
        have HMD : Hid (R127 (-d)) := hide (by constructor <;> omega)
        have HSUB : Hid (R127 (r + r + 1 + -d)) := hide (by constructor <;> omega)
        go_wp2_with fail
        refine (rtwice r (by constructor <;> omega) (by constructor <;> omega) _).mono ?_
        rintro e w1 ⟨rfl, hb1⟩
        obtain ⟨hc1, hf1⟩ := bcell hb1
        have hz1 := hb1.size
        try simp only [World.size_alloc, World.size_setCell] at hz1
        try have : w.heap.size < w1.heap.size := by omega
        try have : w.heap.size ≤ w1.heap.size := by omega
        try have : w.heap.size + 1 < w1.heap.size := by omega
        try have : w.heap.size + 1 ≤ w1.heap.size := by omega
        try have : w.heap.size + 1 + 1 < w1.heap.size := by omega
        try have : w.heap.size + 1 + 1 ≤ w1.heap.size := by omega
        try have : w.heap.size + 1 + 1 + 1 < w1.heap.size := by omega
        try have : w.heap.size + 1 + 1 + 1 ≤ w1.heap.size := by omega
        try have : bq < w1.heap.size := by omega
        try have : bq ≤ w1.heap.size := by omega
        try have : br < w1.heap.size := by omega
        try have : br ≤ w1.heap.size := by omega
        have c1_0_0 : w1.cell? ⟨w.heap.size, 0, none⟩ = some (.int .i64 (wH (n))) := by go_simp
        have c1_0_1 : w1.cell? ⟨w.heap.size, 1, none⟩ = some (.int .u64 (wL (n))) := by go_simp
        have c1_1_0 : w1.cell? ⟨w.heap.size + 1, 0, none⟩ = some (.int .i64 (wH (d))) := by go_simp
        have c1_1_1 : w1.cell? ⟨w.heap.size + 1, 1, none⟩ = some (.int .u64 (wL (d))) := by go_simp
        have c1_2_0 : w1.cell? ⟨bq, 0, none⟩ = some (.int .i64 (wH (q))) := by go_simp
        have g1_2_0 : w1.frozen? ⟨bq, 0, none⟩ = false := by go_simp
        have c1_2_1 : w1.cell? ⟨bq, 1, none⟩ = some (.int .u64 (wL (q))) := by go_simp
        have g1_2_1 : w1.frozen? ⟨bq, 1, none⟩ = false := by go_simp
        have c1_3_0 : w1.cell? ⟨br, 0, none⟩ = some (.int .i64 (wH (r))) := by go_simp
        have g1_3_0 : w1.frozen? ⟨br, 0, none⟩ = false := by go_simp
        have c1_3_1 : w1.cell? ⟨br, 1, none⟩ = some (.int .u64 (wL (r))) := by go_simp
        have g1_3_1 : w1.frozen? ⟨br, 1, none⟩ = false := by go_simp
        clear hc1 hf1
        go_wp2_with fail
        refine (rbit_i n m HN.out (by omega) true HBT.out _).mono ?_
        rintro e w2 ⟨rfl, hb2⟩
        obtain ⟨hc2, hf2⟩ := bcell hb2
        have hz2 := hb2.size
        try simp only [World.size_alloc, World.size_setCell] at hz2
        try have : w.heap.size < w2.heap.size := by omega
        try have : w.heap.size ≤ w2.heap.size := by omega
        try have : w.heap.size + 1 < w2.heap.size := by omega
        try have : w.heap.size + 1 ≤ w2.heap.size := by omega
        try have : w.heap.size + 1 + 1 < w2.heap.size := by omega
        try have : w.heap.size + 1 + 1 ≤ w2.heap.size := by omega
        try have : w.heap.size + 1 + 1 + 1 < w2.heap.size := by omega
        try have : w.heap.size + 1 + 1 + 1 ≤ w2.heap.size := by omega
        try have : bq < w2.heap.size := by omega
        try have : bq ≤ w2.heap.size := by omega
        try have : br < w2.heap.size := by omega
        try have : br ≤ w2.heap.size := by omega
        have c2_0_0 : w2.cell? ⟨w.heap.size, 0, none⟩ = some (.int .i64 (wH (n))) := by go_simp
        have c2_0_1 : w2.cell? ⟨w.heap.size, 1, none⟩ = some (.int .u64 (wL (n))) := by go_simp
        have c2_1_0 : w2.cell? ⟨w.heap.size + 1, 0, none⟩ = some (.int .i64 (wH (d))) := by go_simp
        have c2_1_1 : w2.cell? ⟨w.heap.size + 1, 1, none⟩ = some (.int .u64 (wL (d))) := by go_simp
        have c2_2_0 : w2.cell? ⟨bq, 0, none⟩ = some (.int .i64 (wH (q))) := by go_simp
        have g2_2_0 : w2.frozen? ⟨bq, 0, none⟩ = false := by go_simp
        have c2_2_1 : w2.cell? ⟨bq, 1, none⟩ = some (.int .u64 (wL (q))) := by go_simp
        have g2_2_1 : w2.frozen? ⟨bq, 1, none⟩ = false := by go_simp
        have c2_3_0 : w2.cell? ⟨br, 0, none⟩ = some (.int .i64 (wH (r + r))) := by go_simp
        have g2_3_0 : w2.frozen? ⟨br, 0, none⟩ = false := by go_simp
        have c2_3_1 : w2.cell? ⟨br, 1, none⟩ = some (.int .u64 (wL (r + r))) := by go_simp
        have g2_3_1 : w2.frozen? ⟨br, 1, none⟩ = false := by go_simp
        clear hc2 hf2 c1_0_0 c1_0_1 c1_1_0 c1_1_1 c1_2_0 g1_2_0 c1_2_1 g1_2_1 c1_3_0 g1_3_0 c1_3_1 g1_3_1
        go_wp2_with fail
        refine (rplus1 (r + r) (by constructor <;> omega) (by constructor <;> omega) _).mono ?_
        rintro e w3 ⟨rfl, hb3⟩
        obtain ⟨hc3, hf3⟩ := bcell hb3
        have hz3 := hb3.size
        try simp only [World.size_alloc, World.size_setCell] at hz3
        try have : w.heap.size < w3.heap.size := by omega
        try have : w.heap.size ≤ w3.heap.size := by omega
        try have : w.heap.size + 1 < w3.heap.size := by omega
        try have : w.heap.size + 1 ≤ w3.heap.size := by omega
        try have : w.heap.size + 1 + 1 < w3.heap.size := by omega
        try have : w.heap.size + 1 + 1 ≤ w3.heap.size := by omega
        try have : w.heap.size + 1 + 1 + 1 < w3.heap.size := by omega
        try have : w.heap.size + 1 + 1 + 1 ≤ w3.heap.size := by omega
        try have : bq < w3.heap.size := by omega
        try have : bq ≤ w3.heap.size := by omega
        try have : br < w3.heap.size := by omega
        try have : br ≤ w3.heap.size := by omega
        have c3_0_0 : w3.cell? ⟨w.heap.size, 0, none⟩ = some (.int .i64 (wH (n))) := by go_simp
        have c3_0_1 : w3.cell? ⟨w.heap.size, 1, none⟩ = some (.int .u64 (wL (n))) := by go_simp
        have c3_1_0 : w3.cell? ⟨w.heap.size + 1, 0, none⟩ = some (.int .i64 (wH (d))) := by go_simp
        have c3_1_1 : w3.cell? ⟨w.heap.size + 1, 1, none⟩ = some (.int .u64 (wL (d))) := by go_simp
        have c3_2_0 : w3.cell? ⟨bq, 0, none⟩ = some (.int .i64 (wH (q))) := by go_simp
        have g3_2_0 : w3.frozen? ⟨bq, 0, none⟩ = false := by go_simp
        have c3_2_1 : w3.cell? ⟨bq, 1, none⟩ = some (.int .u64 (wL (q))) := by go_simp
        have g3_2_1 : w3.frozen? ⟨bq, 1, none⟩ = false := by go_simp
        have c3_3_0 : w3.cell? ⟨br, 0, none⟩ = some (.int .i64 (wH (r + r))) := by go_simp
        have g3_3_0 : w3.frozen? ⟨br, 0, none⟩ = false := by go_simp
        have c3_3_1 : w3.cell? ⟨br, 1, none⟩ = some (.int .u64 (wL (r + r))) := by go_simp
        have g3_3_1 : w3.frozen? ⟨br, 1, none⟩ = false := by go_simp
        clear hc3 hf3 c2_0_0 c2_0_1 c2_1_0 c2_1_1 c2_2_0 g2_2_0 c2_2_1 g2_2_1 c2_3_0 g2_3_0 c2_3_1 g2_3_1
        go_wp2_with fail
        refine (rtwice q (by have := HQ.out; constructor <;> omega) (by have := HQ.out; constructor <;> omega) _).mono ?_
        rintro e w4 ⟨rfl, hb4⟩
        obtain ⟨hc4, hf4⟩ := bcell hb4
        have hz4 := hb4.size
        try simp only [World.size_alloc, World.size_setCell] at hz4
        try have : w.heap.size < w4.heap.size := by omega
        try have : w.heap.size ≤ w4.heap.size := by omega
        try have : w.heap.size + 1 < w4.heap.size := by omega
        try have : w.heap.size + 1 ≤ w4.heap.size := by omega
        try have : w.heap.size + 1 + 1 < w4.heap.size := by omega
        try have : w.heap.size + 1 + 1 ≤ w4.heap.size := by omega
        try have : w.heap.size + 1 + 1 + 1 < w4.heap.size := by omega
        try have : w.heap.size + 1 + 1 + 1 ≤ w4.heap.size := by omega
        try have : bq < w4.heap.size := by omega
        try have : bq ≤ w4.heap.size := by omega
        try have : br < w4.heap.size := by omega
        try have : br ≤ w4.heap.size := by omega
        have c4_0_0 : w4.cell? ⟨w.heap.size, 0, none⟩ = some (.int .i64 (wH (n))) := by go_simp
        have c4_0_1 : w4.cell? ⟨w.heap.size, 1, none⟩ = some (.int .u64 (wL (n))) := by go_simp
        have c4_1_0 : w4.cell? ⟨w.heap.size + 1, 0, none⟩ = some (.int .i64 (wH (d))) := by go_simp
        have c4_1_1 : w4.cell? ⟨w.heap.size + 1, 1, none⟩ = some (.int .u64 (wL (d))) := by go_simp
        have c4_2_0 : w4.cell? ⟨bq, 0, none⟩ = some (.int .i64 (wH (q))) := by go_simp
        have g4_2_0 : w4.frozen? ⟨bq, 0, none⟩ = false := by go_simp
        have c4_2_1 : w4.cell? ⟨bq, 1, none⟩ = some (.int .u64 (wL (q))) := by go_simp
        have g4_2_1 : w4.frozen? ⟨bq, 1, none⟩ = false := by go_simp
        have c4_3_0 : w4.cell? ⟨br, 0, none⟩ = some (.int .i64 (wH (r + r + 1))) := by go_simp
        have g4_3_0 : w4.frozen? ⟨br, 0, none⟩ = false := by go_simp
        have c4_3_1 : w4.cell? ⟨br, 1, none⟩ = some (.int .u64 (wL (r + r + 1))) := by go_simp
        have g4_3_1 : w4.frozen? ⟨br, 1, none⟩ = false := by go_simp
        clear hc4 hf4 c3_0_0 c3_0_1 c3_1_0 c3_1_1 c3_2_0 g3_2_0 c3_2_1 g3_2_1 c3_3_0 g3_3_0 c3_3_1 g3_3_1
        go_wp2_with fail
        refine (rless_r (r + r + 1) d false (by rw [decide_eq_false_iff_not]; have := HGE.out; omega) _).mono ?_
        rintro e w5 ⟨rfl, hb5⟩
        obtain ⟨hc5, hf5⟩ := bcell hb5
        have hz5 := hb5.size
        try simp only [World.size_alloc, World.size_setCell] at hz5
        try have : w.heap.size < w5.heap.size := by omega
        try have : w.heap.size ≤ w5.heap.size := by omega
        try have : w.heap.size + 1 < w5.heap.size := by omega
        try have : w.heap.size + 1 ≤ w5.heap.size := by omega
        try have : w.heap.size + 1 + 1 < w5.heap.size := by omega
        try have : w.heap.size + 1 + 1 ≤ w5.heap.size := by omega
        try have : w.heap.size + 1 + 1 + 1 < w5.heap.size := by omega
        try have : w.heap.size + 1 + 1 + 1 ≤ w5.heap.size := by omega
        try have : bq < w5.heap.size := by omega
        try have : bq ≤ w5.heap.size := by omega
        try have : br < w5.heap.size := by omega
        try have : br ≤ w5.heap.size := by omega
        have c5_0_0 : w5.cell? ⟨w.heap.size, 0, none⟩ = some (.int .i64 (wH (n))) := by go_simp
        have c5_0_1 : w5.cell? ⟨w.heap.size, 1, none⟩ = some (.int .u64 (wL (n))) := by go_simp
        have c5_1_0 : w5.cell? ⟨w.heap.size + 1, 0, none⟩ = some (.int .i64 (wH (d))) := by go_simp
        have c5_1_1 : w5.cell? ⟨w.heap.size + 1, 1, none⟩ = some (.int .u64 (wL (d))) := by go_simp
        have c5_2_0 : w5.cell? ⟨bq, 0, none⟩ = some (.int .i64 (wH (q + q))) := by go_simp
        have g5_2_0 : w5.frozen? ⟨bq, 0, none⟩ = false := by go_simp
        have c5_2_1 : w5.cell? ⟨bq, 1, none⟩ = some (.int .u64 (wL (q + q))) := by go_simp
        have g5_2_1 : w5.frozen? ⟨bq, 1, none⟩ = false := by go_simp
        have c5_3_0 : w5.cell? ⟨br, 0, none⟩ = some (.int .i64 (wH (r + r + 1))) := by go_simp
        have g5_3_0 : w5.frozen? ⟨br, 0, none⟩ = false := by go_simp
        have c5_3_1 : w5.cell? ⟨br, 1, none⟩ = some (.int .u64 (wL (r + r + 1))) := by go_simp
        have g5_3_1 : w5.frozen? ⟨br, 1, none⟩ = false := by go_simp
        clear hc5 hf5 c4_0_0 c4_0_1 c4_1_0 c4_1_1 c4_2_0 g4_2_0 c4_2_1 g4_2_1 c4_3_0 g4_3_0 c4_3_1 g4_3_1
        go_wp2_with fail
        refine QT.tail_b 4 (by kernel_rfl) (by kernel_rfl) ?_
        simp only [List.take_succ_cons, List.take_zero, List.drop_succ_cons, List.drop_zero]
        repeat (first
         | go_big_quiet_skip
         | (go_big_quiet_want; go_big_quiet_op; first
          | go_big_quiet_on
          | (apply Exists.intro
             refine ⟨fun _ => ?_, ?_⟩
             ·first
              | rfl
              | (intro hC; obtain ⟨hcq, hfq⟩ := bcellB hC; go_simp; done)
              | (intro hC; obtain ⟨hcq, hfq⟩ := bcellB hC; go_simp; rfl)
              | (intro hC; have hcq := bcellG hC; go_simp; done)
              | (intro hC; have hcq := bcellG hC; go_simp; rfl)
              | (intro hC; go_at_call 59; (first | (with_reducible refine (rminus d HDR.out _).mono ?_)); (intro e w2 hw; exact ⟨hw.1, qtrans (by simp) hC hw.2⟩))
              | (intro hC; go_at_call 63; (first | (with_reducible refine (rplus (r + r + 1) (-d) HR1.out HMD.out HSUB.out _).mono ?_)); (intro e w2 hw; exact ⟨hw.1, qtrans (by simp) hC hw.2⟩))
             go_big_quiet_on)))
        refine wpQuiet_nil ?_
        intro w9 hC9
        obtain ⟨hc9, hf9⟩ := bcellB hC9
        have hz9 := hC9.size
        try simp only [World.size_alloc, World.size_setCell] at hz9
        have : w.heap.size < w9.heap.size := by omega
        have : w.heap.size + 1 < w9.heap.size := by omega
        have : w.heap.size + 1 + 1 < w9.heap.size := by omega
        have : w.heap.size + 1 + 1 + 1 < w9.heap.size := by omega
        have : bq < w9.heap.size := by omega
        have : br < w9.heap.size := by omega
        have c9_0_0 : w9.cell? ⟨w.heap.size, 0, none⟩ = some (.int .i64 (wH (n))) := by go_simp
        have c9_0_1 : w9.cell? ⟨w.heap.size, 1, none⟩ = some (.int .u64 (wL (n))) := by go_simp
        have c9_1_0 : w9.cell? ⟨w.heap.size + 1, 0, none⟩ = some (.int .i64 (wH (d))) := by go_simp
        have c9_1_1 : w9.cell? ⟨w.heap.size + 1, 1, none⟩ = some (.int .u64 (wL (d))) := by go_simp
        have c9_2_0 : w9.cell? ⟨bq, 0, none⟩ = some (.int .i64 (wH (q + q))) := by go_simp
        have g9_2_0 : w9.frozen? ⟨bq, 0, none⟩ = false := by go_simp
        have c9_2_1 : w9.cell? ⟨bq, 1, none⟩ = some (.int .u64 (wL (q + q))) := by go_simp
        have g9_2_1 : w9.frozen? ⟨bq, 1, none⟩ = false := by go_simp
        have c9_3_0 : w9.cell? ⟨br, 0, none⟩ = some (.int .i64 (wH (r + r + 1))) := by go_simp
        have g9_3_0 : w9.frozen? ⟨br, 0, none⟩ = false := by go_simp
        have c9_3_1 : w9.cell? ⟨br, 1, none⟩ = some (.int .u64 (wL (r + r + 1))) := by go_simp
        have g9_3_1 : w9.frozen? ⟨br, 1, none⟩ = false := by go_simp
        clear hc9 hf9 c5_0_0 c5_0_1 c5_1_0 c5_1_1 c5_2_0 g5_2_0 c5_2_1 g5_2_1 c5_3_0 g5_3_0 c5_3_1 g5_3_1
        go_wp2_with fail
        refine (rplus1 (q + q) (by have := HQ.out; constructor <;> omega) (by have := HQ.out; constructor <;> omega) _).mono ?_
        rintro e w20 ⟨rfl, hb20⟩
        obtain ⟨hc20, hf20⟩ := bcell hb20
        have hz20 := hb20.size
        try simp only [World.size_alloc, World.size_setCell] at hz20
        try have : w.heap.size < w20.heap.size := by omega
        try have : w.heap.size ≤ w20.heap.size := by omega
        try have : w.heap.size + 1 < w20.heap.size := by omega
        try have : w.heap.size + 1 ≤ w20.heap.size := by omega
        try have : w.heap.size + 1 + 1 < w20.heap.size := by omega
        try have : w.heap.size + 1 + 1 ≤ w20.heap.size := by omega
        try have : w.heap.size + 1 + 1 + 1 < w20.heap.size := by omega
        try have : w.heap.size + 1 + 1 + 1 ≤ w20.heap.size := by omega
        try have : bq < w20.heap.size := by omega
        try have : bq ≤ w20.heap.size := by omega
        try have : br < w20.heap.size := by omega
        try have : br ≤ w20.heap.size := by omega
        have c20_0_0 : w20.cell? ⟨w.heap.size, 0, none⟩ = some (.int .i64 (wH (n))) := by go_simp
        have c20_0_1 : w20.cell? ⟨w.heap.size, 1, none⟩ = some (.int .u64 (wL (n))) := by go_simp
        have c20_1_0 : w20.cell? ⟨w.heap.size + 1, 0, none⟩ = some (.int .i64 (wH (d))) := by go_simp
        have c20_1_1 : w20.cell? ⟨w.heap.size + 1, 1, none⟩ = some (.int .u64 (wL (d))) := by go_simp
        have c20_2_0 : w20.cell? ⟨bq, 0, none⟩ = some (.int .i64 (wH (q + q))) := by go_simp
        have g20_2_0 : w20.frozen? ⟨bq, 0, none⟩ = false := by go_simp
        have c20_2_1 : w20.cell? ⟨bq, 1, none⟩ = some (.int .u64 (wL (q + q))) := by go_simp
        have g20_2_1 : w20.frozen? ⟨bq, 1, none⟩ = false := by go_simp
        have c20_3_0 : w20.cell? ⟨br, 0, none⟩ = some (.int .i64 (wH (r + r + 1 + -d))) := by go_simp
        have g20_3_0 : w20.frozen? ⟨br, 0, none⟩ = false := by go_simp
        have c20_3_1 : w20.cell? ⟨br, 1, none⟩ = some (.int .u64 (wL (r + r + 1 + -d))) := by go_simp
        have g20_3_1 : w20.frozen? ⟨br, 1, none⟩ = false := by go_simp
        clear hc20 hf20 c9_0_0 c9_0_1 c9_1_0 c9_1_1 c9_2_0 g9_2_0 c9_2_1 g9_2_1 c9_3_0 g9_3_0 c9_3_1 g9_3_1
        go_wp2
        go_roundw
        case rel =>
         exact ⟨m - 1, q + q + 1, r + r + 1 + -d, rfl, by omega, by omega, by have := div_sub (1) hm0 HEQ.out (ite_t HBT.out); exact this, by have := HGE.out; omega, by have := HGE.out; omega, by omega, ⟨HI.out.inv.next (by repeat (first | exact Below.refl _ _ | refine Below.setCell ?_ (by first | omega | (simp <;> omega)) _ | refine Below.alloc ?_ (by first | omega | (simp <;> omega)) _ | refine Below.drew ?_ | refine Below.trans ?_ (Below.mono (by assumption) (by first | omega | (simp [World.setCell] <;> omega))))), HI.out.lo, HI.out.lt, by have := HI.out.sz; (try simp only [World.size_setCell]); omega, by go_simp, by go_simp, by go_simp, by go_simp, by go_simp, by go_simp, by go_simp, by go_simp⟩⟩
        case measure => simp [intOf]; omega
     ·have HE := hide (div_end (show DivEq n d (-1) q r by have h := HEQ.out; rwa [show m = -1 by omega] at h) hr0 hr1)
      go_wp2_with fail
      go_region
      all_goals go_wp2
      all_goals rw [HE.out.1, HE.out.2]
      all_goals refine bodyPost_ret (v := .tuple #[.agg #[.int .i64 (wH (q)), .int .u64 (wL (q))], .agg #[.int .i64 (wH (r)), .int .u64 (wL (r))]]) (by simp only [results, Try.results74]; go_simp) rfl ⟨rfl, blw_⟩
end Go.Proofs.Ytbfdhpbnpncnnaa
end
