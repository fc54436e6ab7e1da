/- The law of the sums of layer 1. -/
import Derived.Test.YtbfbnmmgmkbieaaScale
import Derived.Test.YtbfbnmmgmkbieaaSum
import Derived.Test.YtbfbnmmgmkbieaaMid2
import Derived.Test.YtbfbnmmgmkbieaaRows
import Derived.ProofKit
import Derived.Lib.SmallJoins
set_option linter.unusedVariables false
set_option linter.unusedSimpArgs false
namespace Go.Proofs.Ytbfbnmmgmkbieaa
open Go.RowKit
namespace lawSpanSums
open Go.ChangeShapes Go.WideShapes Go.ChangeAt Go.Joins
set_option maxHeartbeats 4000000 in
theorem walk (al ah bl bh n : Int) (i0 : I64 al) (j0 : I64 ah) (i1 : I64 bl) (j1 : I64 bh) (k : I64 n) (w : World) :
    Calls Try.prog 4 #[.agg #[.int .i64 (al), .int .i64 (ah)], .agg #[.int .i64 (bl), .int .i64 (bh)], .int .i64 n] w fun e w' => e = .returned (.bool true) ∧ Below w.heap.size w w' := by
  have HA := hide (And.intro (add_any al ah bl bh i0 j0 i1 j1) (radd_any al ah bl bh i0 j0 i1 j1))
  have HS := hide (And.intro (sub_any al ah bl bh i0 j0 i1 j1) (rsub_any al ah bl bh i0 j0 i1 j1))
  have HG := hide (And.intro (neg_any al ah i0 j0) (rneg_any al ah i0 j0))
  have HK := hide (And.intro (scale_any al ah n i0 j0 k) (rscale_any al ah n i0 j0 k))
  clear i0 j0 i1 j1 k
  generalize okI (vB al ah && vB bl bh) (oLo (al + bl) (ah + bh)) = ral at *
  generalize okI (vB al ah && vB bl bh) (oHi (al + bl) (ah + bh)) = rah at *
  generalize errE (vB al ah && vB bl bh) (oE (al + bl) (ah + bh)) = rae at *
  generalize okI (vB al ah && vB bl bh) (oLo (al - bh) (ah - bl)) = rsl at *
  generalize okI (vB al ah && vB bl bh) (oHi (al - bh) (ah - bl)) = rsh at *
  generalize errE (vB al ah && vB bl bh) (oE (al - bh) (ah - bl)) = rse at *
  generalize okI (vB al ah) (-ah) = rgl at *
  generalize okI (vB al ah) (-al) = rgh at *
  generalize errE (vB al ah) 0 = rge at *
  generalize okI (vB al ah) (oLo (mi (al * n) (ah * n)) (mx (al * n) (ah * n))) = rkl at *
  generalize okI (vB al ah) (oHi (mi (al * n) (ah * n)) (mx (al * n) (ah * n))) = rkh at *
  generalize errE (vB al ah) (oE (mi (al * n) (ah * n)) (mx (al * n) (ah * n))) = rke at *
  go_enter Try.func4, Try.ntmps4
  go_wp2_with fail
  refine (HA.out.1 _).mono ?_
  rintro e w1 ⟨rfl, hb1⟩
  obtain ⟨hc1, hf1⟩ := bcell hb1
  have hz1 := hb1.size
  try simp only [World.size_alloc, World.size_setCell] at hz1
  try have : w.heap.size < w1.heap.size := by omega
  try have : w.heap.size < w1.heap.size + 1 := by omega
  try have : w.heap.size ≤ w1.heap.size := by omega
  try have : w.heap.size + 1 < w1.heap.size := by omega
  try have : w.heap.size + 1 < w1.heap.size + 1 := by omega
  try have : w.heap.size + 1 ≤ w1.heap.size := by omega
  have c1_0_0 : w1.cell? ⟨w.heap.size, 0, none⟩ = some (.int .i64 (al)) := by go_simp
  have c1_0_1 : w1.cell? ⟨w.heap.size, 1, none⟩ = some (.int .i64 (ah)) := by go_simp
  have c1_1_0 : w1.cell? ⟨w.heap.size + 1, 0, none⟩ = some (.int .i64 (bl)) := by go_simp
  have c1_1_1 : w1.cell? ⟨w.heap.size + 1, 1, none⟩ = some (.int .i64 (bh)) := by go_simp
  clear hc1 hf1
  go_wp2_with fail
  refine (HA.out.2 _).mono ?_
  rintro e w2 ⟨rfl, hb2⟩
  obtain ⟨hc2, hf2⟩ := bcell hb2
  have hz2 := hb2.size
  try simp only [World.size_alloc, World.size_setCell] at hz2
  try have : w.heap.size < w2.heap.size := by omega
  try have : w.heap.size < w2.heap.size + 1 := by omega
  try have : w.heap.size ≤ w2.heap.size := by omega
  try have : w.heap.size + 1 < w2.heap.size := by omega
  try have : w.heap.size + 1 < w2.heap.size + 1 := by omega
  try have : w.heap.size + 1 ≤ w2.heap.size := by omega
  try have : w1.heap.size < w2.heap.size := by omega
  try have : w1.heap.size < w2.heap.size + 1 := by omega
  try have : w1.heap.size ≤ w2.heap.size := by omega
  have c2_0_0 : w2.cell? ⟨w.heap.size, 0, none⟩ = some (.int .i64 (al)) := by go_simp
  have c2_0_1 : w2.cell? ⟨w.heap.size, 1, none⟩ = some (.int .i64 (ah)) := by go_simp
  have c2_1_0 : w2.cell? ⟨w.heap.size + 1, 0, none⟩ = some (.int .i64 (bl)) := by go_simp
  have c2_1_1 : w2.cell? ⟨w.heap.size + 1, 1, none⟩ = some (.int .i64 (bh)) := by go_simp
  have c2_2_0 : w2.cell? ⟨w1.heap.size, 0, none⟩ = some (.int .i64 (ral)) := by go_simp
  have c2_2_1 : w2.cell? ⟨w1.heap.size, 1, none⟩ = some (.int .i64 (rah)) := by go_simp
  clear hc2 hf2 c1_0_0 c1_0_1 c1_1_0 c1_1_1
  go_wp2_with fail
  refine (HS.out.1 _).mono ?_
  rintro e w3 ⟨rfl, hb3⟩
  obtain ⟨hc3, hf3⟩ := bcell hb3
  have hz3 := hb3.size
  try simp only [World.size_alloc, World.size_setCell] at hz3
  try have : w.heap.size < w3.heap.size := by omega
  try have : w.heap.size < w3.heap.size + 1 := by omega
  try have : w.heap.size ≤ w3.heap.size := by omega
  try have : w.heap.size + 1 < w3.heap.size := by omega
  try have : w.heap.size + 1 < w3.heap.size + 1 := by omega
  try have : w.heap.size + 1 ≤ w3.heap.size := by omega
  try have : w1.heap.size < w3.heap.size := by omega
  try have : w1.heap.size < w3.heap.size + 1 := by omega
  try have : w1.heap.size ≤ w3.heap.size := by omega
  try have : w2.heap.size < w3.heap.size := by omega
  try have : w2.heap.size < w3.heap.size + 1 := by omega
  try have : w2.heap.size ≤ w3.heap.size := by omega
  have c3_0_0 : w3.cell? ⟨w.heap.size, 0, none⟩ = some (.int .i64 (al)) := by go_simp
  have c3_0_1 : w3.cell? ⟨w.heap.size, 1, none⟩ = some (.int .i64 (ah)) := by go_simp
  have c3_1_0 : w3.cell? ⟨w.heap.size + 1, 0, none⟩ = some (.int .i64 (bl)) := by go_simp
  have c3_1_1 : w3.cell? ⟨w.heap.size + 1, 1, none⟩ = some (.int .i64 (bh)) := by go_simp
  have c3_2_0 : w3.cell? ⟨w1.heap.size, 0, none⟩ = some (.int .i64 (ral)) := by go_simp
  have c3_2_1 : w3.cell? ⟨w1.heap.size, 1, none⟩ = some (.int .i64 (rah)) := by go_simp
  have c3_3_0 : w3.cell? ⟨w2.heap.size, 0, none⟩ = some (.int .i64 (ral)) := by go_simp
  have c3_3_1 : w3.cell? ⟨w2.heap.size, 1, none⟩ = some (.int .i64 (rah)) := by go_simp
  clear hc3 hf3 c2_0_0 c2_0_1 c2_1_0 c2_1_1 c2_2_0 c2_2_1
  go_wp2_with fail
  refine (HS.out.2 _).mono ?_
  rintro e w4 ⟨rfl, hb4⟩
  obtain ⟨hc4, hf4⟩ := bcell hb4
  have hz4 := hb4.size
  try simp only [World.size_alloc, World.size_setCell] at hz4
  try have : w.heap.size < w4.heap.size := by omega
  try have : w.heap.size < w4.heap.size + 1 := by omega
  try have : w.heap.size ≤ w4.heap.size := by omega
  try have : w.heap.size + 1 < w4.heap.size := by omega
  try have : w.heap.size + 1 < w4.heap.size + 1 := by omega
  try have : w.heap.size + 1 ≤ w4.heap.size := by omega
  try have : w1.heap.size < w4.heap.size := by omega
  try have : w1.heap.size < w4.heap.size + 1 := by omega
  try have : w1.heap.size ≤ w4.heap.size := by omega
  try have : w2.heap.size < w4.heap.size := by omega
  try have : w2.heap.size < w4.heap.size + 1 := by omega
  try have : w2.heap.size ≤ w4.heap.size := by omega
  try have : w3.heap.size < w4.heap.size := by omega
  try have : w3.heap.size < w4.heap.size + 1 := by omega
  try have : w3.heap.size ≤ w4.heap.size := by omega
  have c4_0_0 : w4.cell? ⟨w.heap.size, 0, none⟩ = some (.int .i64 (al)) := by go_simp
  have c4_0_1 : w4.cell? ⟨w.heap.size, 1, none⟩ = some (.int .i64 (ah)) := by go_simp
  have c4_1_0 : w4.cell? ⟨w.heap.size + 1, 0, none⟩ = some (.int .i64 (bl)) := by go_simp
  have c4_1_1 : w4.cell? ⟨w.heap.size + 1, 1, none⟩ = some (.int .i64 (bh)) := by go_simp
  have c4_2_0 : w4.cell? ⟨w1.heap.size, 0, none⟩ = some (.int .i64 (ral)) := by go_simp
  have c4_2_1 : w4.cell? ⟨w1.heap.size, 1, none⟩ = some (.int .i64 (rah)) := by go_simp
  have c4_3_0 : w4.cell? ⟨w2.heap.size, 0, none⟩ = some (.int .i64 (ral)) := by go_simp
  have c4_3_1 : w4.cell? ⟨w2.heap.size, 1, none⟩ = some (.int .i64 (rah)) := by go_simp
  have c4_4_0 : w4.cell? ⟨w3.heap.size, 0, none⟩ = some (.int .i64 (rsl)) := by go_simp
  have c4_4_1 : w4.cell? ⟨w3.heap.size, 1, none⟩ = some (.int .i64 (rsh)) := by go_simp
  clear hc4 hf4 c3_0_0 c3_0_1 c3_1_0 c3_1_1 c3_2_0 c3_2_1 c3_3_0 c3_3_1
  go_wp2_with fail
  refine (HG.out.1 _).mono ?_
  rintro e w5 ⟨rfl, hb5⟩
  obtain ⟨hc5, hf5⟩ := bcell hb5
  have hz5 := hb5.size
  try simp only [World.size_alloc, World.size_setCell] at hz5
  try have : w.heap.size < w5.heap.size := by omega
  try have : w.heap.size < w5.heap.size + 1 := by omega
  try have : w.heap.size ≤ w5.heap.size := by omega
  try have : w.heap.size + 1 < w5.heap.size := by omega
  try have : w.heap.size + 1 < w5.heap.size + 1 := by omega
  try have : w.heap.size + 1 ≤ w5.heap.size := by omega
  try have : w1.heap.size < w5.heap.size := by omega
  try have : w1.heap.size < w5.heap.size + 1 := by omega
  try have : w1.heap.size ≤ w5.heap.size := by omega
  try have : w2.heap.size < w5.heap.size := by omega
  try have : w2.heap.size < w5.heap.size + 1 := by omega
  try have : w2.heap.size ≤ w5.heap.size := by omega
  try have : w3.heap.size < w5.heap.size := by omega
  try have : w3.heap.size < w5.heap.size + 1 := by omega
  try have : w3.heap.size ≤ w5.heap.size := by omega
  try have : w4.heap.size < w5.heap.size := by omega
  try have : w4.heap.size < w5.heap.size + 1 := by omega
  try have : w4.heap.size ≤ w5.heap.size := by omega
  have c5_0_0 : w5.cell? ⟨w.heap.size, 0, none⟩ = some (.int .i64 (al)) := by go_simp
  have c5_0_1 : w5.cell? ⟨w.heap.size, 1, none⟩ = some (.int .i64 (ah)) := by go_simp
  have c5_1_0 : w5.cell? ⟨w.heap.size + 1, 0, none⟩ = some (.int .i64 (bl)) := by go_simp
  have c5_1_1 : w5.cell? ⟨w.heap.size + 1, 1, none⟩ = some (.int .i64 (bh)) := by go_simp
  have c5_2_0 : w5.cell? ⟨w1.heap.size, 0, none⟩ = some (.int .i64 (ral)) := by go_simp
  have c5_2_1 : w5.cell? ⟨w1.heap.size, 1, none⟩ = some (.int .i64 (rah)) := by go_simp
  have c5_3_0 : w5.cell? ⟨w2.heap.size, 0, none⟩ = some (.int .i64 (ral)) := by go_simp
  have c5_3_1 : w5.cell? ⟨w2.heap.size, 1, none⟩ = some (.int .i64 (rah)) := by go_simp
  have c5_4_0 : w5.cell? ⟨w3.heap.size, 0, none⟩ = some (.int .i64 (rsl)) := by go_simp
  have c5_4_1 : w5.cell? ⟨w3.heap.size, 1, none⟩ = some (.int .i64 (rsh)) := by go_simp
  have c5_5_0 : w5.cell? ⟨w4.heap.size, 0, none⟩ = some (.int .i64 (rsl)) := by go_simp
  have c5_5_1 : w5.cell? ⟨w4.heap.size, 1, none⟩ = some (.int .i64 (rsh)) := by go_simp
  clear hc5 hf5 c4_0_0 c4_0_1 c4_1_0 c4_1_1 c4_2_0 c4_2_1 c4_3_0 c4_3_1 c4_4_0 c4_4_1
  go_wp2_with fail
  refine (HG.out.2 _).mono ?_
  rintro e w6 ⟨rfl, hb6⟩
  obtain ⟨hc6, hf6⟩ := bcell hb6
  have hz6 := hb6.size
  try simp only [World.size_alloc, World.size_setCell] at hz6
  try have : w.heap.size < w6.heap.size := by omega
  try have : w.heap.size < w6.heap.size + 1 := by omega
  try have : w.heap.size ≤ w6.heap.size := by omega
  try have : w.heap.size + 1 < w6.heap.size := by omega
  try have : w.heap.size + 1 < w6.heap.size + 1 := by omega
  try have : w.heap.size + 1 ≤ w6.heap.size := by omega
  try have : w1.heap.size < w6.heap.size := by omega
  try have : w1.heap.size < w6.heap.size + 1 := by omega
  try have : w1.heap.size ≤ w6.heap.size := by omega
  try have : w2.heap.size < w6.heap.size := by omega
  try have : w2.heap.size < w6.heap.size + 1 := by omega
  try have : w2.heap.size ≤ w6.heap.size := by omega
  try have : w3.heap.size < w6.heap.size := by omega
  try have : w3.heap.size < w6.heap.size + 1 := by omega
  try have : w3.heap.size ≤ w6.heap.size := by omega
  try have : w4.heap.size < w6.heap.size := by omega
  try have : w4.heap.size < w6.heap.size + 1 := by omega
  try have : w4.heap.size ≤ w6.heap.size := by omega
  try have : w5.heap.size < w6.heap.size := by omega
  try have : w5.heap.size < w6.heap.size + 1 := by omega
  try have : w5.heap.size ≤ w6.heap.size := by omega
  have c6_0_0 : w6.cell? ⟨w.heap.size, 0, none⟩ = some (.int .i64 (al)) := by go_simp
  have c6_0_1 : w6.cell? ⟨w.heap.size, 1, none⟩ = some (.int .i64 (ah)) := by go_simp
  have c6_1_0 : w6.cell? ⟨w.heap.size + 1, 0, none⟩ = some (.int .i64 (bl)) := by go_simp
  have c6_1_1 : w6.cell? ⟨w.heap.size + 1, 1, none⟩ = some (.int .i64 (bh)) := by go_simp
  have c6_2_0 : w6.cell? ⟨w1.heap.size, 0, none⟩ = some (.int .i64 (ral)) := by go_simp
  have c6_2_1 : w6.cell? ⟨w1.heap.size, 1, none⟩ = some (.int .i64 (rah)) := by go_simp
  have c6_3_0 : w6.cell? ⟨w2.heap.size, 0, none⟩ = some (.int .i64 (ral)) := by go_simp
  have c6_3_1 : w6.cell? ⟨w2.heap.size, 1, none⟩ = some (.int .i64 (rah)) := by go_simp
  have c6_4_0 : w6.cell? ⟨w3.heap.size, 0, none⟩ = some (.int .i64 (rsl)) := by go_simp
  have c6_4_1 : w6.cell? ⟨w3.heap.size, 1, none⟩ = some (.int .i64 (rsh)) := by go_simp
  have c6_5_0 : w6.cell? ⟨w4.heap.size, 0, none⟩ = some (.int .i64 (rsl)) := by go_simp
  have c6_5_1 : w6.cell? ⟨w4.heap.size, 1, none⟩ = some (.int .i64 (rsh)) := by go_simp
  have c6_6_0 : w6.cell? ⟨w5.heap.size, 0, none⟩ = some (.int .i64 (rgl)) := by go_simp
  have c6_6_1 : w6.cell? ⟨w5.heap.size, 1, none⟩ = some (.int .i64 (rgh)) := by go_simp
  clear hc6 hf6 c5_0_0 c5_0_1 c5_1_0 c5_1_1 c5_2_0 c5_2_1 c5_3_0 c5_3_1 c5_4_0 c5_4_1 c5_5_0 c5_5_1
  go_wp2_with fail
  refine (HK.out.1 _).mono ?_
  rintro e w7 ⟨rfl, hb7⟩
  obtain ⟨hc7, hf7⟩ := bcell hb7
  have hz7 := hb7.size
  try simp only [World.size_alloc, World.size_setCell] at hz7
  try have : w.heap.size < w7.heap.size := by omega
  try have : w.heap.size < w7.heap.size + 1 := by omega
  try have : w.heap.size ≤ w7.heap.size := by omega
  try have : w.heap.size + 1 < w7.heap.size := by omega
  try have : w.heap.size + 1 < w7.heap.size + 1 := by omega
  try have : w.heap.size + 1 ≤ w7.heap.size := by omega
  try have : w1.heap.size < w7.heap.size := by omega
  try have : w1.heap.size < w7.heap.size + 1 := by omega
  try have : w1.heap.size ≤ w7.heap.size := by omega
  try have : w2.heap.size < w7.heap.size := by omega
  try have : w2.heap.size < w7.heap.size + 1 := by omega
  try have : w2.heap.size ≤ w7.heap.size := by omega
  try have : w3.heap.size < w7.heap.size := by omega
  try have : w3.heap.size < w7.heap.size + 1 := by omega
  try have : w3.heap.size ≤ w7.heap.size := by omega
  try have : w4.heap.size < w7.heap.size := by omega
  try have : w4.heap.size < w7.heap.size + 1 := by omega
  try have : w4.heap.size ≤ w7.heap.size := by omega
  try have : w5.heap.size < w7.heap.size := by omega
  try have : w5.heap.size < w7.heap.size + 1 := by omega
  try have : w5.heap.size ≤ w7.heap.size := by omega
  try have : w6.heap.size < w7.heap.size := by omega
  try have : w6.heap.size < w7.heap.size + 1 := by omega
  try have : w6.heap.size ≤ w7.heap.size := by omega
  have c7_0_0 : w7.cell? ⟨w.heap.size, 0, none⟩ = some (.int .i64 (al)) := by go_simp
  have c7_0_1 : w7.cell? ⟨w.heap.size, 1, none⟩ = some (.int .i64 (ah)) := by go_simp
  have c7_1_0 : w7.cell? ⟨w.heap.size + 1, 0, none⟩ = some (.int .i64 (bl)) := by go_simp
  have c7_1_1 : w7.cell? ⟨w.heap.size + 1, 1, none⟩ = some (.int .i64 (bh)) := by go_simp
  have c7_2_0 : w7.cell? ⟨w1.heap.size, 0, none⟩ = some (.int .i64 (ral)) := by go_simp
  have c7_2_1 : w7.cell? ⟨w1.heap.size, 1, none⟩ = some (.int .i64 (rah)) := by go_simp
  have c7_3_0 : w7.cell? ⟨w2.heap.size, 0, none⟩ = some (.int .i64 (ral)) := by go_simp
  have c7_3_1 : w7.cell? ⟨w2.heap.size, 1, none⟩ = some (.int .i64 (rah)) := by go_simp
  have c7_4_0 : w7.cell? ⟨w3.heap.size, 0, none⟩ = some (.int .i64 (rsl)) := by go_simp
  have c7_4_1 : w7.cell? ⟨w3.heap.size, 1, none⟩ = some (.int .i64 (rsh)) := by go_simp
  have c7_5_0 : w7.cell? ⟨w4.heap.size, 0, none⟩ = some (.int .i64 (rsl)) := by go_simp
  have c7_5_1 : w7.cell? ⟨w4.heap.size, 1, none⟩ = some (.int .i64 (rsh)) := by go_simp
  have c7_6_0 : w7.cell? ⟨w5.heap.size, 0, none⟩ = some (.int .i64 (rgl)) := by go_simp
  have c7_6_1 : w7.cell? ⟨w5.heap.size, 1, none⟩ = some (.int .i64 (rgh)) := by go_simp
  have c7_7_0 : w7.cell? ⟨w6.heap.size, 0, none⟩ = some (.int .i64 (rgl)) := by go_simp
  have c7_7_1 : w7.cell? ⟨w6.heap.size, 1, none⟩ = some (.int .i64 (rgh)) := by go_simp
  clear hc7 hf7 c6_0_0 c6_0_1 c6_1_0 c6_1_1 c6_2_0 c6_2_1 c6_3_0 c6_3_1 c6_4_0 c6_4_1 c6_5_0 c6_5_1 c6_6_0 c6_6_1
  go_wp2_with fail
  refine (HK.out.2 _).mono ?_
  rintro e w8 ⟨rfl, hb8⟩
  obtain ⟨hc8, hf8⟩ := bcell hb8
  have hz8 := hb8.size
  try simp only [World.size_alloc, World.size_setCell] at hz8
  try have : w.heap.size < w8.heap.size := by omega
  try have : w.heap.size < w8.heap.size + 1 := by omega
  try have : w.heap.size ≤ w8.heap.size := by omega
  try have : w.heap.size + 1 < w8.heap.size := by omega
  try have : w.heap.size + 1 < w8.heap.size + 1 := by omega
  try have : w.heap.size + 1 ≤ w8.heap.size := by omega
  try have : w1.heap.size < w8.heap.size := by omega
  try have : w1.heap.size < w8.heap.size + 1 := by omega
  try have : w1.heap.size ≤ w8.heap.size := by omega
  try have : w2.heap.size < w8.heap.size := by omega
  try have : w2.heap.size < w8.heap.size + 1 := by omega
  try have : w2.heap.size ≤ w8.heap.size := by omega
  try have : w3.heap.size < w8.heap.size := by omega
  try have : w3.heap.size < w8.heap.size + 1 := by omega
  try have : w3.heap.size ≤ w8.heap.size := by omega
  try have : w4.heap.size < w8.heap.size := by omega
  try have : w4.heap.size < w8.heap.size + 1 := by omega
  try have : w4.heap.size ≤ w8.heap.size := by omega
  try have : w5.heap.size < w8.heap.size := by omega
  try have : w5.heap.size < w8.heap.size + 1 := by omega
  try have : w5.heap.size ≤ w8.heap.size := by omega
  try have : w6.heap.size < w8.heap.size := by omega
  try have : w6.heap.size < w8.heap.size + 1 := by omega
  try have : w6.heap.size ≤ w8.heap.size := by omega
  try have : w7.heap.size < w8.heap.size := by omega
  try have : w7.heap.size < w8.heap.size + 1 := by omega
  try have : w7.heap.size ≤ w8.heap.size := by omega
  have c8_0_0 : w8.cell? ⟨w.heap.size, 0, none⟩ = some (.int .i64 (al)) := by go_simp
  have c8_0_1 : w8.cell? ⟨w.heap.size, 1, none⟩ = some (.int .i64 (ah)) := by go_simp
  have c8_1_0 : w8.cell? ⟨w.heap.size + 1, 0, none⟩ = some (.int .i64 (bl)) := by go_simp
  have c8_1_1 : w8.cell? ⟨w.heap.size + 1, 1, none⟩ = some (.int .i64 (bh)) := by go_simp
  have c8_2_0 : w8.cell? ⟨w1.heap.size, 0, none⟩ = some (.int .i64 (ral)) := by go_simp
  have c8_2_1 : w8.cell? ⟨w1.heap.size, 1, none⟩ = some (.int .i64 (rah)) := by go_simp
  have c8_3_0 : w8.cell? ⟨w2.heap.size, 0, none⟩ = some (.int .i64 (ral)) := by go_simp
  have c8_3_1 : w8.cell? ⟨w2.heap.size, 1, none⟩ = some (.int .i64 (rah)) := by go_simp
  have c8_4_0 : w8.cell? ⟨w3.heap.size, 0, none⟩ = some (.int .i64 (rsl)) := by go_simp
  have c8_4_1 : w8.cell? ⟨w3.heap.size, 1, none⟩ = some (.int .i64 (rsh)) := by go_simp
  have c8_5_0 : w8.cell? ⟨w4.heap.size, 0, none⟩ = some (.int .i64 (rsl)) := by go_simp
  have c8_5_1 : w8.cell? ⟨w4.heap.size, 1, none⟩ = some (.int .i64 (rsh)) := by go_simp
  have c8_6_0 : w8.cell? ⟨w5.heap.size, 0, none⟩ = some (.int .i64 (rgl)) := by go_simp
  have c8_6_1 : w8.cell? ⟨w5.heap.size, 1, none⟩ = some (.int .i64 (rgh)) := by go_simp
  have c8_7_0 : w8.cell? ⟨w6.heap.size, 0, none⟩ = some (.int .i64 (rgl)) := by go_simp
  have c8_7_1 : w8.cell? ⟨w6.heap.size, 1, none⟩ = some (.int .i64 (rgh)) := by go_simp
  have c8_8_0 : w8.cell? ⟨w7.heap.size, 0, none⟩ = some (.int .i64 (rkl)) := by go_simp
  have c8_8_1 : w8.cell? ⟨w7.heap.size, 1, none⟩ = some (.int .i64 (rkh)) := by go_simp
  clear hc8 hf8 c7_0_0 c7_0_1 c7_1_0 c7_1_1 c7_2_0 c7_2_1 c7_3_0 c7_3_1 c7_4_0 c7_4_1 c7_5_0 c7_5_1 c7_6_0 c7_6_1 c7_7_0 c7_7_1
  go_wp2_with fail
  refine (same_any ral rah rae _).mono ?_
  rintro e w9 ⟨rfl, hb9⟩
  obtain ⟨hc9, hf9⟩ := bcell hb9
  have hz9 := hb9.size
  try simp only [World.size_alloc, World.size_setCell] at hz9
  try have : w.heap.size < w9.heap.size := by omega
  try have : w.heap.size ≤ w9.heap.size := by omega
  try have : w.heap.size + 1 < w9.heap.size := by omega
  try have : w.heap.size + 1 ≤ w9.heap.size := by omega
  try have : w1.heap.size < w9.heap.size := by omega
  try have : w1.heap.size ≤ w9.heap.size := by omega
  try have : w2.heap.size < w9.heap.size := by omega
  try have : w2.heap.size ≤ w9.heap.size := by omega
  try have : w3.heap.size < w9.heap.size := by omega
  try have : w3.heap.size ≤ w9.heap.size := by omega
  try have : w4.heap.size < w9.heap.size := by omega
  try have : w4.heap.size ≤ w9.heap.size := by omega
  try have : w5.heap.size < w9.heap.size := by omega
  try have : w5.heap.size ≤ w9.heap.size := by omega
  try have : w6.heap.size < w9.heap.size := by omega
  try have : w6.heap.size ≤ w9.heap.size := by omega
  try have : w7.heap.size < w9.heap.size := by omega
  try have : w7.heap.size ≤ w9.heap.size := by omega
  try have : w8.heap.size < w9.heap.size := by omega
  try have : w8.heap.size ≤ w9.heap.size := by omega
  have c9_0_0 : w9.cell? ⟨w.heap.size, 0, none⟩ = some (.int .i64 (al)) := by go_simp
  have c9_0_1 : w9.cell? ⟨w.heap.size, 1, none⟩ = some (.int .i64 (ah)) := by go_simp
  have c9_1_0 : w9.cell? ⟨w.heap.size + 1, 0, none⟩ = some (.int .i64 (bl)) := by go_simp
  have c9_1_1 : w9.cell? ⟨w.heap.size + 1, 1, none⟩ = some (.int .i64 (bh)) := by go_simp
  have c9_2_0 : w9.cell? ⟨w1.heap.size, 0, none⟩ = some (.int .i64 (ral)) := by go_simp
  have c9_2_1 : w9.cell? ⟨w1.heap.size, 1, none⟩ = some (.int .i64 (rah)) := by go_simp
  have c9_3_0 : w9.cell? ⟨w2.heap.size, 0, none⟩ = some (.int .i64 (ral)) := by go_simp
  have c9_3_1 : w9.cell? ⟨w2.heap.size, 1, none⟩ = some (.int .i64 (rah)) := by go_simp
  have c9_4_0 : w9.cell? ⟨w3.heap.size, 0, none⟩ = some (.int .i64 (rsl)) := by go_simp
  have c9_4_1 : w9.cell? ⟨w3.heap.size, 1, none⟩ = some (.int .i64 (rsh)) := by go_simp
  have c9_5_0 : w9.cell? ⟨w4.heap.size, 0, none⟩ = some (.int .i64 (rsl)) := by go_simp
  have c9_5_1 : w9.cell? ⟨w4.heap.size, 1, none⟩ = some (.int .i64 (rsh)) := by go_simp
  have c9_6_0 : w9.cell? ⟨w5.heap.size, 0, none⟩ = some (.int .i64 (rgl)) := by go_simp
  have c9_6_1 : w9.cell? ⟨w5.heap.size, 1, none⟩ = some (.int .i64 (rgh)) := by go_simp
  have c9_7_0 : w9.cell? ⟨w6.heap.size, 0, none⟩ = some (.int .i64 (rgl)) := by go_simp
  have c9_7_1 : w9.cell? ⟨w6.heap.size, 1, none⟩ = some (.int .i64 (rgh)) := by go_simp
  have c9_8_0 : w9.cell? ⟨w7.heap.size, 0, none⟩ = some (.int .i64 (rkl)) := by go_simp
  have c9_8_1 : w9.cell? ⟨w7.heap.size, 1, none⟩ = some (.int .i64 (rkh)) := by go_simp
  have c9_9_0 : w9.cell? ⟨w8.heap.size, 0, none⟩ = some (.int .i64 (rkl)) := by go_simp
  have c9_9_1 : w9.cell? ⟨w8.heap.size, 1, none⟩ = some (.int .i64 (rkh)) := by go_simp
  clear hc9 hf9 c8_0_0 c8_0_1 c8_1_0 c8_1_1 c8_2_0 c8_2_1 c8_3_0 c8_3_1 c8_4_0 c8_4_1 c8_5_0 c8_5_1 c8_6_0 c8_6_1 c8_7_0 c8_7_1 c8_8_0 c8_8_1
  go_wp2_with fail
  refine (same_any rsl rsh rse _).mono ?_
  rintro e w10 ⟨rfl, hb10⟩
  obtain ⟨hc10, hf10⟩ := bcell hb10
  have hz10 := hb10.size
  try simp only [World.size_alloc, World.size_setCell] at hz10
  try have : w.heap.size < w10.heap.size := by omega
  try have : w.heap.size ≤ w10.heap.size := by omega
  try have : w.heap.size + 1 < w10.heap.size := by omega
  try have : w.heap.size + 1 ≤ w10.heap.size := by omega
  try have : w1.heap.size < w10.heap.size := by omega
  try have : w1.heap.size ≤ w10.heap.size := by omega
  try have : w2.heap.size < w10.heap.size := by omega
  try have : w2.heap.size ≤ w10.heap.size := by omega
  try have : w3.heap.size < w10.heap.size := by omega
  try have : w3.heap.size ≤ w10.heap.size := by omega
  try have : w4.heap.size < w10.heap.size := by omega
  try have : w4.heap.size ≤ w10.heap.size := by omega
  try have : w5.heap.size < w10.heap.size := by omega
  try have : w5.heap.size ≤ w10.heap.size := by omega
  try have : w6.heap.size < w10.heap.size := by omega
  try have : w6.heap.size ≤ w10.heap.size := by omega
  try have : w7.heap.size < w10.heap.size := by omega
  try have : w7.heap.size ≤ w10.heap.size := by omega
  try have : w8.heap.size < w10.heap.size := by omega
  try have : w8.heap.size ≤ w10.heap.size := by omega
  have c10_0_0 : w10.cell? ⟨w.heap.size, 0, none⟩ = some (.int .i64 (al)) := by go_simp
  have c10_0_1 : w10.cell? ⟨w.heap.size, 1, none⟩ = some (.int .i64 (ah)) := by go_simp
  have c10_1_0 : w10.cell? ⟨w.heap.size + 1, 0, none⟩ = some (.int .i64 (bl)) := by go_simp
  have c10_1_1 : w10.cell? ⟨w.heap.size + 1, 1, none⟩ = some (.int .i64 (bh)) := by go_simp
  have c10_2_0 : w10.cell? ⟨w1.heap.size, 0, none⟩ = some (.int .i64 (ral)) := by go_simp
  have c10_2_1 : w10.cell? ⟨w1.heap.size, 1, none⟩ = some (.int .i64 (rah)) := by go_simp
  have c10_3_0 : w10.cell? ⟨w2.heap.size, 0, none⟩ = some (.int .i64 (ral)) := by go_simp
  have c10_3_1 : w10.cell? ⟨w2.heap.size, 1, none⟩ = some (.int .i64 (rah)) := by go_simp
  have c10_4_0 : w10.cell? ⟨w3.heap.size, 0, none⟩ = some (.int .i64 (rsl)) := by go_simp
  have c10_4_1 : w10.cell? ⟨w3.heap.size, 1, none⟩ = some (.int .i64 (rsh)) := by go_simp
  have c10_5_0 : w10.cell? ⟨w4.heap.size, 0, none⟩ = some (.int .i64 (rsl)) := by go_simp
  have c10_5_1 : w10.cell? ⟨w4.heap.size, 1, none⟩ = some (.int .i64 (rsh)) := by go_simp
  have c10_6_0 : w10.cell? ⟨w5.heap.size, 0, none⟩ = some (.int .i64 (rgl)) := by go_simp
  have c10_6_1 : w10.cell? ⟨w5.heap.size, 1, none⟩ = some (.int .i64 (rgh)) := by go_simp
  have c10_7_0 : w10.cell? ⟨w6.heap.size, 0, none⟩ = some (.int .i64 (rgl)) := by go_simp
  have c10_7_1 : w10.cell? ⟨w6.heap.size, 1, none⟩ = some (.int .i64 (rgh)) := by go_simp
  have c10_8_0 : w10.cell? ⟨w7.heap.size, 0, none⟩ = some (.int .i64 (rkl)) := by go_simp
  have c10_8_1 : w10.cell? ⟨w7.heap.size, 1, none⟩ = some (.int .i64 (rkh)) := by go_simp
  have c10_9_0 : w10.cell? ⟨w8.heap.size, 0, none⟩ = some (.int .i64 (rkl)) := by go_simp
  have c10_9_1 : w10.cell? ⟨w8.heap.size, 1, none⟩ = some (.int .i64 (rkh)) := by go_simp
  clear hc10 hf10 c9_0_0 c9_0_1 c9_1_0 c9_1_1 c9_2_0 c9_2_1 c9_3_0 c9_3_1 c9_4_0 c9_4_1 c9_5_0 c9_5_1 c9_6_0 c9_6_1 c9_7_0 c9_7_1 c9_8_0 c9_8_1 c9_9_0 c9_9_1
  go_wp2_with fail
  refine (same_any rgl rgh rge _).mono ?_
  rintro e w11 ⟨rfl, hb11⟩
  obtain ⟨hc11, hf11⟩ := bcell hb11
  have hz11 := hb11.size
  try simp only [World.size_alloc, World.size_setCell] at hz11
  try have : w.heap.size < w11.heap.size := by omega
  try have : w.heap.size ≤ w11.heap.size := by omega
  try have : w.heap.size + 1 < w11.heap.size := by omega
  try have : w.heap.size + 1 ≤ w11.heap.size := by omega
  try have : w1.heap.size < w11.heap.size := by omega
  try have : w1.heap.size ≤ w11.heap.size := by omega
  try have : w2.heap.size < w11.heap.size := by omega
  try have : w2.heap.size ≤ w11.heap.size := by omega
  try have : w3.heap.size < w11.heap.size := by omega
  try have : w3.heap.size ≤ w11.heap.size := by omega
  try have : w4.heap.size < w11.heap.size := by omega
  try have : w4.heap.size ≤ w11.heap.size := by omega
  try have : w5.heap.size < w11.heap.size := by omega
  try have : w5.heap.size ≤ w11.heap.size := by omega
  try have : w6.heap.size < w11.heap.size := by omega
  try have : w6.heap.size ≤ w11.heap.size := by omega
  try have : w7.heap.size < w11.heap.size := by omega
  try have : w7.heap.size ≤ w11.heap.size := by omega
  try have : w8.heap.size < w11.heap.size := by omega
  try have : w8.heap.size ≤ w11.heap.size := by omega
  have c11_0_0 : w11.cell? ⟨w.heap.size, 0, none⟩ = some (.int .i64 (al)) := by go_simp
  have c11_0_1 : w11.cell? ⟨w.heap.size, 1, none⟩ = some (.int .i64 (ah)) := by go_simp
  have c11_1_0 : w11.cell? ⟨w.heap.size + 1, 0, none⟩ = some (.int .i64 (bl)) := by go_simp
  have c11_1_1 : w11.cell? ⟨w.heap.size + 1, 1, none⟩ = some (.int .i64 (bh)) := by go_simp
  have c11_2_0 : w11.cell? ⟨w1.heap.size, 0, none⟩ = some (.int .i64 (ral)) := by go_simp
  have c11_2_1 : w11.cell? ⟨w1.heap.size, 1, none⟩ = some (.int .i64 (rah)) := by go_simp
  have c11_3_0 : w11.cell? ⟨w2.heap.size, 0, none⟩ = some (.int .i64 (ral)) := by go_simp
  have c11_3_1 : w11.cell? ⟨w2.heap.size, 1, none⟩ = some (.int .i64 (rah)) := by go_simp
  have c11_4_0 : w11.cell? ⟨w3.heap.size, 0, none⟩ = some (.int .i64 (rsl)) := by go_simp
  have c11_4_1 : w11.cell? ⟨w3.heap.size, 1, none⟩ = some (.int .i64 (rsh)) := by go_simp
  have c11_5_0 : w11.cell? ⟨w4.heap.size, 0, none⟩ = some (.int .i64 (rsl)) := by go_simp
  have c11_5_1 : w11.cell? ⟨w4.heap.size, 1, none⟩ = some (.int .i64 (rsh)) := by go_simp
  have c11_6_0 : w11.cell? ⟨w5.heap.size, 0, none⟩ = some (.int .i64 (rgl)) := by go_simp
  have c11_6_1 : w11.cell? ⟨w5.heap.size, 1, none⟩ = some (.int .i64 (rgh)) := by go_simp
  have c11_7_0 : w11.cell? ⟨w6.heap.size, 0, none⟩ = some (.int .i64 (rgl)) := by go_simp
  have c11_7_1 : w11.cell? ⟨w6.heap.size, 1, none⟩ = some (.int .i64 (rgh)) := by go_simp
  have c11_8_0 : w11.cell? ⟨w7.heap.size, 0, none⟩ = some (.int .i64 (rkl)) := by go_simp
  have c11_8_1 : w11.cell? ⟨w7.heap.size, 1, none⟩ = some (.int .i64 (rkh)) := by go_simp
  have c11_9_0 : w11.cell? ⟨w8.heap.size, 0, none⟩ = some (.int .i64 (rkl)) := by go_simp
  have c11_9_1 : w11.cell? ⟨w8.heap.size, 1, none⟩ = some (.int .i64 (rkh)) := by go_simp
  clear hc11 hf11 c10_0_0 c10_0_1 c10_1_0 c10_1_1 c10_2_0 c10_2_1 c10_3_0 c10_3_1 c10_4_0 c10_4_1 c10_5_0 c10_5_1 c10_6_0 c10_6_1 c10_7_0 c10_7_1 c10_8_0 c10_8_1 c10_9_0 c10_9_1
  go_wp2_with fail
  refine (same_any rkl rkh rke _).mono ?_
  rintro e w12 ⟨rfl, hb12⟩
  obtain ⟨hc12, hf12⟩ := bcell hb12
  have hz12 := hb12.size
  try simp only [World.size_alloc, World.size_setCell] at hz12
  try have : w.heap.size < w12.heap.size := by omega
  try have : w.heap.size ≤ w12.heap.size := by omega
  try have : w.heap.size + 1 < w12.heap.size := by omega
  try have : w.heap.size + 1 ≤ w12.heap.size := by omega
  try have : w1.heap.size < w12.heap.size := by omega
  try have : w1.heap.size ≤ w12.heap.size := by omega
  try have : w2.heap.size < w12.heap.size := by omega
  try have : w2.heap.size ≤ w12.heap.size := by omega
  try have : w3.heap.size < w12.heap.size := by omega
  try have : w3.heap.size ≤ w12.heap.size := by omega
  try have : w4.heap.size < w12.heap.size := by omega
  try have : w4.heap.size ≤ w12.heap.size := by omega
  try have : w5.heap.size < w12.heap.size := by omega
  try have : w5.heap.size ≤ w12.heap.size := by omega
  try have : w6.heap.size < w12.heap.size := by omega
  try have : w6.heap.size ≤ w12.heap.size := by omega
  try have : w7.heap.size < w12.heap.size := by omega
  try have : w7.heap.size ≤ w12.heap.size := by omega
  try have : w8.heap.size < w12.heap.size := by omega
  try have : w8.heap.size ≤ w12.heap.size := by omega
  have c12_0_0 : w12.cell? ⟨w.heap.size, 0, none⟩ = some (.int .i64 (al)) := by go_simp
  have c12_0_1 : w12.cell? ⟨w.heap.size, 1, none⟩ = some (.int .i64 (ah)) := by go_simp
  have c12_1_0 : w12.cell? ⟨w.heap.size + 1, 0, none⟩ = some (.int .i64 (bl)) := by go_simp
  have c12_1_1 : w12.cell? ⟨w.heap.size + 1, 1, none⟩ = some (.int .i64 (bh)) := by go_simp
  have c12_2_0 : w12.cell? ⟨w1.heap.size, 0, none⟩ = some (.int .i64 (ral)) := by go_simp
  have c12_2_1 : w12.cell? ⟨w1.heap.size, 1, none⟩ = some (.int .i64 (rah)) := by go_simp
  have c12_3_0 : w12.cell? ⟨w2.heap.size, 0, none⟩ = some (.int .i64 (ral)) := by go_simp
  have c12_3_1 : w12.cell? ⟨w2.heap.size, 1, none⟩ = some (.int .i64 (rah)) := by go_simp
  have c12_4_0 : w12.cell? ⟨w3.heap.size, 0, none⟩ = some (.int .i64 (rsl)) := by go_simp
  have c12_4_1 : w12.cell? ⟨w3.heap.size, 1, none⟩ = some (.int .i64 (rsh)) := by go_simp
  have c12_5_0 : w12.cell? ⟨w4.heap.size, 0, none⟩ = some (.int .i64 (rsl)) := by go_simp
  have c12_5_1 : w12.cell? ⟨w4.heap.size, 1, none⟩ = some (.int .i64 (rsh)) := by go_simp
  have c12_6_0 : w12.cell? ⟨w5.heap.size, 0, none⟩ = some (.int .i64 (rgl)) := by go_simp
  have c12_6_1 : w12.cell? ⟨w5.heap.size, 1, none⟩ = some (.int .i64 (rgh)) := by go_simp
  have c12_7_0 : w12.cell? ⟨w6.heap.size, 0, none⟩ = some (.int .i64 (rgl)) := by go_simp
  have c12_7_1 : w12.cell? ⟨w6.heap.size, 1, none⟩ = some (.int .i64 (rgh)) := by go_simp
  have c12_8_0 : w12.cell? ⟨w7.heap.size, 0, none⟩ = some (.int .i64 (rkl)) := by go_simp
  have c12_8_1 : w12.cell? ⟨w7.heap.size, 1, none⟩ = some (.int .i64 (rkh)) := by go_simp
  have c12_9_0 : w12.cell? ⟨w8.heap.size, 0, none⟩ = some (.int .i64 (rkl)) := by go_simp
  have c12_9_1 : w12.cell? ⟨w8.heap.size, 1, none⟩ = some (.int .i64 (rkh)) := by go_simp
  clear hc12 hf12 c11_0_0 c11_0_1 c11_1_0 c11_1_1 c11_2_0 c11_2_1 c11_3_0 c11_3_1 c11_4_0 c11_4_1 c11_5_0 c11_5_1 c11_6_0 c11_6_1 c11_7_0 c11_7_1 c11_8_0 c11_8_1 c11_9_0 c11_9_1
  go_wp2
  go_ret
  exact ⟨rfl, (by repeat (first | with_reducible exact Below.refl _ _ | ((with_reducible refine Below.setCell ?_ ?_ _); rotate_left; (first | omega | (simp <;> omega))) | ((with_reducible refine Below.alloc ?_ ?_ _); rotate_left; (first | omega | (simp <;> omega))) | (with_reducible refine Below.drew ?_) | ((with_reducible refine Below.trans ?_ (Below.mono hC9 ?_)); rotate_left; (first | omega | (simp <;> omega))) | ((with_reducible refine Below.trans ?_ (Below.mono hb1 ?_)); rotate_left; (first | omega | (simp <;> omega))) | ((with_reducible refine Below.trans ?_ (Below.mono hb2 ?_)); rotate_left; (first | omega | (simp <;> omega))) | ((with_reducible refine Below.trans ?_ (Below.mono hb3 ?_)); rotate_left; (first | omega | (simp <;> omega))) | ((with_reducible refine Below.trans ?_ (Below.mono hb4 ?_)); rotate_left; (first | omega | (simp <;> omega))) | ((with_reducible refine Below.trans ?_ (Below.mono hb5 ?_)); rotate_left; (first | omega | (simp <;> omega))) | ((with_reducible refine Below.trans ?_ (Below.mono hb6 ?_)); rotate_left; (first | omega | (simp <;> omega))) | ((with_reducible refine Below.trans ?_ (Below.mono hb7 ?_)); rotate_left; (first | omega | (simp <;> omega))) | ((with_reducible refine Below.trans ?_ (Below.mono hb8 ?_)); rotate_left; (first | omega | (simp <;> omega))) | ((with_reducible refine Below.trans ?_ (Below.mono hb9 ?_)); rotate_left; (first | omega | (simp <;> omega))) | ((with_reducible refine Below.trans ?_ (Below.mono hb10 ?_)); rotate_left; (first | omega | (simp <;> omega))) | ((with_reducible refine Below.trans ?_ (Below.mono hb11 ?_)); rotate_left; (first | omega | (simp <;> omega))) | ((with_reducible refine Below.trans ?_ (Below.mono hb12 ?_)); rotate_left; (first | omega | (simp <;> omega))) | ((with_reducible refine Below.trans ?_ (Below.mono hb13 ?_)); rotate_left; (first | omega | (simp <;> omega))) | ((with_reducible refine Below.trans ?_ (Below.mono hb14 ?_)); rotate_left; (first | omega | (simp <;> omega))) | ((with_reducible refine Below.trans ?_ (Below.mono hb15 ?_)); rotate_left; (first | omega | (simp <;> omega))) | ((with_reducible refine Below.trans ?_ (Below.mono hb16 ?_)); rotate_left; (first | omega | (simp <;> omega))) | ((with_reducible refine Below.trans ?_ (Below.mono hb17 ?_)); rotate_left; (first | omega | (simp <;> omega))) | ((with_reducible refine Below.trans ?_ (Below.mono hb18 ?_)); rotate_left; (first | omega | (simp <;> omega))) | ((with_reducible refine Below.trans ?_ (Below.mono hb19 ?_)); rotate_left; (first | omega | (simp <;> omega))) | ((with_reducible refine Below.trans ?_ (Below.mono hb20 ?_)); rotate_left; (first | omega | (simp <;> omega))) | ((with_reducible refine Below.trans ?_ (Below.mono hb21 ?_)); rotate_left; (first | omega | (simp <;> omega))) | ((with_reducible refine Below.trans ?_ (Below.mono hb22 ?_)); rotate_left; (first | omega | (simp <;> omega))) | ((with_reducible refine Below.trans ?_ (Below.mono hb23 ?_)); rotate_left; (first | omega | (simp <;> omega))) | ((with_reducible refine Below.trans ?_ (Below.mono hb24 ?_)); rotate_left; (first | omega | (simp <;> omega))) | ((with_reducible refine Below.trans ?_ (Below.mono hb25 ?_)); rotate_left; (first | omega | (simp <;> omega))) | ((with_reducible refine Below.trans ?_ (Below.mono (by assumption) ?_)); rotate_left; (first | omega | (simp <;> omega)))))⟩
theorem own : ownKnob Try.prog.godebug = none := by kernel_rfl
theorem cellsSpan : Try.prog.cellsOf 24 = 2 := by kernel_rfl
set_option maxRecDepth 100000 in
theorem lifted (os : Os) (started : os.Started) (H : Type) (enc : TypeId × Value → H) :
    ReturnsInHanded {} Try.checked os 4 .any (Rows.spanSumsSpec.pre6 enc Try.prog Try.f4 Rows.spanSumsRow.domain false) (Rows.spanSumsSpec.post enc Try.prog Try.f4 false true false false) := by
  refine returnsInHanded_of_change (C := Try.checked) own started (by kernel_rfl) Try.func4
    (ChangeSpec.witness6 (enc := enc) (C := Try.checked) false ⟨#[], #[.agg #[.int .i64 0, .int .i64 0], .agg #[.int .i64 0, .int .i64 0], .int .i64 0], []⟩ 8 (by kernel_rfl) (by kernel_rfl) (by kernel_rfl) (by kernel_rfl)) ?_
  intro W base args ds gs before hval0 hW _ _
  have hval : ∀ (j : Nat) t v, Try.f4.params[j]? = some t → args[j]? = some v → Value.okWide Try.prog W .any base t v := hval0
  have hW' := hW
  obtain ⟨p, q, hA0, hV, rfl, _, _⟩ := hW
  have hA : DataW.TrodAll enc Try.prog W 0 (fun _ => true) true Try.f4.params.toList args.toList ds p := hA0
  rw [Try.params4] at hA hval
  obtain ⟨v0, vs0, d0, ds0, p0, q0, hargs, rfl, rfl, h0, r0⟩ := trodAll_cons hA
  obtain ⟨v1, vs1, d1, ds1, p1, q1, rfl, rfl, rfl, h1, r1⟩ := trodAll_cons r0
  obtain ⟨v2, vs2, d2, ds2, p2, q2, rfl, rfl, rfl, h2, r2⟩ := trodAll_cons r1
  obtain ⟨rfl, rfl, rfl⟩ := trodAll_nil r2
  obtain rfl : args = #[v0, v1, v2] := by cases args; simp_all
  obtain ⟨rfl, rfl⟩ := trodVars_none hV
  obtain ⟨c00, c01, y00, y01, m0, rfl, rfl, rfl, hy00, hy01⟩ := open_agg2 Try.underlying24 (by kernel_rfl) cellsSpan (hval 0 24 v0 rfl rfl) h0
  obtain ⟨x00, e00, rfl, wf00⟩ := DataW.trod_int Try.underlying22 hy00
  obtain ⟨x01, e01, rfl, wf01⟩ := DataW.trod_int Try.underlying22 hy01
  simp at e00 e01
  subst e00 e01
  have rd0 : ∀ (W' : World) (sp : Nat → Bool), DataW.Trod enc Try.prog W' 0 sp true 24 (.agg #[.int .i64 x00, .int .i64 x01]) (.agg [.lit (.int .i64 x00), .lit (.int .i64 x01)]) [] := fun W' sp =>
    shut_agg2 (y0 := (.lit (.int .i64 x00), [])) (y1 := (.lit (.int .i64 x01), [])) Try.underlying24 (by kernel_rfl) cellsSpan ⟨1, by simp [DataW.trod, Try.underlying22, wf00]⟩ ⟨1, by simp [DataW.trod, Try.underlying22, wf01]⟩
  obtain ⟨c10, c11, y10, y11, m1, rfl, rfl, rfl, hy10, hy11⟩ := open_agg2 Try.underlying24 (by kernel_rfl) cellsSpan (hval 1 24 v1 rfl rfl) h1
  obtain ⟨x10, e10, rfl, wf10⟩ := DataW.trod_int Try.underlying22 hy10
  obtain ⟨x11, e11, rfl, wf11⟩ := DataW.trod_int Try.underlying22 hy11
  simp at e10 e11
  subst e10 e11
  have rd1 : ∀ (W' : World) (sp : Nat → Bool), DataW.Trod enc Try.prog W' 0 sp true 24 (.agg #[.int .i64 x10, .int .i64 x11]) (.agg [.lit (.int .i64 x10), .lit (.int .i64 x11)]) [] := fun W' sp =>
    shut_agg2 (y0 := (.lit (.int .i64 x10), [])) (y1 := (.lit (.int .i64 x11), [])) Try.underlying24 (by kernel_rfl) cellsSpan ⟨1, by simp [DataW.trod, Try.underlying22, wf10]⟩ ⟨1, by simp [DataW.trod, Try.underlying22, wf11]⟩
  obtain ⟨x2, rfl, rfl, rfl, wf2⟩ := open_int Try.underlying3 (hval 2 3 v2 rfl rfl) h2
  clear hA0 hval0
  simp only [List.append_nil] at hW'
  refine (walk x00 x01 x10 x11 x2 (i64_of_wf wf00) (i64_of_wf wf01) (i64_of_wf wf10) (i64_of_wf wf11) (i64_of_wf wf2) W).mono fun e W' ⟨he, hb⟩ => ?_
  subst he
  exact ⟨_, rfl, _, _, _, [], [], [], hW', (trodAll_cons_mk (shut_bool Try.underlying4 _) trodAll_mk0), (by have sp : Nat → Bool := fun b => decide (b < W.heap.size); exact (trodAll_cons_mk (rd0 _ _) (trodAll_cons_mk (rd1 _ _) (trodAll_cons_mk (shut_int Try.underlying3 wf2) trodAll_mk0)))), rfl, hb.frame _, fun h => by cases h⟩
theorem holds : Rows.SpanSumsSaid :=
  OpenClaim.holds_of_wide 4 Try.f4 rfl rfl rfl rfl rfl rfl rfl ⟨rfl, rfl, rfl, rfl, rfl⟩ rfl rfl rfl rfl rfl (by kernel_rfl) Try.func4 (by kernel_rfl)
    (of_decide_eq_true (by kernel_rfl)) (by unfold Func.isWrapper; first | (rw [if_pos (by decide +kernel)]; kernel_rfl) | (rw [if_neg (by decide +kernel)]; exact ⟨rfl, rfl⟩))
    (fun os started H enc _ => lifted os started H enc)
#print axioms holds
end lawSpanSums
end Go.Proofs.Ytbfbnmmgmkbieaa
