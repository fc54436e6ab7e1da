/- The law of the squares, roots and absolute values of layer 1. -/
import Derived.Test.YtbfbnmmgmkbieaaSquare
import Derived.Test.YtbfbnmmgmkbieaaRoot2
import Derived.Test.YtbfbnmmgmkbieaaMid2
import Derived.Test.YtbfbnmmgmkbieaaRows
import Derived.ProofKit
import Derived.Lib.SmallJoins
set_option linter.unusedVariables false
set_option linter.unusedSimpArgs false
namespace Go.Proofs.Ytbfbnmmgmkbieaa
open Go.RowKit
namespace lawSpanRoots
open Go.ChangeShapes Go.WideShapes Go.ChangeAt Go.Joins
set_option maxHeartbeats 8000000 in
theorem walk (al ah bl bh : Int) (i0 : I64 al) (j0 : I64 ah) (i1 : I64 bl) (j1 : I64 bh) (w : World) :
    Calls Try.prog 6 #[.agg #[.int .i64 (al), .int .i64 (ah)], .agg #[.int .i64 (bl), .int .i64 (bh)]] w fun e w' => e = .returned (.bool true) ∧ Below w.heap.size w w' := by
  have Hq := hide (And.intro (square_any al ah i0 j0) (rsquare_any al ah i0 j0))
  have Hr := hide (And.intro (sroot_any al ah i0 j0) (rsroot_any al ah i0 j0))
  have Ha := hide (And.intro (abs_any al ah i0 j0) (rabs_any al ah i0 j0))
  have Hm := hide (And.intro (most_any al ah bl bh i0 i1) (rmost_any al ah bl bh))
  have Hl := hide (And.intro (least_any al ah bl bh i0 i1) (rleast_any al ah bl bh))
  clear i0 j0 i1 j1
  generalize okI (vB al ah) (oLo (sqL (absL al ah) (absH al ah)) (sqH (absL al ah) (absH al ah))) = xql at *
  generalize okI (vB al ah) (oHi (sqL (absL al ah) (absH al ah)) (sqH (absL al ah) (absH al ah))) = xqh at *
  generalize errE (vB al ah) (oE (sqL (absL al ah) (absH al ah)) (sqH (absL al ah) (absH al ah))) = xqe at *
  generalize okI (vB al ah) (roL al ah) = xrl at *
  generalize okI (vB al ah) (roH ah) = xrh at *
  generalize errE (vB al ah) (roE ah) = xre at *
  generalize okI (vB al ah) (absL al ah) = xal at *
  generalize okI (vB al ah) (absH al ah) = xah at *
  generalize okI (vB al ah && vB bl bh) (mx al bl) = xml at *
  generalize okI (vB al ah && vB bl bh) (mx ah bh) = xmh at *
  generalize okI (vB al ah && vB bl bh) (mi al bl) = xll at *
  generalize okI (vB al ah && vB bl bh) (mi ah bh) = xlh at *
  generalize errE (vB al ah) 0 = xae at *
  generalize errE (vB al ah && vB bl bh) 0 = xme at *
  go_enter Try.func6, Try.ntmps6
  go_wp2_with fail
  refine (Hq.out.1 _).mono ?_
  rintro e w1 ⟨rfl, hb1⟩
  obtain ⟨hc1, hf1⟩ := bcell hb1
  have hz1 := hb1.size
  try simp only [World.size_alloc, World.size_setCell] at hz1
  try have : w.heap.size < w1.heap.size := by omega
  try have : w.heap.size < w1.heap.size + 1 := by omega
  try have : w.heap.size ≤ w1.heap.size := by omega
  try have : w.heap.size + 1 < w1.heap.size := by omega
  try have : w.heap.size + 1 < w1.heap.size + 1 := by omega
  try have : w.heap.size + 1 ≤ w1.heap.size := by omega
  have c1_0_0 : w1.cell? ⟨w.heap.size, 0, none⟩ = some (.int .i64 (al)) := by go_simp
  have c1_0_1 : w1.cell? ⟨w.heap.size, 1, none⟩ = some (.int .i64 (ah)) := by go_simp
  have c1_1_0 : w1.cell? ⟨w.heap.size + 1, 0, none⟩ = some (.int .i64 (bl)) := by go_simp
  have c1_1_1 : w1.cell? ⟨w.heap.size + 1, 1, none⟩ = some (.int .i64 (bh)) := by go_simp
  clear hc1 hf1
  go_wp2_with fail
  refine (Hq.out.2 _).mono ?_
  rintro e w2 ⟨rfl, hb2⟩
  obtain ⟨hc2, hf2⟩ := bcell hb2
  have hz2 := hb2.size
  try simp only [World.size_alloc, World.size_setCell] at hz2
  try have : w.heap.size < w2.heap.size := by omega
  try have : w.heap.size < w2.heap.size + 1 := by omega
  try have : w.heap.size ≤ w2.heap.size := by omega
  try have : w.heap.size + 1 < w2.heap.size := by omega
  try have : w.heap.size + 1 < w2.heap.size + 1 := by omega
  try have : w.heap.size + 1 ≤ w2.heap.size := by omega
  try have : w1.heap.size < w2.heap.size := by omega
  try have : w1.heap.size < w2.heap.size + 1 := by omega
  try have : w1.heap.size ≤ w2.heap.size := by omega
  have c2_0_0 : w2.cell? ⟨w.heap.size, 0, none⟩ = some (.int .i64 (al)) := by go_simp
  have c2_0_1 : w2.cell? ⟨w.heap.size, 1, none⟩ = some (.int .i64 (ah)) := by go_simp
  have c2_1_0 : w2.cell? ⟨w.heap.size + 1, 0, none⟩ = some (.int .i64 (bl)) := by go_simp
  have c2_1_1 : w2.cell? ⟨w.heap.size + 1, 1, none⟩ = some (.int .i64 (bh)) := by go_simp
  have c2_2_0 : w2.cell? ⟨w1.heap.size, 0, none⟩ = some (.int .i64 (xql)) := by go_simp
  have c2_2_1 : w2.cell? ⟨w1.heap.size, 1, none⟩ = some (.int .i64 (xqh)) := by go_simp
  clear hc2 hf2 c1_0_0 c1_0_1 c1_1_0 c1_1_1
  go_wp2_with fail
  refine (Hr.out.1 _).mono ?_
  rintro e w3 ⟨rfl, hb3⟩
  obtain ⟨hc3, hf3⟩ := bcell hb3
  have hz3 := hb3.size
  try simp only [World.size_alloc, World.size_setCell] at hz3
  try have : w.heap.size < w3.heap.size := by omega
  try have : w.heap.size < w3.heap.size + 1 := by omega
  try have : w.heap.size ≤ w3.heap.size := by omega
  try have : w.heap.size + 1 < w3.heap.size := by omega
  try have : w.heap.size + 1 < w3.heap.size + 1 := by omega
  try have : w.heap.size + 1 ≤ w3.heap.size := by omega
  try have : w1.heap.size < w3.heap.size := by omega
  try have : w1.heap.size < w3.heap.size + 1 := by omega
  try have : w1.heap.size ≤ w3.heap.size := by omega
  try have : w2.heap.size < w3.heap.size := by omega
  try have : w2.heap.size < w3.heap.size + 1 := by omega
  try have : w2.heap.size ≤ w3.heap.size := by omega
  have c3_0_0 : w3.cell? ⟨w.heap.size, 0, none⟩ = some (.int .i64 (al)) := by go_simp
  have c3_0_1 : w3.cell? ⟨w.heap.size, 1, none⟩ = some (.int .i64 (ah)) := by go_simp
  have c3_1_0 : w3.cell? ⟨w.heap.size + 1, 0, none⟩ = some (.int .i64 (bl)) := by go_simp
  have c3_1_1 : w3.cell? ⟨w.heap.size + 1, 1, none⟩ = some (.int .i64 (bh)) := by go_simp
  have c3_2_0 : w3.cell? ⟨w1.heap.size, 0, none⟩ = some (.int .i64 (xql)) := by go_simp
  have c3_2_1 : w3.cell? ⟨w1.heap.size, 1, none⟩ = some (.int .i64 (xqh)) := by go_simp
  have c3_3_0 : w3.cell? ⟨w2.heap.size, 0, none⟩ = some (.int .i64 (xql)) := by go_simp
  have c3_3_1 : w3.cell? ⟨w2.heap.size, 1, none⟩ = some (.int .i64 (xqh)) := by go_simp
  clear hc3 hf3 c2_0_0 c2_0_1 c2_1_0 c2_1_1 c2_2_0 c2_2_1
  go_wp2_with fail
  refine (Hr.out.2 _).mono ?_
  rintro e w4 ⟨rfl, hb4⟩
  obtain ⟨hc4, hf4⟩ := bcell hb4
  have hz4 := hb4.size
  try simp only [World.size_alloc, World.size_setCell] at hz4
  try have : w.heap.size < w4.heap.size := by omega
  try have : w.heap.size < w4.heap.size + 1 := by omega
  try have : w.heap.size ≤ w4.heap.size := by omega
  try have : w.heap.size + 1 < w4.heap.size := by omega
  try have : w.heap.size + 1 < w4.heap.size + 1 := by omega
  try have : w.heap.size + 1 ≤ w4.heap.size := by omega
  try have : w1.heap.size < w4.heap.size := by omega
  try have : w1.heap.size < w4.heap.size + 1 := by omega
  try have : w1.heap.size ≤ w4.heap.size := by omega
  try have : w2.heap.size < w4.heap.size := by omega
  try have : w2.heap.size < w4.heap.size + 1 := by omega
  try have : w2.heap.size ≤ w4.heap.size := by omega
  try have : w3.heap.size < w4.heap.size := by omega
  try have : w3.heap.size < w4.heap.size + 1 := by omega
  try have : w3.heap.size ≤ w4.heap.size := by omega
  have c4_0_0 : w4.cell? ⟨w.heap.size, 0, none⟩ = some (.int .i64 (al)) := by go_simp
  have c4_0_1 : w4.cell? ⟨w.heap.size, 1, none⟩ = some (.int .i64 (ah)) := by go_simp
  have c4_1_0 : w4.cell? ⟨w.heap.size + 1, 0, none⟩ = some (.int .i64 (bl)) := by go_simp
  have c4_1_1 : w4.cell? ⟨w.heap.size + 1, 1, none⟩ = some (.int .i64 (bh)) := by go_simp
  have c4_2_0 : w4.cell? ⟨w1.heap.size, 0, none⟩ = some (.int .i64 (xql)) := by go_simp
  have c4_2_1 : w4.cell? ⟨w1.heap.size, 1, none⟩ = some (.int .i64 (xqh)) := by go_simp
  have c4_3_0 : w4.cell? ⟨w2.heap.size, 0, none⟩ = some (.int .i64 (xql)) := by go_simp
  have c4_3_1 : w4.cell? ⟨w2.heap.size, 1, none⟩ = some (.int .i64 (xqh)) := by go_simp
  have c4_4_0 : w4.cell? ⟨w3.heap.size, 0, none⟩ = some (.int .i64 (xrl)) := by go_simp
  have c4_4_1 : w4.cell? ⟨w3.heap.size, 1, none⟩ = some (.int .i64 (xrh)) := by go_simp
  clear hc4 hf4 c3_0_0 c3_0_1 c3_1_0 c3_1_1 c3_2_0 c3_2_1 c3_3_0 c3_3_1
  go_wp2_with fail
  refine (Ha.out.1 _).mono ?_
  rintro e w5 ⟨rfl, hb5⟩
  obtain ⟨hc5, hf5⟩ := bcell hb5
  have hz5 := hb5.size
  try simp only [World.size_alloc, World.size_setCell] at hz5
  try have : w.heap.size < w5.heap.size := by omega
  try have : w.heap.size < w5.heap.size + 1 := by omega
  try have : w.heap.size ≤ w5.heap.size := by omega
  try have : w.heap.size + 1 < w5.heap.size := by omega
  try have : w.heap.size + 1 < w5.heap.size + 1 := by omega
  try have : w.heap.size + 1 ≤ w5.heap.size := by omega
  try have : w1.heap.size < w5.heap.size := by omega
  try have : w1.heap.size < w5.heap.size + 1 := by omega
  try have : w1.heap.size ≤ w5.heap.size := by omega
  try have : w2.heap.size < w5.heap.size := by omega
  try have : w2.heap.size < w5.heap.size + 1 := by omega
  try have : w2.heap.size ≤ w5.heap.size := by omega
  try have : w3.heap.size < w5.heap.size := by omega
  try have : w3.heap.size < w5.heap.size + 1 := by omega
  try have : w3.heap.size ≤ w5.heap.size := by omega
  try have : w4.heap.size < w5.heap.size := by omega
  try have : w4.heap.size < w5.heap.size + 1 := by omega
  try have : w4.heap.size ≤ w5.heap.size := by omega
  have c5_0_0 : w5.cell? ⟨w.heap.size, 0, none⟩ = some (.int .i64 (al)) := by go_simp
  have c5_0_1 : w5.cell? ⟨w.heap.size, 1, none⟩ = some (.int .i64 (ah)) := by go_simp
  have c5_1_0 : w5.cell? ⟨w.heap.size + 1, 0, none⟩ = some (.int .i64 (bl)) := by go_simp
  have c5_1_1 : w5.cell? ⟨w.heap.size + 1, 1, none⟩ = some (.int .i64 (bh)) := by go_simp
  have c5_2_0 : w5.cell? ⟨w1.heap.size, 0, none⟩ = some (.int .i64 (xql)) := by go_simp
  have c5_2_1 : w5.cell? ⟨w1.heap.size, 1, none⟩ = some (.int .i64 (xqh)) := by go_simp
  have c5_3_0 : w5.cell? ⟨w2.heap.size, 0, none⟩ = some (.int .i64 (xql)) := by go_simp
  have c5_3_1 : w5.cell? ⟨w2.heap.size, 1, none⟩ = some (.int .i64 (xqh)) := by go_simp
  have c5_4_0 : w5.cell? ⟨w3.heap.size, 0, none⟩ = some (.int .i64 (xrl)) := by go_simp
  have c5_4_1 : w5.cell? ⟨w3.heap.size, 1, none⟩ = some (.int .i64 (xrh)) := by go_simp
  have c5_5_0 : w5.cell? ⟨w4.heap.size, 0, none⟩ = some (.int .i64 (xrl)) := by go_simp
  have c5_5_1 : w5.cell? ⟨w4.heap.size, 1, none⟩ = some (.int .i64 (xrh)) := by go_simp
  clear hc5 hf5 c4_0_0 c4_0_1 c4_1_0 c4_1_1 c4_2_0 c4_2_1 c4_3_0 c4_3_1 c4_4_0 c4_4_1
  go_wp2_with fail
  refine (Ha.out.2 _).mono ?_
  rintro e w6 ⟨rfl, hb6⟩
  obtain ⟨hc6, hf6⟩ := bcell hb6
  have hz6 := hb6.size
  try simp only [World.size_alloc, World.size_setCell] at hz6
  try have : w.heap.size < w6.heap.size := by omega
  try have : w.heap.size < w6.heap.size + 1 := by omega
  try have : w.heap.size ≤ w6.heap.size := by omega
  try have : w.heap.size + 1 < w6.heap.size := by omega
  try have : w.heap.size + 1 < w6.heap.size + 1 := by omega
  try have : w.heap.size + 1 ≤ w6.heap.size := by omega
  try have : w1.heap.size < w6.heap.size := by omega
  try have : w1.heap.size < w6.heap.size + 1 := by omega
  try have : w1.heap.size ≤ w6.heap.size := by omega
  try have : w2.heap.size < w6.heap.size := by omega
  try have : w2.heap.size < w6.heap.size + 1 := by omega
  try have : w2.heap.size ≤ w6.heap.size := by omega
  try have : w3.heap.size < w6.heap.size := by omega
  try have : w3.heap.size < w6.heap.size + 1 := by omega
  try have : w3.heap.size ≤ w6.heap.size := by omega
  try have : w4.heap.size < w6.heap.size := by omega
  try have : w4.heap.size < w6.heap.size + 1 := by omega
  try have : w4.heap.size ≤ w6.heap.size := by omega
  try have : w5.heap.size < w6.heap.size := by omega
  try have : w5.heap.size < w6.heap.size + 1 := by omega
  try have : w5.heap.size ≤ w6.heap.size := by omega
  have c6_0_0 : w6.cell? ⟨w.heap.size, 0, none⟩ = some (.int .i64 (al)) := by go_simp
  have c6_0_1 : w6.cell? ⟨w.heap.size, 1, none⟩ = some (.int .i64 (ah)) := by go_simp
  have c6_1_0 : w6.cell? ⟨w.heap.size + 1, 0, none⟩ = some (.int .i64 (bl)) := by go_simp
  have c6_1_1 : w6.cell? ⟨w.heap.size + 1, 1, none⟩ = some (.int .i64 (bh)) := by go_simp
  have c6_2_0 : w6.cell? ⟨w1.heap.size, 0, none⟩ = some (.int .i64 (xql)) := by go_simp
  have c6_2_1 : w6.cell? ⟨w1.heap.size, 1, none⟩ = some (.int .i64 (xqh)) := by go_simp
  have c6_3_0 : w6.cell? ⟨w2.heap.size, 0, none⟩ = some (.int .i64 (xql)) := by go_simp
  have c6_3_1 : w6.cell? ⟨w2.heap.size, 1, none⟩ = some (.int .i64 (xqh)) := by go_simp
  have c6_4_0 : w6.cell? ⟨w3.heap.size, 0, none⟩ = some (.int .i64 (xrl)) := by go_simp
  have c6_4_1 : w6.cell? ⟨w3.heap.size, 1, none⟩ = some (.int .i64 (xrh)) := by go_simp
  have c6_5_0 : w6.cell? ⟨w4.heap.size, 0, none⟩ = some (.int .i64 (xrl)) := by go_simp
  have c6_5_1 : w6.cell? ⟨w4.heap.size, 1, none⟩ = some (.int .i64 (xrh)) := by go_simp
  have c6_6_0 : w6.cell? ⟨w5.heap.size, 0, none⟩ = some (.int .i64 (xal)) := by go_simp
  have c6_6_1 : w6.cell? ⟨w5.heap.size, 1, none⟩ = some (.int .i64 (xah)) := by go_simp
  clear hc6 hf6 c5_0_0 c5_0_1 c5_1_0 c5_1_1 c5_2_0 c5_2_1 c5_3_0 c5_3_1 c5_4_0 c5_4_1 c5_5_0 c5_5_1
  go_wp2_with fail
  refine (Hm.out.1 _).mono ?_
  rintro e w7 ⟨rfl, hb7⟩
  obtain ⟨hc7, hf7⟩ := bcell hb7
  have hz7 := hb7.size
  try simp only [World.size_alloc, World.size_setCell] at hz7
  try have : w.heap.size < w7.heap.size := by omega
  try have : w.heap.size < w7.heap.size + 1 := by omega
  try have : w.heap.size ≤ w7.heap.size := by omega
  try have : w.heap.size + 1 < w7.heap.size := by omega
  try have : w.heap.size + 1 < w7.heap.size + 1 := by omega
  try have : w.heap.size + 1 ≤ w7.heap.size := by omega
  try have : w1.heap.size < w7.heap.size := by omega
  try have : w1.heap.size < w7.heap.size + 1 := by omega
  try have : w1.heap.size ≤ w7.heap.size := by omega
  try have : w2.heap.size < w7.heap.size := by omega
  try have : w2.heap.size < w7.heap.size + 1 := by omega
  try have : w2.heap.size ≤ w7.heap.size := by omega
  try have : w3.heap.size < w7.heap.size := by omega
  try have : w3.heap.size < w7.heap.size + 1 := by omega
  try have : w3.heap.size ≤ w7.heap.size := by omega
  try have : w4.heap.size < w7.heap.size := by omega
  try have : w4.heap.size < w7.heap.size + 1 := by omega
  try have : w4.heap.size ≤ w7.heap.size := by omega
  try have : w5.heap.size < w7.heap.size := by omega
  try have : w5.heap.size < w7.heap.size + 1 := by omega
  try have : w5.heap.size ≤ w7.heap.size := by omega
  try have : w6.heap.size < w7.heap.size := by omega
  try have : w6.heap.size < w7.heap.size + 1 := by omega
  try have : w6.heap.size ≤ w7.heap.size := by omega
  have c7_0_0 : w7.cell? ⟨w.heap.size, 0, none⟩ = some (.int .i64 (al)) := by go_simp
  have c7_0_1 : w7.cell? ⟨w.heap.size, 1, none⟩ = some (.int .i64 (ah)) := by go_simp
  have c7_1_0 : w7.cell? ⟨w.heap.size + 1, 0, none⟩ = some (.int .i64 (bl)) := by go_simp
  have c7_1_1 : w7.cell? ⟨w.heap.size + 1, 1, none⟩ = some (.int .i64 (bh)) := by go_simp
  have c7_2_0 : w7.cell? ⟨w1.heap.size, 0, none⟩ = some (.int .i64 (xql)) := by go_simp
  have c7_2_1 : w7.cell? ⟨w1.heap.size, 1, none⟩ = some (.int .i64 (xqh)) := by go_simp
  have c7_3_0 : w7.cell? ⟨w2.heap.size, 0, none⟩ = some (.int .i64 (xql)) := by go_simp
  have c7_3_1 : w7.cell? ⟨w2.heap.size, 1, none⟩ = some (.int .i64 (xqh)) := by go_simp
  have c7_4_0 : w7.cell? ⟨w3.heap.size, 0, none⟩ = some (.int .i64 (xrl)) := by go_simp
  have c7_4_1 : w7.cell? ⟨w3.heap.size, 1, none⟩ = some (.int .i64 (xrh)) := by go_simp
  have c7_5_0 : w7.cell? ⟨w4.heap.size, 0, none⟩ = some (.int .i64 (xrl)) := by go_simp
  have c7_5_1 : w7.cell? ⟨w4.heap.size, 1, none⟩ = some (.int .i64 (xrh)) := by go_simp
  have c7_6_0 : w7.cell? ⟨w5.heap.size, 0, none⟩ = some (.int .i64 (xal)) := by go_simp
  have c7_6_1 : w7.cell? ⟨w5.heap.size, 1, none⟩ = some (.int .i64 (xah)) := by go_simp
  have c7_7_0 : w7.cell? ⟨w6.heap.size, 0, none⟩ = some (.int .i64 (xal)) := by go_simp
  have c7_7_1 : w7.cell? ⟨w6.heap.size, 1, none⟩ = some (.int .i64 (xah)) := by go_simp
  clear hc7 hf7 c6_0_0 c6_0_1 c6_1_0 c6_1_1 c6_2_0 c6_2_1 c6_3_0 c6_3_1 c6_4_0 c6_4_1 c6_5_0 c6_5_1 c6_6_0 c6_6_1
  go_wp2_with fail
  refine (Hm.out.2 _).mono ?_
  rintro e w8 ⟨rfl, hb8⟩
  obtain ⟨hc8, hf8⟩ := bcell hb8
  have hz8 := hb8.size
  try simp only [World.size_alloc, World.size_setCell] at hz8
  try have : w.heap.size < w8.heap.size := by omega
  try have : w.heap.size < w8.heap.size + 1 := by omega
  try have : w.heap.size ≤ w8.heap.size := by omega
  try have : w.heap.size + 1 < w8.heap.size := by omega
  try have : w.heap.size + 1 < w8.heap.size + 1 := by omega
  try have : w.heap.size + 1 ≤ w8.heap.size := by omega
  try have : w1.heap.size < w8.heap.size := by omega
  try have : w1.heap.size < w8.heap.size + 1 := by omega
  try have : w1.heap.size ≤ w8.heap.size := by omega
  try have : w2.heap.size < w8.heap.size := by omega
  try have : w2.heap.size < w8.heap.size + 1 := by omega
  try have : w2.heap.size ≤ w8.heap.size := by omega
  try have : w3.heap.size < w8.heap.size := by omega
  try have : w3.heap.size < w8.heap.size + 1 := by omega
  try have : w3.heap.size ≤ w8.heap.size := by omega
  try have : w4.heap.size < w8.heap.size := by omega
  try have : w4.heap.size < w8.heap.size + 1 := by omega
  try have : w4.heap.size ≤ w8.heap.size := by omega
  try have : w5.heap.size < w8.heap.size := by omega
  try have : w5.heap.size < w8.heap.size + 1 := by omega
  try have : w5.heap.size ≤ w8.heap.size := by omega
  try have : w6.heap.size < w8.heap.size := by omega
  try have : w6.heap.size < w8.heap.size + 1 := by omega
  try have : w6.heap.size ≤ w8.heap.size := by omega
  try have : w7.heap.size < w8.heap.size := by omega
  try have : w7.heap.size < w8.heap.size + 1 := by omega
  try have : w7.heap.size ≤ w8.heap.size := by omega
  have c8_0_0 : w8.cell? ⟨w.heap.size, 0, none⟩ = some (.int .i64 (al)) := by go_simp
  have c8_0_1 : w8.cell? ⟨w.heap.size, 1, none⟩ = some (.int .i64 (ah)) := by go_simp
  have c8_1_0 : w8.cell? ⟨w.heap.size + 1, 0, none⟩ = some (.int .i64 (bl)) := by go_simp
  have c8_1_1 : w8.cell? ⟨w.heap.size + 1, 1, none⟩ = some (.int .i64 (bh)) := by go_simp
  have c8_2_0 : w8.cell? ⟨w1.heap.size, 0, none⟩ = some (.int .i64 (xql)) := by go_simp
  have c8_2_1 : w8.cell? ⟨w1.heap.size, 1, none⟩ = some (.int .i64 (xqh)) := by go_simp
  have c8_3_0 : w8.cell? ⟨w2.heap.size, 0, none⟩ = some (.int .i64 (xql)) := by go_simp
  have c8_3_1 : w8.cell? ⟨w2.heap.size, 1, none⟩ = some (.int .i64 (xqh)) := by go_simp
  have c8_4_0 : w8.cell? ⟨w3.heap.size, 0, none⟩ = some (.int .i64 (xrl)) := by go_simp
  have c8_4_1 : w8.cell? ⟨w3.heap.size, 1, none⟩ = some (.int .i64 (xrh)) := by go_simp
  have c8_5_0 : w8.cell? ⟨w4.heap.size, 0, none⟩ = some (.int .i64 (xrl)) := by go_simp
  have c8_5_1 : w8.cell? ⟨w4.heap.size, 1, none⟩ = some (.int .i64 (xrh)) := by go_simp
  have c8_6_0 : w8.cell? ⟨w5.heap.size, 0, none⟩ = some (.int .i64 (xal)) := by go_simp
  have c8_6_1 : w8.cell? ⟨w5.heap.size, 1, none⟩ = some (.int .i64 (xah)) := by go_simp
  have c8_7_0 : w8.cell? ⟨w6.heap.size, 0, none⟩ = some (.int .i64 (xal)) := by go_simp
  have c8_7_1 : w8.cell? ⟨w6.heap.size, 1, none⟩ = some (.int .i64 (xah)) := by go_simp
  have c8_8_0 : w8.cell? ⟨w7.heap.size, 0, none⟩ = some (.int .i64 (xml)) := by go_simp
  have c8_8_1 : w8.cell? ⟨w7.heap.size, 1, none⟩ = some (.int .i64 (xmh)) := by go_simp
  clear hc8 hf8 c7_0_0 c7_0_1 c7_1_0 c7_1_1 c7_2_0 c7_2_1 c7_3_0 c7_3_1 c7_4_0 c7_4_1 c7_5_0 c7_5_1 c7_6_0 c7_6_1 c7_7_0 c7_7_1
  go_wp2_with fail
  refine (Hl.out.1 _).mono ?_
  rintro e w9 ⟨rfl, hb9⟩
  obtain ⟨hc9, hf9⟩ := bcell hb9
  have hz9 := hb9.size
  try simp only [World.size_alloc, World.size_setCell] at hz9
  try have : w.heap.size < w9.heap.size := by omega
  try have : w.heap.size < w9.heap.size + 1 := by omega
  try have : w.heap.size ≤ w9.heap.size := by omega
  try have : w.heap.size + 1 < w9.heap.size := by omega
  try have : w.heap.size + 1 < w9.heap.size + 1 := by omega
  try have : w.heap.size + 1 ≤ w9.heap.size := by omega
  try have : w1.heap.size < w9.heap.size := by omega
  try have : w1.heap.size < w9.heap.size + 1 := by omega
  try have : w1.heap.size ≤ w9.heap.size := by omega
  try have : w2.heap.size < w9.heap.size := by omega
  try have : w2.heap.size < w9.heap.size + 1 := by omega
  try have : w2.heap.size ≤ w9.heap.size := by omega
  try have : w3.heap.size < w9.heap.size := by omega
  try have : w3.heap.size < w9.heap.size + 1 := by omega
  try have : w3.heap.size ≤ w9.heap.size := by omega
  try have : w4.heap.size < w9.heap.size := by omega
  try have : w4.heap.size < w9.heap.size + 1 := by omega
  try have : w4.heap.size ≤ w9.heap.size := by omega
  try have : w5.heap.size < w9.heap.size := by omega
  try have : w5.heap.size < w9.heap.size + 1 := by omega
  try have : w5.heap.size ≤ w9.heap.size := by omega
  try have : w6.heap.size < w9.heap.size := by omega
  try have : w6.heap.size < w9.heap.size + 1 := by omega
  try have : w6.heap.size ≤ w9.heap.size := by omega
  try have : w7.heap.size < w9.heap.size := by omega
  try have : w7.heap.size < w9.heap.size + 1 := by omega
  try have : w7.heap.size ≤ w9.heap.size := by omega
  try have : w8.heap.size < w9.heap.size := by omega
  try have : w8.heap.size < w9.heap.size + 1 := by omega
  try have : w8.heap.size ≤ w9.heap.size := by omega
  have c9_0_0 : w9.cell? ⟨w.heap.size, 0, none⟩ = some (.int .i64 (al)) := by go_simp
  have c9_0_1 : w9.cell? ⟨w.heap.size, 1, none⟩ = some (.int .i64 (ah)) := by go_simp
  have c9_1_0 : w9.cell? ⟨w.heap.size + 1, 0, none⟩ = some (.int .i64 (bl)) := by go_simp
  have c9_1_1 : w9.cell? ⟨w.heap.size + 1, 1, none⟩ = some (.int .i64 (bh)) := by go_simp
  have c9_2_0 : w9.cell? ⟨w1.heap.size, 0, none⟩ = some (.int .i64 (xql)) := by go_simp
  have c9_2_1 : w9.cell? ⟨w1.heap.size, 1, none⟩ = some (.int .i64 (xqh)) := by go_simp
  have c9_3_0 : w9.cell? ⟨w2.heap.size, 0, none⟩ = some (.int .i64 (xql)) := by go_simp
  have c9_3_1 : w9.cell? ⟨w2.heap.size, 1, none⟩ = some (.int .i64 (xqh)) := by go_simp
  have c9_4_0 : w9.cell? ⟨w3.heap.size, 0, none⟩ = some (.int .i64 (xrl)) := by go_simp
  have c9_4_1 : w9.cell? ⟨w3.heap.size, 1, none⟩ = some (.int .i64 (xrh)) := by go_simp
  have c9_5_0 : w9.cell? ⟨w4.heap.size, 0, none⟩ = some (.int .i64 (xrl)) := by go_simp
  have c9_5_1 : w9.cell? ⟨w4.heap.size, 1, none⟩ = some (.int .i64 (xrh)) := by go_simp
  have c9_6_0 : w9.cell? ⟨w5.heap.size, 0, none⟩ = some (.int .i64 (xal)) := by go_simp
  have c9_6_1 : w9.cell? ⟨w5.heap.size, 1, none⟩ = some (.int .i64 (xah)) := by go_simp
  have c9_7_0 : w9.cell? ⟨w6.heap.size, 0, none⟩ = some (.int .i64 (xal)) := by go_simp
  have c9_7_1 : w9.cell? ⟨w6.heap.size, 1, none⟩ = some (.int .i64 (xah)) := by go_simp
  have c9_8_0 : w9.cell? ⟨w7.heap.size, 0, none⟩ = some (.int .i64 (xml)) := by go_simp
  have c9_8_1 : w9.cell? ⟨w7.heap.size, 1, none⟩ = some (.int .i64 (xmh)) := by go_simp
  have c9_9_0 : w9.cell? ⟨w8.heap.size, 0, none⟩ = some (.int .i64 (xml)) := by go_simp
  have c9_9_1 : w9.cell? ⟨w8.heap.size, 1, none⟩ = some (.int .i64 (xmh)) := by go_simp
  clear hc9 hf9 c8_0_0 c8_0_1 c8_1_0 c8_1_1 c8_2_0 c8_2_1 c8_3_0 c8_3_1 c8_4_0 c8_4_1 c8_5_0 c8_5_1 c8_6_0 c8_6_1 c8_7_0 c8_7_1 c8_8_0 c8_8_1
  go_wp2_with fail
  refine (Hl.out.2 _).mono ?_
  rintro e w10 ⟨rfl, hb10⟩
  obtain ⟨hc10, hf10⟩ := bcell hb10
  have hz10 := hb10.size
  try simp only [World.size_alloc, World.size_setCell] at hz10
  try have : w.heap.size < w10.heap.size := by omega
  try have : w.heap.size < w10.heap.size + 1 := by omega
  try have : w.heap.size ≤ w10.heap.size := by omega
  try have : w.heap.size + 1 < w10.heap.size := by omega
  try have : w.heap.size + 1 < w10.heap.size + 1 := by omega
  try have : w.heap.size + 1 ≤ w10.heap.size := by omega
  try have : w1.heap.size < w10.heap.size := by omega
  try have : w1.heap.size < w10.heap.size + 1 := by omega
  try have : w1.heap.size ≤ w10.heap.size := by omega
  try have : w2.heap.size < w10.heap.size := by omega
  try have : w2.heap.size < w10.heap.size + 1 := by omega
  try have : w2.heap.size ≤ w10.heap.size := by omega
  try have : w3.heap.size < w10.heap.size := by omega
  try have : w3.heap.size < w10.heap.size + 1 := by omega
  try have : w3.heap.size ≤ w10.heap.size := by omega
  try have : w4.heap.size < w10.heap.size := by omega
  try have : w4.heap.size < w10.heap.size + 1 := by omega
  try have : w4.heap.size ≤ w10.heap.size := by omega
  try have : w5.heap.size < w10.heap.size := by omega
  try have : w5.heap.size < w10.heap.size + 1 := by omega
  try have : w5.heap.size ≤ w10.heap.size := by omega
  try have : w6.heap.size < w10.heap.size := by omega
  try have : w6.heap.size < w10.heap.size + 1 := by omega
  try have : w6.heap.size ≤ w10.heap.size := by omega
  try have : w7.heap.size < w10.heap.size := by omega
  try have : w7.heap.size < w10.heap.size + 1 := by omega
  try have : w7.heap.size ≤ w10.heap.size := by omega
  try have : w8.heap.size < w10.heap.size := by omega
  try have : w8.heap.size < w10.heap.size + 1 := by omega
  try have : w8.heap.size ≤ w10.heap.size := by omega
  try have : w9.heap.size < w10.heap.size := by omega
  try have : w9.heap.size < w10.heap.size + 1 := by omega
  try have : w9.heap.size ≤ w10.heap.size := by omega
  have c10_0_0 : w10.cell? ⟨w.heap.size, 0, none⟩ = some (.int .i64 (al)) := by go_simp
  have c10_0_1 : w10.cell? ⟨w.heap.size, 1, none⟩ = some (.int .i64 (ah)) := by go_simp
  have c10_1_0 : w10.cell? ⟨w.heap.size + 1, 0, none⟩ = some (.int .i64 (bl)) := by go_simp
  have c10_1_1 : w10.cell? ⟨w.heap.size + 1, 1, none⟩ = some (.int .i64 (bh)) := by go_simp
  have c10_2_0 : w10.cell? ⟨w1.heap.size, 0, none⟩ = some (.int .i64 (xql)) := by go_simp
  have c10_2_1 : w10.cell? ⟨w1.heap.size, 1, none⟩ = some (.int .i64 (xqh)) := by go_simp
  have c10_3_0 : w10.cell? ⟨w2.heap.size, 0, none⟩ = some (.int .i64 (xql)) := by go_simp
  have c10_3_1 : w10.cell? ⟨w2.heap.size, 1, none⟩ = some (.int .i64 (xqh)) := by go_simp
  have c10_4_0 : w10.cell? ⟨w3.heap.size, 0, none⟩ = some (.int .i64 (xrl)) := by go_simp
  have c10_4_1 : w10.cell? ⟨w3.heap.size, 1, none⟩ = some (.int .i64 (xrh)) := by go_simp
  have c10_5_0 : w10.cell? ⟨w4.heap.size, 0, none⟩ = some (.int .i64 (xrl)) := by go_simp
  have c10_5_1 : w10.cell? ⟨w4.heap.size, 1, none⟩ = some (.int .i64 (xrh)) := by go_simp
  have c10_6_0 : w10.cell? ⟨w5.heap.size, 0, none⟩ = some (.int .i64 (xal)) := by go_simp
  have c10_6_1 : w10.cell? ⟨w5.heap.size, 1, none⟩ = some (.int .i64 (xah)) := by go_simp
  have c10_7_0 : w10.cell? ⟨w6.heap.size, 0, none⟩ = some (.int .i64 (xal)) := by go_simp
  have c10_7_1 : w10.cell? ⟨w6.heap.size, 1, none⟩ = some (.int .i64 (xah)) := by go_simp
  have c10_8_0 : w10.cell? ⟨w7.heap.size, 0, none⟩ = some (.int .i64 (xml)) := by go_simp
  have c10_8_1 : w10.cell? ⟨w7.heap.size, 1, none⟩ = some (.int .i64 (xmh)) := by go_simp
  have c10_9_0 : w10.cell? ⟨w8.heap.size, 0, none⟩ = some (.int .i64 (xml)) := by go_simp
  have c10_9_1 : w10.cell? ⟨w8.heap.size, 1, none⟩ = some (.int .i64 (xmh)) := by go_simp
  have c10_10_0 : w10.cell? ⟨w9.heap.size, 0, none⟩ = some (.int .i64 (xll)) := by go_simp
  have c10_10_1 : w10.cell? ⟨w9.heap.size, 1, none⟩ = some (.int .i64 (xlh)) := by go_simp
  clear hc10 hf10 c9_0_0 c9_0_1 c9_1_0 c9_1_1 c9_2_0 c9_2_1 c9_3_0 c9_3_1 c9_4_0 c9_4_1 c9_5_0 c9_5_1 c9_6_0 c9_6_1 c9_7_0 c9_7_1 c9_8_0 c9_8_1 c9_9_0 c9_9_1
  go_wp2_with fail
  refine (same_any xql xqh xqe _).mono ?_
  rintro e w11 ⟨rfl, hb11⟩
  obtain ⟨hc11, hf11⟩ := bcell hb11
  have hz11 := hb11.size
  try simp only [World.size_alloc, World.size_setCell] at hz11
  try have : w.heap.size < w11.heap.size := by omega
  try have : w.heap.size ≤ w11.heap.size := by omega
  try have : w.heap.size + 1 < w11.heap.size := by omega
  try have : w.heap.size + 1 ≤ w11.heap.size := by omega
  try have : w1.heap.size < w11.heap.size := by omega
  try have : w1.heap.size ≤ w11.heap.size := by omega
  try have : w2.heap.size < w11.heap.size := by omega
  try have : w2.heap.size ≤ w11.heap.size := by omega
  try have : w3.heap.size < w11.heap.size := by omega
  try have : w3.heap.size ≤ w11.heap.size := by omega
  try have : w4.heap.size < w11.heap.size := by omega
  try have : w4.heap.size ≤ w11.heap.size := by omega
  try have : w5.heap.size < w11.heap.size := by omega
  try have : w5.heap.size ≤ w11.heap.size := by omega
  try have : w6.heap.size < w11.heap.size := by omega
  try have : w6.heap.size ≤ w11.heap.size := by omega
  try have : w7.heap.size < w11.heap.size := by omega
  try have : w7.heap.size ≤ w11.heap.size := by omega
  try have : w8.heap.size < w11.heap.size := by omega
  try have : w8.heap.size ≤ w11.heap.size := by omega
  try have : w9.heap.size < w11.heap.size := by omega
  try have : w9.heap.size ≤ w11.heap.size := by omega
  try have : w10.heap.size < w11.heap.size := by omega
  try have : w10.heap.size ≤ w11.heap.size := by omega
  have c11_0_0 : w11.cell? ⟨w.heap.size, 0, none⟩ = some (.int .i64 (al)) := by go_simp
  have c11_0_1 : w11.cell? ⟨w.heap.size, 1, none⟩ = some (.int .i64 (ah)) := by go_simp
  have c11_1_0 : w11.cell? ⟨w.heap.size + 1, 0, none⟩ = some (.int .i64 (bl)) := by go_simp
  have c11_1_1 : w11.cell? ⟨w.heap.size + 1, 1, none⟩ = some (.int .i64 (bh)) := by go_simp
  have c11_2_0 : w11.cell? ⟨w1.heap.size, 0, none⟩ = some (.int .i64 (xql)) := by go_simp
  have c11_2_1 : w11.cell? ⟨w1.heap.size, 1, none⟩ = some (.int .i64 (xqh)) := by go_simp
  have c11_3_0 : w11.cell? ⟨w2.heap.size, 0, none⟩ = some (.int .i64 (xql)) := by go_simp
  have c11_3_1 : w11.cell? ⟨w2.heap.size, 1, none⟩ = some (.int .i64 (xqh)) := by go_simp
  have c11_4_0 : w11.cell? ⟨w3.heap.size, 0, none⟩ = some (.int .i64 (xrl)) := by go_simp
  have c11_4_1 : w11.cell? ⟨w3.heap.size, 1, none⟩ = some (.int .i64 (xrh)) := by go_simp
  have c11_5_0 : w11.cell? ⟨w4.heap.size, 0, none⟩ = some (.int .i64 (xrl)) := by go_simp
  have c11_5_1 : w11.cell? ⟨w4.heap.size, 1, none⟩ = some (.int .i64 (xrh)) := by go_simp
  have c11_6_0 : w11.cell? ⟨w5.heap.size, 0, none⟩ = some (.int .i64 (xal)) := by go_simp
  have c11_6_1 : w11.cell? ⟨w5.heap.size, 1, none⟩ = some (.int .i64 (xah)) := by go_simp
  have c11_7_0 : w11.cell? ⟨w6.heap.size, 0, none⟩ = some (.int .i64 (xal)) := by go_simp
  have c11_7_1 : w11.cell? ⟨w6.heap.size, 1, none⟩ = some (.int .i64 (xah)) := by go_simp
  have c11_8_0 : w11.cell? ⟨w7.heap.size, 0, none⟩ = some (.int .i64 (xml)) := by go_simp
  have c11_8_1 : w11.cell? ⟨w7.heap.size, 1, none⟩ = some (.int .i64 (xmh)) := by go_simp
  have c11_9_0 : w11.cell? ⟨w8.heap.size, 0, none⟩ = some (.int .i64 (xml)) := by go_simp
  have c11_9_1 : w11.cell? ⟨w8.heap.size, 1, none⟩ = some (.int .i64 (xmh)) := by go_simp
  have c11_10_0 : w11.cell? ⟨w9.heap.size, 0, none⟩ = some (.int .i64 (xll)) := by go_simp
  have c11_10_1 : w11.cell? ⟨w9.heap.size, 1, none⟩ = some (.int .i64 (xlh)) := by go_simp
  have c11_11_0 : w11.cell? ⟨w10.heap.size, 0, none⟩ = some (.int .i64 (xll)) := by go_simp
  have c11_11_1 : w11.cell? ⟨w10.heap.size, 1, none⟩ = some (.int .i64 (xlh)) := by go_simp
  clear hc11 hf11 c10_0_0 c10_0_1 c10_1_0 c10_1_1 c10_2_0 c10_2_1 c10_3_0 c10_3_1 c10_4_0 c10_4_1 c10_5_0 c10_5_1 c10_6_0 c10_6_1 c10_7_0 c10_7_1 c10_8_0 c10_8_1 c10_9_0 c10_9_1 c10_10_0 c10_10_1
  go_wp2_with fail
  refine (same_any xrl xrh xre _).mono ?_
  rintro e w12 ⟨rfl, hb12⟩
  obtain ⟨hc12, hf12⟩ := bcell hb12
  have hz12 := hb12.size
  try simp only [World.size_alloc, World.size_setCell] at hz12
  try have : w.heap.size < w12.heap.size := by omega
  try have : w.heap.size ≤ w12.heap.size := by omega
  try have : w.heap.size + 1 < w12.heap.size := by omega
  try have : w.heap.size + 1 ≤ w12.heap.size := by omega
  try have : w1.heap.size < w12.heap.size := by omega
  try have : w1.heap.size ≤ w12.heap.size := by omega
  try have : w2.heap.size < w12.heap.size := by omega
  try have : w2.heap.size ≤ w12.heap.size := by omega
  try have : w3.heap.size < w12.heap.size := by omega
  try have : w3.heap.size ≤ w12.heap.size := by omega
  try have : w4.heap.size < w12.heap.size := by omega
  try have : w4.heap.size ≤ w12.heap.size := by omega
  try have : w5.heap.size < w12.heap.size := by omega
  try have : w5.heap.size ≤ w12.heap.size := by omega
  try have : w6.heap.size < w12.heap.size := by omega
  try have : w6.heap.size ≤ w12.heap.size := by omega
  try have : w7.heap.size < w12.heap.size := by omega
  try have : w7.heap.size ≤ w12.heap.size := by omega
  try have : w8.heap.size < w12.heap.size := by omega
  try have : w8.heap.size ≤ w12.heap.size := by omega
  try have : w9.heap.size < w12.heap.size := by omega
  try have : w9.heap.size ≤ w12.heap.size := by omega
  try have : w10.heap.size < w12.heap.size := by omega
  try have : w10.heap.size ≤ w12.heap.size := by omega
  have c12_0_0 : w12.cell? ⟨w.heap.size, 0, none⟩ = some (.int .i64 (al)) := by go_simp
  have c12_0_1 : w12.cell? ⟨w.heap.size, 1, none⟩ = some (.int .i64 (ah)) := by go_simp
  have c12_1_0 : w12.cell? ⟨w.heap.size + 1, 0, none⟩ = some (.int .i64 (bl)) := by go_simp
  have c12_1_1 : w12.cell? ⟨w.heap.size + 1, 1, none⟩ = some (.int .i64 (bh)) := by go_simp
  have c12_2_0 : w12.cell? ⟨w1.heap.size, 0, none⟩ = some (.int .i64 (xql)) := by go_simp
  have c12_2_1 : w12.cell? ⟨w1.heap.size, 1, none⟩ = some (.int .i64 (xqh)) := by go_simp
  have c12_3_0 : w12.cell? ⟨w2.heap.size, 0, none⟩ = some (.int .i64 (xql)) := by go_simp
  have c12_3_1 : w12.cell? ⟨w2.heap.size, 1, none⟩ = some (.int .i64 (xqh)) := by go_simp
  have c12_4_0 : w12.cell? ⟨w3.heap.size, 0, none⟩ = some (.int .i64 (xrl)) := by go_simp
  have c12_4_1 : w12.cell? ⟨w3.heap.size, 1, none⟩ = some (.int .i64 (xrh)) := by go_simp
  have c12_5_0 : w12.cell? ⟨w4.heap.size, 0, none⟩ = some (.int .i64 (xrl)) := by go_simp
  have c12_5_1 : w12.cell? ⟨w4.heap.size, 1, none⟩ = some (.int .i64 (xrh)) := by go_simp
  have c12_6_0 : w12.cell? ⟨w5.heap.size, 0, none⟩ = some (.int .i64 (xal)) := by go_simp
  have c12_6_1 : w12.cell? ⟨w5.heap.size, 1, none⟩ = some (.int .i64 (xah)) := by go_simp
  have c12_7_0 : w12.cell? ⟨w6.heap.size, 0, none⟩ = some (.int .i64 (xal)) := by go_simp
  have c12_7_1 : w12.cell? ⟨w6.heap.size, 1, none⟩ = some (.int .i64 (xah)) := by go_simp
  have c12_8_0 : w12.cell? ⟨w7.heap.size, 0, none⟩ = some (.int .i64 (xml)) := by go_simp
  have c12_8_1 : w12.cell? ⟨w7.heap.size, 1, none⟩ = some (.int .i64 (xmh)) := by go_simp
  have c12_9_0 : w12.cell? ⟨w8.heap.size, 0, none⟩ = some (.int .i64 (xml)) := by go_simp
  have c12_9_1 : w12.cell? ⟨w8.heap.size, 1, none⟩ = some (.int .i64 (xmh)) := by go_simp
  have c12_10_0 : w12.cell? ⟨w9.heap.size, 0, none⟩ = some (.int .i64 (xll)) := by go_simp
  have c12_10_1 : w12.cell? ⟨w9.heap.size, 1, none⟩ = some (.int .i64 (xlh)) := by go_simp
  have c12_11_0 : w12.cell? ⟨w10.heap.size, 0, none⟩ = some (.int .i64 (xll)) := by go_simp
  have c12_11_1 : w12.cell? ⟨w10.heap.size, 1, none⟩ = some (.int .i64 (xlh)) := by go_simp
  clear hc12 hf12 c11_0_0 c11_0_1 c11_1_0 c11_1_1 c11_2_0 c11_2_1 c11_3_0 c11_3_1 c11_4_0 c11_4_1 c11_5_0 c11_5_1 c11_6_0 c11_6_1 c11_7_0 c11_7_1 c11_8_0 c11_8_1 c11_9_0 c11_9_1 c11_10_0 c11_10_1 c11_11_0 c11_11_1
  go_wp2_with fail
  refine (same_any xal xah xae _).mono ?_
  rintro e w13 ⟨rfl, hb13⟩
  obtain ⟨hc13, hf13⟩ := bcell hb13
  have hz13 := hb13.size
  try simp only [World.size_alloc, World.size_setCell] at hz13
  try have : w.heap.size < w13.heap.size := by omega
  try have : w.heap.size ≤ w13.heap.size := by omega
  try have : w.heap.size + 1 < w13.heap.size := by omega
  try have : w.heap.size + 1 ≤ w13.heap.size := by omega
  try have : w1.heap.size < w13.heap.size := by omega
  try have : w1.heap.size ≤ w13.heap.size := by omega
  try have : w2.heap.size < w13.heap.size := by omega
  try have : w2.heap.size ≤ w13.heap.size := by omega
  try have : w3.heap.size < w13.heap.size := by omega
  try have : w3.heap.size ≤ w13.heap.size := by omega
  try have : w4.heap.size < w13.heap.size := by omega
  try have : w4.heap.size ≤ w13.heap.size := by omega
  try have : w5.heap.size < w13.heap.size := by omega
  try have : w5.heap.size ≤ w13.heap.size := by omega
  try have : w6.heap.size < w13.heap.size := by omega
  try have : w6.heap.size ≤ w13.heap.size := by omega
  try have : w7.heap.size < w13.heap.size := by omega
  try have : w7.heap.size ≤ w13.heap.size := by omega
  try have : w8.heap.size < w13.heap.size := by omega
  try have : w8.heap.size ≤ w13.heap.size := by omega
  try have : w9.heap.size < w13.heap.size := by omega
  try have : w9.heap.size ≤ w13.heap.size := by omega
  try have : w10.heap.size < w13.heap.size := by omega
  try have : w10.heap.size ≤ w13.heap.size := by omega
  have c13_0_0 : w13.cell? ⟨w.heap.size, 0, none⟩ = some (.int .i64 (al)) := by go_simp
  have c13_0_1 : w13.cell? ⟨w.heap.size, 1, none⟩ = some (.int .i64 (ah)) := by go_simp
  have c13_1_0 : w13.cell? ⟨w.heap.size + 1, 0, none⟩ = some (.int .i64 (bl)) := by go_simp
  have c13_1_1 : w13.cell? ⟨w.heap.size + 1, 1, none⟩ = some (.int .i64 (bh)) := by go_simp
  have c13_2_0 : w13.cell? ⟨w1.heap.size, 0, none⟩ = some (.int .i64 (xql)) := by go_simp
  have c13_2_1 : w13.cell? ⟨w1.heap.size, 1, none⟩ = some (.int .i64 (xqh)) := by go_simp
  have c13_3_0 : w13.cell? ⟨w2.heap.size, 0, none⟩ = some (.int .i64 (xql)) := by go_simp
  have c13_3_1 : w13.cell? ⟨w2.heap.size, 1, none⟩ = some (.int .i64 (xqh)) := by go_simp
  have c13_4_0 : w13.cell? ⟨w3.heap.size, 0, none⟩ = some (.int .i64 (xrl)) := by go_simp
  have c13_4_1 : w13.cell? ⟨w3.heap.size, 1, none⟩ = some (.int .i64 (xrh)) := by go_simp
  have c13_5_0 : w13.cell? ⟨w4.heap.size, 0, none⟩ = some (.int .i64 (xrl)) := by go_simp
  have c13_5_1 : w13.cell? ⟨w4.heap.size, 1, none⟩ = some (.int .i64 (xrh)) := by go_simp
  have c13_6_0 : w13.cell? ⟨w5.heap.size, 0, none⟩ = some (.int .i64 (xal)) := by go_simp
  have c13_6_1 : w13.cell? ⟨w5.heap.size, 1, none⟩ = some (.int .i64 (xah)) := by go_simp
  have c13_7_0 : w13.cell? ⟨w6.heap.size, 0, none⟩ = some (.int .i64 (xal)) := by go_simp
  have c13_7_1 : w13.cell? ⟨w6.heap.size, 1, none⟩ = some (.int .i64 (xah)) := by go_simp
  have c13_8_0 : w13.cell? ⟨w7.heap.size, 0, none⟩ = some (.int .i64 (xml)) := by go_simp
  have c13_8_1 : w13.cell? ⟨w7.heap.size, 1, none⟩ = some (.int .i64 (xmh)) := by go_simp
  have c13_9_0 : w13.cell? ⟨w8.heap.size, 0, none⟩ = some (.int .i64 (xml)) := by go_simp
  have c13_9_1 : w13.cell? ⟨w8.heap.size, 1, none⟩ = some (.int .i64 (xmh)) := by go_simp
  have c13_10_0 : w13.cell? ⟨w9.heap.size, 0, none⟩ = some (.int .i64 (xll)) := by go_simp
  have c13_10_1 : w13.cell? ⟨w9.heap.size, 1, none⟩ = some (.int .i64 (xlh)) := by go_simp
  have c13_11_0 : w13.cell? ⟨w10.heap.size, 0, none⟩ = some (.int .i64 (xll)) := by go_simp
  have c13_11_1 : w13.cell? ⟨w10.heap.size, 1, none⟩ = some (.int .i64 (xlh)) := by go_simp
  clear hc13 hf13 c12_0_0 c12_0_1 c12_1_0 c12_1_1 c12_2_0 c12_2_1 c12_3_0 c12_3_1 c12_4_0 c12_4_1 c12_5_0 c12_5_1 c12_6_0 c12_6_1 c12_7_0 c12_7_1 c12_8_0 c12_8_1 c12_9_0 c12_9_1 c12_10_0 c12_10_1 c12_11_0 c12_11_1
  go_wp2_with fail
  refine (same_any xml xmh xme _).mono ?_
  rintro e w14 ⟨rfl, hb14⟩
  obtain ⟨hc14, hf14⟩ := bcell hb14
  have hz14 := hb14.size
  try simp only [World.size_alloc, World.size_setCell] at hz14
  try have : w.heap.size < w14.heap.size := by omega
  try have : w.heap.size ≤ w14.heap.size := by omega
  try have : w.heap.size + 1 < w14.heap.size := by omega
  try have : w.heap.size + 1 ≤ w14.heap.size := by omega
  try have : w1.heap.size < w14.heap.size := by omega
  try have : w1.heap.size ≤ w14.heap.size := by omega
  try have : w2.heap.size < w14.heap.size := by omega
  try have : w2.heap.size ≤ w14.heap.size := by omega
  try have : w3.heap.size < w14.heap.size := by omega
  try have : w3.heap.size ≤ w14.heap.size := by omega
  try have : w4.heap.size < w14.heap.size := by omega
  try have : w4.heap.size ≤ w14.heap.size := by omega
  try have : w5.heap.size < w14.heap.size := by omega
  try have : w5.heap.size ≤ w14.heap.size := by omega
  try have : w6.heap.size < w14.heap.size := by omega
  try have : w6.heap.size ≤ w14.heap.size := by omega
  try have : w7.heap.size < w14.heap.size := by omega
  try have : w7.heap.size ≤ w14.heap.size := by omega
  try have : w8.heap.size < w14.heap.size := by omega
  try have : w8.heap.size ≤ w14.heap.size := by omega
  try have : w9.heap.size < w14.heap.size := by omega
  try have : w9.heap.size ≤ w14.heap.size := by omega
  try have : w10.heap.size < w14.heap.size := by omega
  try have : w10.heap.size ≤ w14.heap.size := by omega
  have c14_0_0 : w14.cell? ⟨w.heap.size, 0, none⟩ = some (.int .i64 (al)) := by go_simp
  have c14_0_1 : w14.cell? ⟨w.heap.size, 1, none⟩ = some (.int .i64 (ah)) := by go_simp
  have c14_1_0 : w14.cell? ⟨w.heap.size + 1, 0, none⟩ = some (.int .i64 (bl)) := by go_simp
  have c14_1_1 : w14.cell? ⟨w.heap.size + 1, 1, none⟩ = some (.int .i64 (bh)) := by go_simp
  have c14_2_0 : w14.cell? ⟨w1.heap.size, 0, none⟩ = some (.int .i64 (xql)) := by go_simp
  have c14_2_1 : w14.cell? ⟨w1.heap.size, 1, none⟩ = some (.int .i64 (xqh)) := by go_simp
  have c14_3_0 : w14.cell? ⟨w2.heap.size, 0, none⟩ = some (.int .i64 (xql)) := by go_simp
  have c14_3_1 : w14.cell? ⟨w2.heap.size, 1, none⟩ = some (.int .i64 (xqh)) := by go_simp
  have c14_4_0 : w14.cell? ⟨w3.heap.size, 0, none⟩ = some (.int .i64 (xrl)) := by go_simp
  have c14_4_1 : w14.cell? ⟨w3.heap.size, 1, none⟩ = some (.int .i64 (xrh)) := by go_simp
  have c14_5_0 : w14.cell? ⟨w4.heap.size, 0, none⟩ = some (.int .i64 (xrl)) := by go_simp
  have c14_5_1 : w14.cell? ⟨w4.heap.size, 1, none⟩ = some (.int .i64 (xrh)) := by go_simp
  have c14_6_0 : w14.cell? ⟨w5.heap.size, 0, none⟩ = some (.int .i64 (xal)) := by go_simp
  have c14_6_1 : w14.cell? ⟨w5.heap.size, 1, none⟩ = some (.int .i64 (xah)) := by go_simp
  have c14_7_0 : w14.cell? ⟨w6.heap.size, 0, none⟩ = some (.int .i64 (xal)) := by go_simp
  have c14_7_1 : w14.cell? ⟨w6.heap.size, 1, none⟩ = some (.int .i64 (xah)) := by go_simp
  have c14_8_0 : w14.cell? ⟨w7.heap.size, 0, none⟩ = some (.int .i64 (xml)) := by go_simp
  have c14_8_1 : w14.cell? ⟨w7.heap.size, 1, none⟩ = some (.int .i64 (xmh)) := by go_simp
  have c14_9_0 : w14.cell? ⟨w8.heap.size, 0, none⟩ = some (.int .i64 (xml)) := by go_simp
  have c14_9_1 : w14.cell? ⟨w8.heap.size, 1, none⟩ = some (.int .i64 (xmh)) := by go_simp
  have c14_10_0 : w14.cell? ⟨w9.heap.size, 0, none⟩ = some (.int .i64 (xll)) := by go_simp
  have c14_10_1 : w14.cell? ⟨w9.heap.size, 1, none⟩ = some (.int .i64 (xlh)) := by go_simp
  have c14_11_0 : w14.cell? ⟨w10.heap.size, 0, none⟩ = some (.int .i64 (xll)) := by go_simp
  have c14_11_1 : w14.cell? ⟨w10.heap.size, 1, none⟩ = some (.int .i64 (xlh)) := by go_simp
  clear hc14 hf14 c13_0_0 c13_0_1 c13_1_0 c13_1_1 c13_2_0 c13_2_1 c13_3_0 c13_3_1 c13_4_0 c13_4_1 c13_5_0 c13_5_1 c13_6_0 c13_6_1 c13_7_0 c13_7_1 c13_8_0 c13_8_1 c13_9_0 c13_9_1 c13_10_0 c13_10_1 c13_11_0 c13_11_1
  go_wp2_with fail
  refine (same_any xll xlh xme _).mono ?_
  rintro e w15 ⟨rfl, hb15⟩
  obtain ⟨hc15, hf15⟩ := bcell hb15
  have hz15 := hb15.size
  try simp only [World.size_alloc, World.size_setCell] at hz15
  try have : w.heap.size < w15.heap.size := by omega
  try have : w.heap.size ≤ w15.heap.size := by omega
  try have : w.heap.size + 1 < w15.heap.size := by omega
  try have : w.heap.size + 1 ≤ w15.heap.size := by omega
  try have : w1.heap.size < w15.heap.size := by omega
  try have : w1.heap.size ≤ w15.heap.size := by omega
  try have : w2.heap.size < w15.heap.size := by omega
  try have : w2.heap.size ≤ w15.heap.size := by omega
  try have : w3.heap.size < w15.heap.size := by omega
  try have : w3.heap.size ≤ w15.heap.size := by omega
  try have : w4.heap.size < w15.heap.size := by omega
  try have : w4.heap.size ≤ w15.heap.size := by omega
  try have : w5.heap.size < w15.heap.size := by omega
  try have : w5.heap.size ≤ w15.heap.size := by omega
  try have : w6.heap.size < w15.heap.size := by omega
  try have : w6.heap.size ≤ w15.heap.size := by omega
  try have : w7.heap.size < w15.heap.size := by omega
  try have : w7.heap.size ≤ w15.heap.size := by omega
  try have : w8.heap.size < w15.heap.size := by omega
  try have : w8.heap.size ≤ w15.heap.size := by omega
  try have : w9.heap.size < w15.heap.size := by omega
  try have : w9.heap.size ≤ w15.heap.size := by omega
  try have : w10.heap.size < w15.heap.size := by omega
  try have : w10.heap.size ≤ w15.heap.size := by omega
  have c15_0_0 : w15.cell? ⟨w.heap.size, 0, none⟩ = some (.int .i64 (al)) := by go_simp
  have c15_0_1 : w15.cell? ⟨w.heap.size, 1, none⟩ = some (.int .i64 (ah)) := by go_simp
  have c15_1_0 : w15.cell? ⟨w.heap.size + 1, 0, none⟩ = some (.int .i64 (bl)) := by go_simp
  have c15_1_1 : w15.cell? ⟨w.heap.size + 1, 1, none⟩ = some (.int .i64 (bh)) := by go_simp
  have c15_2_0 : w15.cell? ⟨w1.heap.size, 0, none⟩ = some (.int .i64 (xql)) := by go_simp
  have c15_2_1 : w15.cell? ⟨w1.heap.size, 1, none⟩ = some (.int .i64 (xqh)) := by go_simp
  have c15_3_0 : w15.cell? ⟨w2.heap.size, 0, none⟩ = some (.int .i64 (xql)) := by go_simp
  have c15_3_1 : w15.cell? ⟨w2.heap.size, 1, none⟩ = some (.int .i64 (xqh)) := by go_simp
  have c15_4_0 : w15.cell? ⟨w3.heap.size, 0, none⟩ = some (.int .i64 (xrl)) := by go_simp
  have c15_4_1 : w15.cell? ⟨w3.heap.size, 1, none⟩ = some (.int .i64 (xrh)) := by go_simp
  have c15_5_0 : w15.cell? ⟨w4.heap.size, 0, none⟩ = some (.int .i64 (xrl)) := by go_simp
  have c15_5_1 : w15.cell? ⟨w4.heap.size, 1, none⟩ = some (.int .i64 (xrh)) := by go_simp
  have c15_6_0 : w15.cell? ⟨w5.heap.size, 0, none⟩ = some (.int .i64 (xal)) := by go_simp
  have c15_6_1 : w15.cell? ⟨w5.heap.size, 1, none⟩ = some (.int .i64 (xah)) := by go_simp
  have c15_7_0 : w15.cell? ⟨w6.heap.size, 0, none⟩ = some (.int .i64 (xal)) := by go_simp
  have c15_7_1 : w15.cell? ⟨w6.heap.size, 1, none⟩ = some (.int .i64 (xah)) := by go_simp
  have c15_8_0 : w15.cell? ⟨w7.heap.size, 0, none⟩ = some (.int .i64 (xml)) := by go_simp
  have c15_8_1 : w15.cell? ⟨w7.heap.size, 1, none⟩ = some (.int .i64 (xmh)) := by go_simp
  have c15_9_0 : w15.cell? ⟨w8.heap.size, 0, none⟩ = some (.int .i64 (xml)) := by go_simp
  have c15_9_1 : w15.cell? ⟨w8.heap.size, 1, none⟩ = some (.int .i64 (xmh)) := by go_simp
  have c15_10_0 : w15.cell? ⟨w9.heap.size, 0, none⟩ = some (.int .i64 (xll)) := by go_simp
  have c15_10_1 : w15.cell? ⟨w9.heap.size, 1, none⟩ = some (.int .i64 (xlh)) := by go_simp
  have c15_11_0 : w15.cell? ⟨w10.heap.size, 0, none⟩ = some (.int .i64 (xll)) := by go_simp
  have c15_11_1 : w15.cell? ⟨w10.heap.size, 1, none⟩ = some (.int .i64 (xlh)) := by go_simp
  clear hc15 hf15 c14_0_0 c14_0_1 c14_1_0 c14_1_1 c14_2_0 c14_2_1 c14_3_0 c14_3_1 c14_4_0 c14_4_1 c14_5_0 c14_5_1 c14_6_0 c14_6_1 c14_7_0 c14_7_1 c14_8_0 c14_8_1 c14_9_0 c14_9_1 c14_10_0 c14_10_1 c14_11_0 c14_11_1
  go_wp2
  go_ret
  exact ⟨rfl, (by repeat (first | with_reducible exact Below.refl _ _ | ((with_reducible refine Below.setCell ?_ ?_ _); rotate_left; (first | omega | (simp <;> omega))) | ((with_reducible refine Below.alloc ?_ ?_ _); rotate_left; (first | omega | (simp <;> omega))) | (with_reducible refine Below.drew ?_) | ((with_reducible refine Below.trans ?_ (Below.mono hC9 ?_)); rotate_left; (first | omega | (simp <;> omega))) | ((with_reducible refine Below.trans ?_ (Below.mono hb1 ?_)); rotate_left; (first | omega | (simp <;> omega))) | ((with_reducible refine Below.trans ?_ (Below.mono hb2 ?_)); rotate_left; (first | omega | (simp <;> omega))) | ((with_reducible refine Below.trans ?_ (Below.mono hb3 ?_)); rotate_left; (first | omega | (simp <;> omega))) | ((with_reducible refine Below.trans ?_ (Below.mono hb4 ?_)); rotate_left; (first | omega | (simp <;> omega))) | ((with_reducible refine Below.trans ?_ (Below.mono hb5 ?_)); rotate_left; (first | omega | (simp <;> omega))) | ((with_reducible refine Below.trans ?_ (Below.mono hb6 ?_)); rotate_left; (first | omega | (simp <;> omega))) | ((with_reducible refine Below.trans ?_ (Below.mono hb7 ?_)); rotate_left; (first | omega | (simp <;> omega))) | ((with_reducible refine Below.trans ?_ (Below.mono hb8 ?_)); rotate_left; (first | omega | (simp <;> omega))) | ((with_reducible refine Below.trans ?_ (Below.mono hb9 ?_)); rotate_left; (first | omega | (simp <;> omega))) | ((with_reducible refine Below.trans ?_ (Below.mono hb10 ?_)); rotate_left; (first | omega | (simp <;> omega))) | ((with_reducible refine Below.trans ?_ (Below.mono hb11 ?_)); rotate_left; (first | omega | (simp <;> omega))) | ((with_reducible refine Below.trans ?_ (Below.mono hb12 ?_)); rotate_left; (first | omega | (simp <;> omega))) | ((with_reducible refine Below.trans ?_ (Below.mono hb13 ?_)); rotate_left; (first | omega | (simp <;> omega))) | ((with_reducible refine Below.trans ?_ (Below.mono hb14 ?_)); rotate_left; (first | omega | (simp <;> omega))) | ((with_reducible refine Below.trans ?_ (Below.mono hb15 ?_)); rotate_left; (first | omega | (simp <;> omega))) | ((with_reducible refine Below.trans ?_ (Below.mono hb16 ?_)); rotate_left; (first | omega | (simp <;> omega))) | ((with_reducible refine Below.trans ?_ (Below.mono hb17 ?_)); rotate_left; (first | omega | (simp <;> omega))) | ((with_reducible refine Below.trans ?_ (Below.mono hb18 ?_)); rotate_left; (first | omega | (simp <;> omega))) | ((with_reducible refine Below.trans ?_ (Below.mono hb19 ?_)); rotate_left; (first | omega | (simp <;> omega))) | ((with_reducible refine Below.trans ?_ (Below.mono hb20 ?_)); rotate_left; (first | omega | (simp <;> omega))) | ((with_reducible refine Below.trans ?_ (Below.mono hb21 ?_)); rotate_left; (first | omega | (simp <;> omega))) | ((with_reducible refine Below.trans ?_ (Below.mono hb22 ?_)); rotate_left; (first | omega | (simp <;> omega))) | ((with_reducible refine Below.trans ?_ (Below.mono hb23 ?_)); rotate_left; (first | omega | (simp <;> omega))) | ((with_reducible refine Below.trans ?_ (Below.mono hb24 ?_)); rotate_left; (first | omega | (simp <;> omega))) | ((with_reducible refine Below.trans ?_ (Below.mono hb25 ?_)); rotate_left; (first | omega | (simp <;> omega))) | ((with_reducible refine Below.trans ?_ (Below.mono (by assumption) ?_)); rotate_left; (first | omega | (simp <;> omega)))))⟩
theorem own : ownKnob Try.prog.godebug = none := by kernel_rfl
theorem cellsSpan : Try.prog.cellsOf 24 = 2 := by kernel_rfl
set_option maxRecDepth 100000 in
theorem lifted (os : Os) (started : os.Started) (H : Type) (enc : TypeId × Value → H) :
    ReturnsInHanded {} Try.checked os 6 .any (Rows.spanRootsSpec.pre6 enc Try.prog Try.f6 Rows.spanRootsRow.domain false) (Rows.spanRootsSpec.post enc Try.prog Try.f6 false true false false) := by
  refine returnsInHanded_of_change (C := Try.checked) own started (by kernel_rfl) Try.func6
    (ChangeSpec.witness6 (enc := enc) (C := Try.checked) false ⟨#[], #[.agg #[.int .i64 0, .int .i64 0], .agg #[.int .i64 0, .int .i64 0]], []⟩ 8 (by kernel_rfl) (by kernel_rfl) (by kernel_rfl) (by kernel_rfl)) ?_
  intro W base args ds gs before hval0 hW _ _
  have hval : ∀ (j : Nat) t v, Try.f6.params[j]? = some t → args[j]? = some v → Value.okWide Try.prog W .any base t v := hval0
  have hW' := hW
  obtain ⟨p, q, hA0, hV, rfl, _, _⟩ := hW
  have hA : DataW.TrodAll enc Try.prog W 0 (fun _ => true) true Try.f6.params.toList args.toList ds p := hA0
  rw [Try.params6] at hA hval
  obtain ⟨v0, vs0, d0, ds0, p0, q0, hargs, rfl, rfl, h0, r0⟩ := trodAll_cons hA
  obtain ⟨v1, vs1, d1, ds1, p1, q1, rfl, rfl, rfl, h1, r1⟩ := trodAll_cons r0
  obtain ⟨rfl, rfl, rfl⟩ := trodAll_nil r1
  obtain rfl : args = #[v0, v1] := by cases args; simp_all
  obtain ⟨rfl, rfl⟩ := trodVars_none hV
  obtain ⟨c00, c01, y00, y01, m0, rfl, rfl, rfl, hy00, hy01⟩ := open_agg2 Try.underlying24 (by kernel_rfl) cellsSpan (hval 0 24 v0 rfl rfl) h0
  obtain ⟨x00, e00, rfl, wf00⟩ := DataW.trod_int Try.underlying22 hy00
  obtain ⟨x01, e01, rfl, wf01⟩ := DataW.trod_int Try.underlying22 hy01
  simp at e00 e01
  subst e00 e01
  have rd0 : ∀ (W' : World) (sp : Nat → Bool), DataW.Trod enc Try.prog W' 0 sp true 24 (.agg #[.int .i64 x00, .int .i64 x01]) (.agg [.lit (.int .i64 x00), .lit (.int .i64 x01)]) [] := fun W' sp =>
    shut_agg2 (y0 := (.lit (.int .i64 x00), [])) (y1 := (.lit (.int .i64 x01), [])) Try.underlying24 (by kernel_rfl) cellsSpan ⟨1, by simp [DataW.trod, Try.underlying22, wf00]⟩ ⟨1, by simp [DataW.trod, Try.underlying22, wf01]⟩
  obtain ⟨c10, c11, y10, y11, m1, rfl, rfl, rfl, hy10, hy11⟩ := open_agg2 Try.underlying24 (by kernel_rfl) cellsSpan (hval 1 24 v1 rfl rfl) h1
  obtain ⟨x10, e10, rfl, wf10⟩ := DataW.trod_int Try.underlying22 hy10
  obtain ⟨x11, e11, rfl, wf11⟩ := DataW.trod_int Try.underlying22 hy11
  simp at e10 e11
  subst e10 e11
  have rd1 : ∀ (W' : World) (sp : Nat → Bool), DataW.Trod enc Try.prog W' 0 sp true 24 (.agg #[.int .i64 x10, .int .i64 x11]) (.agg [.lit (.int .i64 x10), .lit (.int .i64 x11)]) [] := fun W' sp =>
    shut_agg2 (y0 := (.lit (.int .i64 x10), [])) (y1 := (.lit (.int .i64 x11), [])) Try.underlying24 (by kernel_rfl) cellsSpan ⟨1, by simp [DataW.trod, Try.underlying22, wf10]⟩ ⟨1, by simp [DataW.trod, Try.underlying22, wf11]⟩
  clear hA0 hval0
  simp only [List.append_nil] at hW'
  refine (walk x00 x01 x10 x11 (i64_of_wf wf00) (i64_of_wf wf01) (i64_of_wf wf10) (i64_of_wf wf11) W).mono fun e W' ⟨he, hb⟩ => ?_
  subst he
  exact ⟨_, rfl, _, _, _, [], [], [], hW', (trodAll_cons_mk (shut_bool Try.underlying4 _) trodAll_mk0), (by have sp : Nat → Bool := fun b => decide (b < W.heap.size); exact (trodAll_cons_mk (rd0 _ _) (trodAll_cons_mk (rd1 _ _) trodAll_mk0))), rfl, hb.frame _, fun h => by cases h⟩
theorem holds : Rows.SpanRootsSaid :=
  OpenClaim.holds_of_wide 6 Try.f6 rfl rfl rfl rfl rfl rfl rfl ⟨rfl, rfl, rfl, rfl, rfl⟩ rfl rfl rfl rfl rfl (by kernel_rfl) Try.func6 (by kernel_rfl)
    (of_decide_eq_true (by kernel_rfl)) (by unfold Func.isWrapper; first | (rw [if_pos (by decide +kernel)]; kernel_rfl) | (rw [if_neg (by decide +kernel)]; exact ⟨rfl, rfl⟩))
    (fun os started H enc _ => lifted os started H enc)
#print axioms holds
end lawSpanRoots
end Go.Proofs.Ytbfbnmmgmkbieaa
