/- The law of the products and quotients of layer 1. -/
import Derived.Test.YtbfbnmmgmkbieaaRDivP
import Derived.Test.YtbfbnmmgmkbieaaRDivN
import Derived.Test.YtbfbnmmgmkbieaaMid2
import Derived.Test.YtbfbnmmgmkbieaaRows
import Derived.ProofKit
import Derived.Lib.SmallJoins
set_option linter.unusedVariables false
set_option linter.unusedSimpArgs false
namespace Go.Proofs.Ytbfbnmmgmkbieaa
open Go.RowKit
theorem rdiv_any (al ah bl bh : Int) (i0 : I64 al) (j0 : I64 ah) (i1 : I64 bl) (j1 : I64 bh) (w : World) :
    Calls Try.prog 32 #[.agg #[.int .i64 (al), .int .i64 (ah)], .agg #[.int .i64 (bl), .int .i64 (bh)]] w fun e w' => e = .returned (.tuple #[.agg #[.int .i64 (okI (vB al ah && vB bl bh) (zI (zB bl bh) (oLo (mi (dL al bl bh) (dL ah bl bh)) (mx (dH al bl bh) (dH ah bl bh))))), .int .i64 (okI (vB al ah && vB bl bh) (zI (zB bl bh) (oHi (mi (dL al bl bh) (dL ah bl bh)) (mx (dH al bl bh) (dH ah bl bh)))))], .int .i64 (errE (vB al ah && vB bl bh) (zE (zB bl bh) (oE (mi (dL al bl bh) (dL ah bl bh)) (mx (dH al bl bh) (dH ah bl bh)))))]) ∧ Below w.heap.size w w' := by
  cases hv : (vB al ah && vB bl bh)
  · rw [ok_f, ok_f, err_f]
    have HV := hide (rboth al ah bl bh 2 (by rw [hv]; rfl))
    clear hv i0 i1 j0 j1
    go_enter Try.func32, Try.ntmps32
    go_wp2_with fail
    refine (HV.out _).mono ?_
    rintro e w1 ⟨rfl, hb1⟩
    obtain ⟨hc1, hf1⟩ := bcell hb1
    have hz1 := hb1.size
    try simp only [World.size_alloc, World.size_setCell] at hz1
    try have : w.heap.size < w1.heap.size := by omega
    try have : w.heap.size ≤ w1.heap.size := by omega
    try have : w.heap.size + 1 < w1.heap.size := by omega
    try have : w.heap.size + 1 ≤ w1.heap.size := by omega
    try have : w.heap.size + 1 + 1 < w1.heap.size := by omega
    try have : w.heap.size + 1 + 1 ≤ w1.heap.size := by omega
    have c1_0_0 : w1.cell? ⟨w.heap.size, 0, none⟩ = some (.int .i64 (al)) := by go_simp
    have c1_0_1 : w1.cell? ⟨w.heap.size, 1, none⟩ = some (.int .i64 (ah)) := by go_simp
    have c1_1_0 : w1.cell? ⟨w.heap.size + 1, 0, none⟩ = some (.int .i64 (bl)) := by go_simp
    have c1_1_1 : w1.cell? ⟨w.heap.size + 1, 1, none⟩ = some (.int .i64 (bh)) := by go_simp
    have c1_2_0 : w1.cell? ⟨w.heap.size + 1 + 1, 0, none⟩ = some (.int .i64 (0)) := by go_simp
    have g1_2_0 : w1.frozen? ⟨w.heap.size + 1 + 1, 0, none⟩ = false := by go_simp
    have c1_2_1 : w1.cell? ⟨w.heap.size + 1 + 1, 1, none⟩ = some (.int .i64 (0)) := by go_simp
    have g1_2_1 : w1.frozen? ⟨w.heap.size + 1 + 1, 1, none⟩ = false := by go_simp
    clear hc1 hf1
    go_wp2
    refine bodyPost_ret (v := .tuple #[.agg #[.int .i64 (0), .int .i64 (0)], .int .i64 2]) (by simp only [results, Try.results32]; go_simp) rfl ⟨rfl, (by repeat (first | with_reducible exact Below.refl _ _ | with_reducible refine bdrew ?_ | ((with_reducible first | refine bset ?_ ?_ | refine ball ?_ ?_ | refine bth (by assumption) ?_ ?_); first | omega | (simp <;> omega))))⟩
  · rw [ok_t, ok_t, err_t]
    cases hz : zB bl bh
    · have vb : vB bl bh = true := by cases h : vB bl bh <;> simp [h] at hv ⊢
      obtain ⟨n0, n1⟩ := z_ff hz vb
      have hv' : (vB al ah && vB bl bh) = true := hv
      have hzz := of_decide_eq_false hz
      rw [(z_f _).1, (z_f _).1, (z_f _).2]
      have fin : oLo (mi (mi (mi (sL al 4294967296 bl) (sL al 4294967296 bh)) (sL ah 4294967296 bl)) (sL ah 4294967296 bh)) (mx (mx (mx (sH al 4294967296 bl) (sH al 4294967296 bh)) (sH ah 4294967296 bl)) (sH ah 4294967296 bh)) = oLo (mi (dL al bl bh) (dL ah bl bh)) (mx (dH al bl bh) (dH ah bl bh)) ∧ oHi (mi (mi (mi (sL al 4294967296 bl) (sL al 4294967296 bh)) (sL ah 4294967296 bl)) (sL ah 4294967296 bh)) (mx (mx (mx (sH al 4294967296 bl) (sH al 4294967296 bh)) (sH ah 4294967296 bl)) (sH ah 4294967296 bh)) = oHi (mi (dL al bl bh) (dL ah bl bh)) (mx (dH al bl bh) (dH ah bl bh)) ∧ oE (mi (mi (mi (sL al 4294967296 bl) (sL al 4294967296 bh)) (sL ah 4294967296 bl)) (sL ah 4294967296 bh)) (mx (mx (mx (sH al 4294967296 bl) (sH al 4294967296 bh)) (sH ah 4294967296 bl)) (sH ah 4294967296 bh)) = oE (mi (dL al bl bh) (dL ah bl bh)) (mx (dH al bl bh) (dH ah bl bh)) := by
        rw [mi_asc, mx_asc]
        exact ⟨rfl, rfl, rfl⟩
      by_cases c : bl ≤ 0
      · exact rdiv_loop_N al ah bl bh _ _ _ _ _ _ _ _ hv' c (fun h => hzz ⟨c, h⟩) i0 j0 i1 j1 (rover al bl i0 i1 n0) (rover al bh i0 j1 n1) (rover ah bl j0 i1 n0) (rover ah bh j0 j1 n1) _ _ _ fin w
      · exact rdiv_loop_P al ah bl bh _ _ _ _ _ _ _ _ hv' c i0 j0 i1 j1 (rover al bl i0 i1 n0) (rover al bh i0 j1 n1) (rover ah bl j0 i1 n0) (rover ah bh j0 j1 n1) _ _ _ fin w
    · rw [(z_t _).1, (z_t _).1, (z_t _).2]
      have HV := hide (rboth al ah bl bh 0 (by rw [hv]; rfl))
      obtain ⟨c1, c2⟩ := of_decide_eq_true hz
      clear hv hz i0 i1 j0 j1
      go_enter Try.func32, Try.ntmps32
      go_wp2_with fail
      refine (HV.out _).mono ?_
      rintro e w1 ⟨rfl, hb1⟩
      obtain ⟨hc1, hf1⟩ := bcell hb1
      have hz1 := hb1.size
      try simp only [World.size_alloc, World.size_setCell] at hz1
      try have : w.heap.size < w1.heap.size := by omega
      try have : w.heap.size ≤ w1.heap.size := by omega
      try have : w.heap.size + 1 < w1.heap.size := by omega
      try have : w.heap.size + 1 ≤ w1.heap.size := by omega
      try have : w.heap.size + 1 + 1 < w1.heap.size := by omega
      try have : w.heap.size + 1 + 1 ≤ w1.heap.size := by omega
      have c1_0_0 : w1.cell? ⟨w.heap.size, 0, none⟩ = some (.int .i64 (al)) := by go_simp
      have c1_0_1 : w1.cell? ⟨w.heap.size, 1, none⟩ = some (.int .i64 (ah)) := by go_simp
      have c1_1_0 : w1.cell? ⟨w.heap.size + 1, 0, none⟩ = some (.int .i64 (bl)) := by go_simp
      have c1_1_1 : w1.cell? ⟨w.heap.size + 1, 1, none⟩ = some (.int .i64 (bh)) := by go_simp
      have c1_2_0 : w1.cell? ⟨w.heap.size + 1 + 1, 0, none⟩ = some (.int .i64 (0)) := by go_simp
      have g1_2_0 : w1.frozen? ⟨w.heap.size + 1 + 1, 0, none⟩ = false := by go_simp
      have c1_2_1 : w1.cell? ⟨w.heap.size + 1 + 1, 1, none⟩ = some (.int .i64 (0)) := by go_simp
      have g1_2_1 : w1.frozen? ⟨w.heap.size + 1 + 1, 1, none⟩ = false := by go_simp
      clear hc1 hf1
      go_wp2
      refine bodyPost_ret (v := .tuple #[.agg #[.int .i64 (0), .int .i64 (0)], .int .i64 10]) (by simp only [results, Try.results32]; go_simp) rfl ⟨rfl, (by repeat (first | with_reducible exact Below.refl _ _ | with_reducible refine bdrew ?_ | ((with_reducible first | refine bset ?_ ?_ | refine ball ?_ ?_ | refine bth (by assumption) ?_ ?_); first | omega | (simp <;> omega))))⟩
namespace lawSpanProducts
open Go.ChangeShapes Go.WideShapes Go.ChangeAt Go.Joins
set_option maxHeartbeats 8000000 in
theorem walk (al ah bl bh : Int) (i0 : I64 al) (j0 : I64 ah) (i1 : I64 bl) (j1 : I64 bh) (w : World) :
    Calls Try.prog 5 #[.agg #[.int .i64 (al), .int .i64 (ah)], .agg #[.int .i64 (bl), .int .i64 (bh)]] w fun e w' => e = .returned (.bool true) ∧ Below w.heap.size w w' := by
  have Hm := hide (And.intro (mul_any al ah bl bh i0 j0 i1 j1) (rmul_any al ah bl bh i0 j0 i1 j1))
  have Hd := hide (And.intro (div_any al ah bl bh i0 j0 i1 j1) (rdiv_any al ah bl bh i0 j0 i1 j1))
  clear i0 j0 i1 j1
  generalize okI (vB al ah && vB bl bh) (oLo (mi (mL al bl bh) (mL ah bl bh)) (mx (mH al bl bh) (mH ah bl bh))) = xml at *
  generalize okI (vB al ah && vB bl bh) (oHi (mi (mL al bl bh) (mL ah bl bh)) (mx (mH al bl bh) (mH ah bl bh))) = xmh at *
  generalize errE (vB al ah && vB bl bh) (oE (mi (mL al bl bh) (mL ah bl bh)) (mx (mH al bl bh) (mH ah bl bh))) = xme at *
  generalize okI (vB al ah && vB bl bh) (zI (zB bl bh) (oLo (mi (dL al bl bh) (dL ah bl bh)) (mx (dH al bl bh) (dH ah bl bh)))) = xdl at *
  generalize okI (vB al ah && vB bl bh) (zI (zB bl bh) (oHi (mi (dL al bl bh) (dL ah bl bh)) (mx (dH al bl bh) (dH ah bl bh)))) = xdh at *
  generalize errE (vB al ah && vB bl bh) (zE (zB bl bh) (oE (mi (dL al bl bh) (dL ah bl bh)) (mx (dH al bl bh) (dH ah bl bh)))) = xde at *
  go_enter Try.func5, Try.ntmps5
  go_wp2_with fail
  refine (Hm.out.1 _).mono ?_
  rintro e w1 ⟨rfl, hb1⟩
  obtain ⟨hc1, hf1⟩ := bcell hb1
  have hz1 := hb1.size
  try simp only [World.size_alloc, World.size_setCell] at hz1
  try have : w.heap.size < w1.heap.size := by omega
  try have : w.heap.size < w1.heap.size + 1 := by omega
  try have : w.heap.size ≤ w1.heap.size := by omega
  try have : w.heap.size + 1 < w1.heap.size := by omega
  try have : w.heap.size + 1 < w1.heap.size + 1 := by omega
  try have : w.heap.size + 1 ≤ w1.heap.size := by omega
  have c1_0_0 : w1.cell? ⟨w.heap.size, 0, none⟩ = some (.int .i64 (al)) := by go_simp
  have c1_0_1 : w1.cell? ⟨w.heap.size, 1, none⟩ = some (.int .i64 (ah)) := by go_simp
  have c1_1_0 : w1.cell? ⟨w.heap.size + 1, 0, none⟩ = some (.int .i64 (bl)) := by go_simp
  have c1_1_1 : w1.cell? ⟨w.heap.size + 1, 1, none⟩ = some (.int .i64 (bh)) := by go_simp
  clear hc1 hf1
  go_wp2_with fail
  refine (Hm.out.2 _).mono ?_
  rintro e w2 ⟨rfl, hb2⟩
  obtain ⟨hc2, hf2⟩ := bcell hb2
  have hz2 := hb2.size
  try simp only [World.size_alloc, World.size_setCell] at hz2
  try have : w.heap.size < w2.heap.size := by omega
  try have : w.heap.size < w2.heap.size + 1 := by omega
  try have : w.heap.size ≤ w2.heap.size := by omega
  try have : w.heap.size + 1 < w2.heap.size := by omega
  try have : w.heap.size + 1 < w2.heap.size + 1 := by omega
  try have : w.heap.size + 1 ≤ w2.heap.size := by omega
  try have : w1.heap.size < w2.heap.size := by omega
  try have : w1.heap.size < w2.heap.size + 1 := by omega
  try have : w1.heap.size ≤ w2.heap.size := by omega
  have c2_0_0 : w2.cell? ⟨w.heap.size, 0, none⟩ = some (.int .i64 (al)) := by go_simp
  have c2_0_1 : w2.cell? ⟨w.heap.size, 1, none⟩ = some (.int .i64 (ah)) := by go_simp
  have c2_1_0 : w2.cell? ⟨w.heap.size + 1, 0, none⟩ = some (.int .i64 (bl)) := by go_simp
  have c2_1_1 : w2.cell? ⟨w.heap.size + 1, 1, none⟩ = some (.int .i64 (bh)) := by go_simp
  have c2_2_0 : w2.cell? ⟨w1.heap.size, 0, none⟩ = some (.int .i64 (xml)) := by go_simp
  have c2_2_1 : w2.cell? ⟨w1.heap.size, 1, none⟩ = some (.int .i64 (xmh)) := by go_simp
  clear hc2 hf2 c1_0_0 c1_0_1 c1_1_0 c1_1_1
  go_wp2_with fail
  refine (Hd.out.1 _).mono ?_
  rintro e w3 ⟨rfl, hb3⟩
  obtain ⟨hc3, hf3⟩ := bcell hb3
  have hz3 := hb3.size
  try simp only [World.size_alloc, World.size_setCell] at hz3
  try have : w.heap.size < w3.heap.size := by omega
  try have : w.heap.size < w3.heap.size + 1 := by omega
  try have : w.heap.size ≤ w3.heap.size := by omega
  try have : w.heap.size + 1 < w3.heap.size := by omega
  try have : w.heap.size + 1 < w3.heap.size + 1 := by omega
  try have : w.heap.size + 1 ≤ w3.heap.size := by omega
  try have : w1.heap.size < w3.heap.size := by omega
  try have : w1.heap.size < w3.heap.size + 1 := by omega
  try have : w1.heap.size ≤ w3.heap.size := by omega
  try have : w2.heap.size < w3.heap.size := by omega
  try have : w2.heap.size < w3.heap.size + 1 := by omega
  try have : w2.heap.size ≤ w3.heap.size := by omega
  have c3_0_0 : w3.cell? ⟨w.heap.size, 0, none⟩ = some (.int .i64 (al)) := by go_simp
  have c3_0_1 : w3.cell? ⟨w.heap.size, 1, none⟩ = some (.int .i64 (ah)) := by go_simp
  have c3_1_0 : w3.cell? ⟨w.heap.size + 1, 0, none⟩ = some (.int .i64 (bl)) := by go_simp
  have c3_1_1 : w3.cell? ⟨w.heap.size + 1, 1, none⟩ = some (.int .i64 (bh)) := by go_simp
  have c3_2_0 : w3.cell? ⟨w1.heap.size, 0, none⟩ = some (.int .i64 (xml)) := by go_simp
  have c3_2_1 : w3.cell? ⟨w1.heap.size, 1, none⟩ = some (.int .i64 (xmh)) := by go_simp
  have c3_3_0 : w3.cell? ⟨w2.heap.size, 0, none⟩ = some (.int .i64 (xml)) := by go_simp
  have c3_3_1 : w3.cell? ⟨w2.heap.size, 1, none⟩ = some (.int .i64 (xmh)) := by go_simp
  clear hc3 hf3 c2_0_0 c2_0_1 c2_1_0 c2_1_1 c2_2_0 c2_2_1
  go_wp2_with fail
  refine (Hd.out.2 _).mono ?_
  rintro e w4 ⟨rfl, hb4⟩
  obtain ⟨hc4, hf4⟩ := bcell hb4
  have hz4 := hb4.size
  try simp only [World.size_alloc, World.size_setCell] at hz4
  try have : w.heap.size < w4.heap.size := by omega
  try have : w.heap.size < w4.heap.size + 1 := by omega
  try have : w.heap.size ≤ w4.heap.size := by omega
  try have : w.heap.size + 1 < w4.heap.size := by omega
  try have : w.heap.size + 1 < w4.heap.size + 1 := by omega
  try have : w.heap.size + 1 ≤ w4.heap.size := by omega
  try have : w1.heap.size < w4.heap.size := by omega
  try have : w1.heap.size < w4.heap.size + 1 := by omega
  try have : w1.heap.size ≤ w4.heap.size := by omega
  try have : w2.heap.size < w4.heap.size := by omega
  try have : w2.heap.size < w4.heap.size + 1 := by omega
  try have : w2.heap.size ≤ w4.heap.size := by omega
  try have : w3.heap.size < w4.heap.size := by omega
  try have : w3.heap.size < w4.heap.size + 1 := by omega
  try have : w3.heap.size ≤ w4.heap.size := by omega
  have c4_0_0 : w4.cell? ⟨w.heap.size, 0, none⟩ = some (.int .i64 (al)) := by go_simp
  have c4_0_1 : w4.cell? ⟨w.heap.size, 1, none⟩ = some (.int .i64 (ah)) := by go_simp
  have c4_1_0 : w4.cell? ⟨w.heap.size + 1, 0, none⟩ = some (.int .i64 (bl)) := by go_simp
  have c4_1_1 : w4.cell? ⟨w.heap.size + 1, 1, none⟩ = some (.int .i64 (bh)) := by go_simp
  have c4_2_0 : w4.cell? ⟨w1.heap.size, 0, none⟩ = some (.int .i64 (xml)) := by go_simp
  have c4_2_1 : w4.cell? ⟨w1.heap.size, 1, none⟩ = some (.int .i64 (xmh)) := by go_simp
  have c4_3_0 : w4.cell? ⟨w2.heap.size, 0, none⟩ = some (.int .i64 (xml)) := by go_simp
  have c4_3_1 : w4.cell? ⟨w2.heap.size, 1, none⟩ = some (.int .i64 (xmh)) := by go_simp
  have c4_4_0 : w4.cell? ⟨w3.heap.size, 0, none⟩ = some (.int .i64 (xdl)) := by go_simp
  have c4_4_1 : w4.cell? ⟨w3.heap.size, 1, none⟩ = some (.int .i64 (xdh)) := by go_simp
  clear hc4 hf4 c3_0_0 c3_0_1 c3_1_0 c3_1_1 c3_2_0 c3_2_1 c3_3_0 c3_3_1
  go_wp2_with fail
  refine (same_any xml xmh xme _).mono ?_
  rintro e w5 ⟨rfl, hb5⟩
  obtain ⟨hc5, hf5⟩ := bcell hb5
  have hz5 := hb5.size
  try simp only [World.size_alloc, World.size_setCell] at hz5
  try have : w.heap.size < w5.heap.size := by omega
  try have : w.heap.size ≤ w5.heap.size := by omega
  try have : w.heap.size + 1 < w5.heap.size := by omega
  try have : w.heap.size + 1 ≤ w5.heap.size := by omega
  try have : w1.heap.size < w5.heap.size := by omega
  try have : w1.heap.size ≤ w5.heap.size := by omega
  try have : w2.heap.size < w5.heap.size := by omega
  try have : w2.heap.size ≤ w5.heap.size := by omega
  try have : w3.heap.size < w5.heap.size := by omega
  try have : w3.heap.size ≤ w5.heap.size := by omega
  try have : w4.heap.size < w5.heap.size := by omega
  try have : w4.heap.size ≤ w5.heap.size := by omega
  have c5_0_0 : w5.cell? ⟨w.heap.size, 0, none⟩ = some (.int .i64 (al)) := by go_simp
  have c5_0_1 : w5.cell? ⟨w.heap.size, 1, none⟩ = some (.int .i64 (ah)) := by go_simp
  have c5_1_0 : w5.cell? ⟨w.heap.size + 1, 0, none⟩ = some (.int .i64 (bl)) := by go_simp
  have c5_1_1 : w5.cell? ⟨w.heap.size + 1, 1, none⟩ = some (.int .i64 (bh)) := by go_simp
  have c5_2_0 : w5.cell? ⟨w1.heap.size, 0, none⟩ = some (.int .i64 (xml)) := by go_simp
  have c5_2_1 : w5.cell? ⟨w1.heap.size, 1, none⟩ = some (.int .i64 (xmh)) := by go_simp
  have c5_3_0 : w5.cell? ⟨w2.heap.size, 0, none⟩ = some (.int .i64 (xml)) := by go_simp
  have c5_3_1 : w5.cell? ⟨w2.heap.size, 1, none⟩ = some (.int .i64 (xmh)) := by go_simp
  have c5_4_0 : w5.cell? ⟨w3.heap.size, 0, none⟩ = some (.int .i64 (xdl)) := by go_simp
  have c5_4_1 : w5.cell? ⟨w3.heap.size, 1, none⟩ = some (.int .i64 (xdh)) := by go_simp
  have c5_5_0 : w5.cell? ⟨w4.heap.size, 0, none⟩ = some (.int .i64 (xdl)) := by go_simp
  have c5_5_1 : w5.cell? ⟨w4.heap.size, 1, none⟩ = some (.int .i64 (xdh)) := by go_simp
  clear hc5 hf5 c4_0_0 c4_0_1 c4_1_0 c4_1_1 c4_2_0 c4_2_1 c4_3_0 c4_3_1 c4_4_0 c4_4_1
  go_wp2_with fail
  refine (same_any xdl xdh xde _).mono ?_
  rintro e w6 ⟨rfl, hb6⟩
  obtain ⟨hc6, hf6⟩ := bcell hb6
  have hz6 := hb6.size
  try simp only [World.size_alloc, World.size_setCell] at hz6
  try have : w.heap.size < w6.heap.size := by omega
  try have : w.heap.size ≤ w6.heap.size := by omega
  try have : w.heap.size + 1 < w6.heap.size := by omega
  try have : w.heap.size + 1 ≤ w6.heap.size := by omega
  try have : w1.heap.size < w6.heap.size := by omega
  try have : w1.heap.size ≤ w6.heap.size := by omega
  try have : w2.heap.size < w6.heap.size := by omega
  try have : w2.heap.size ≤ w6.heap.size := by omega
  try have : w3.heap.size < w6.heap.size := by omega
  try have : w3.heap.size ≤ w6.heap.size := by omega
  try have : w4.heap.size < w6.heap.size := by omega
  try have : w4.heap.size ≤ w6.heap.size := by omega
  have c6_0_0 : w6.cell? ⟨w.heap.size, 0, none⟩ = some (.int .i64 (al)) := by go_simp
  have c6_0_1 : w6.cell? ⟨w.heap.size, 1, none⟩ = some (.int .i64 (ah)) := by go_simp
  have c6_1_0 : w6.cell? ⟨w.heap.size + 1, 0, none⟩ = some (.int .i64 (bl)) := by go_simp
  have c6_1_1 : w6.cell? ⟨w.heap.size + 1, 1, none⟩ = some (.int .i64 (bh)) := by go_simp
  have c6_2_0 : w6.cell? ⟨w1.heap.size, 0, none⟩ = some (.int .i64 (xml)) := by go_simp
  have c6_2_1 : w6.cell? ⟨w1.heap.size, 1, none⟩ = some (.int .i64 (xmh)) := by go_simp
  have c6_3_0 : w6.cell? ⟨w2.heap.size, 0, none⟩ = some (.int .i64 (xml)) := by go_simp
  have c6_3_1 : w6.cell? ⟨w2.heap.size, 1, none⟩ = some (.int .i64 (xmh)) := by go_simp
  have c6_4_0 : w6.cell? ⟨w3.heap.size, 0, none⟩ = some (.int .i64 (xdl)) := by go_simp
  have c6_4_1 : w6.cell? ⟨w3.heap.size, 1, none⟩ = some (.int .i64 (xdh)) := by go_simp
  have c6_5_0 : w6.cell? ⟨w4.heap.size, 0, none⟩ = some (.int .i64 (xdl)) := by go_simp
  have c6_5_1 : w6.cell? ⟨w4.heap.size, 1, none⟩ = some (.int .i64 (xdh)) := by go_simp
  clear hc6 hf6 c5_0_0 c5_0_1 c5_1_0 c5_1_1 c5_2_0 c5_2_1 c5_3_0 c5_3_1 c5_4_0 c5_4_1 c5_5_0 c5_5_1
  go_wp2
  go_ret
  exact ⟨rfl, (by repeat (first | with_reducible exact Below.refl _ _ | with_reducible refine bdrew ?_ | ((with_reducible first | refine bset ?_ ?_ | refine ball ?_ ?_ | refine bth (by assumption) ?_ ?_); first | omega | (simp <;> omega))))⟩
theorem own : ownKnob Try.prog.godebug = none := by kernel_rfl
theorem cellsSpan : Try.prog.cellsOf 24 = 2 := by kernel_rfl
set_option maxRecDepth 100000 in
theorem lifted (os : Os) (started : os.Started) (H : Type) (enc : TypeId × Value → H) :
    ReturnsInHanded {} Try.checked os 5 .any (Rows.spanProductsSpec.pre6 enc Try.prog Try.f5 Rows.spanProductsRow.domain false) (Rows.spanProductsSpec.post enc Try.prog Try.f5 false true false false) := by
  refine returnsInHanded_of_change (C := Try.checked) own started (by kernel_rfl) Try.func5
    (ChangeSpec.witness6 (enc := enc) (C := Try.checked) false ⟨#[], #[.agg #[.int .i64 0, .int .i64 0], .agg #[.int .i64 0, .int .i64 0]], []⟩ 8 (by kernel_rfl) (by kernel_rfl) (by kernel_rfl) (by kernel_rfl)) ?_
  intro W base args ds gs before hval0 hW _ _
  have hval : ∀ (j : Nat) t v, Try.f5.params[j]? = some t → args[j]? = some v → Value.okWide Try.prog W .any base t v := hval0
  have hW' := hW
  obtain ⟨p, q, hA0, hV, rfl, _, _⟩ := hW
  have hA : DataW.TrodAll enc Try.prog W 0 (fun _ => true) true Try.f5.params.toList args.toList ds p := hA0
  rw [Try.params5] at hA hval
  obtain ⟨v0, vs0, d0, ds0, p0, q0, hargs, rfl, rfl, h0, r0⟩ := trodAll_cons hA
  obtain ⟨v1, vs1, d1, ds1, p1, q1, rfl, rfl, rfl, h1, r1⟩ := trodAll_cons r0
  obtain ⟨rfl, rfl, rfl⟩ := trodAll_nil r1
  obtain rfl : args = #[v0, v1] := by cases args; simp_all
  obtain ⟨rfl, rfl⟩ := trodVars_none hV
  obtain ⟨c00, c01, y00, y01, m0, rfl, rfl, rfl, hy00, hy01⟩ := open_agg2 Try.underlying24 (by kernel_rfl) cellsSpan (hval 0 24 v0 rfl rfl) h0
  obtain ⟨x00, e00, rfl, wf00⟩ := DataW.trod_int Try.underlying22 hy00
  obtain ⟨x01, e01, rfl, wf01⟩ := DataW.trod_int Try.underlying22 hy01
  simp at e00 e01
  subst e00 e01
  have rd0 : ∀ (W' : World) (sp : Nat → Bool), DataW.Trod enc Try.prog W' 0 sp true 24 (.agg #[.int .i64 x00, .int .i64 x01]) (.agg [.lit (.int .i64 x00), .lit (.int .i64 x01)]) [] := fun W' sp =>
    shut_agg2 (y0 := (.lit (.int .i64 x00), [])) (y1 := (.lit (.int .i64 x01), [])) Try.underlying24 (by kernel_rfl) cellsSpan ⟨1, by simp [DataW.trod, Try.underlying22, wf00]⟩ ⟨1, by simp [DataW.trod, Try.underlying22, wf01]⟩
  obtain ⟨c10, c11, y10, y11, m1, rfl, rfl, rfl, hy10, hy11⟩ := open_agg2 Try.underlying24 (by kernel_rfl) cellsSpan (hval 1 24 v1 rfl rfl) h1
  obtain ⟨x10, e10, rfl, wf10⟩ := DataW.trod_int Try.underlying22 hy10
  obtain ⟨x11, e11, rfl, wf11⟩ := DataW.trod_int Try.underlying22 hy11
  simp at e10 e11
  subst e10 e11
  have rd1 : ∀ (W' : World) (sp : Nat → Bool), DataW.Trod enc Try.prog W' 0 sp true 24 (.agg #[.int .i64 x10, .int .i64 x11]) (.agg [.lit (.int .i64 x10), .lit (.int .i64 x11)]) [] := fun W' sp =>
    shut_agg2 (y0 := (.lit (.int .i64 x10), [])) (y1 := (.lit (.int .i64 x11), [])) Try.underlying24 (by kernel_rfl) cellsSpan ⟨1, by simp [DataW.trod, Try.underlying22, wf10]⟩ ⟨1, by simp [DataW.trod, Try.underlying22, wf11]⟩
  clear hA0 hval0
  simp only [List.append_nil] at hW'
  refine (walk x00 x01 x10 x11 (i64_of_wf wf00) (i64_of_wf wf01) (i64_of_wf wf10) (i64_of_wf wf11) W).mono fun e W' ⟨he, hb⟩ => ?_
  subst he
  exact ⟨_, rfl, _, _, _, [], [], [], hW', (trodAll_cons_mk (shut_bool Try.underlying4 _) trodAll_mk0), (by have sp : Nat → Bool := fun b => decide (b < W.heap.size); exact (trodAll_cons_mk (rd0 _ _) (trodAll_cons_mk (rd1 _ _) trodAll_mk0))), rfl, hb.frame _, fun h => by cases h⟩
theorem holds : Rows.SpanProductsSaid :=
  OpenClaim.holds_of_wide 5 Try.f5 rfl rfl rfl rfl rfl rfl rfl ⟨rfl, rfl, rfl, rfl, rfl⟩ rfl rfl rfl rfl rfl (by kernel_rfl) Try.func5 (by kernel_rfl)
    (of_decide_eq_true (by kernel_rfl)) (by unfold Func.isWrapper; first | (rw [if_pos (by decide +kernel)]; kernel_rfl) | (rw [if_neg (by decide +kernel)]; exact ⟨rfl, rfl⟩))
    (fun os started H enc _ => lifted os started H enc)
#print axioms holds
end lawSpanProducts
end Go.Proofs.Ytbfbnmmgmkbieaa
