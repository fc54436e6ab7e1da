/- The law of the circle of layer 1. -/
import Derived.Test.YtbfbnmmgmkbieabDoorAlive
import Derived.Test.YtbfbnmmgmkbieabDoorCircleM
import Derived.Test.YtbfbnmmgmkbieabDoorSum
import Derived.ProofKit
set_option linter.unusedVariables false
set_option linter.unusedSimpArgs false
namespace Go.Proofs.YtbfbnmmgmkbieabDoor
open Go.RowKit
namespace lawSpanCircle
theorem walk_out (t : Int) (i0 : I64 t) (w : World) (h : t < -4294967296 ∨ 4294967296 < t) :
    Calls Tryd.prog 8 #[.int .i64 t] w fun e w' => e = .returned (.bool true) ∧ Below w.heap.size w w' := by
  have AL := hide alive_any
  obtain ⟨nt, hnt⟩ : ∃ n, wrap64 (-t) = n := ⟨_, rfl⟩
  have i1 : I64 nt := by rw [← hnt]; unfold wrap64; constructor <;> omega
  have b0 : tnB t t = false := by simp [tnB]; omega
  have T1 := fun W => turn_any t t i0 i0 W
  rw [b0] at T1
  obtain ⟨e1, he1⟩ : ∃ e, tnE t t = e := ⟨_, rfl⟩
  have he : e1 = 4 ∨ e1 = 2 := by rw [← he1]; unfold tnE; rw [if_neg (show ¬ (-4294967296 ≤ t ∧ t ≤ 4294967296) by omega)]; split <;> omega
  rw [he1] at T1
  have T1' : Hid (∀ W, Calls Tryd.prog 29 #[.agg #[.int .i64 (t), .int .i64 (t)]] W fun e w' => e = .returned (.tuple #[.agg #[.int .i64 (0), .int .i64 (0)], .agg #[.int .i64 (0), .int .i64 (0)], .int .i64 e1]) ∧ Below W.heap.size W w') := hide T1
  have T2 := hide (fun W => turn_any nt nt i1 i1 W)
  generalize okI (tnB nt nt) (tcL nt nt) = p0 at *
  generalize okI (tnB nt nt) (tcH nt nt) = p1 at *
  generalize okI (tnB nt nt) (tuL nt nt) = p2 at *
  generalize okI (tnB nt nt) (tuH nt nt) = p3 at *
  generalize tnE nt nt = e2 at *
  clear T1 he1 b0 i0 i1
  have g1 : decide (t < -4294967296) = true ∨ (decide (t < -4294967296) = false ∧ decide (4294967296 < t) = true) := by
    by_cases c : t < -4294967296
    · exact .inl (decide_eq_true c)
    · exact .inr ⟨decide_eq_false c, decide_eq_true (by omega)⟩
  clear h
  rcases he with rfl | rfl <;> rcases g1 with g1 | ⟨g1, g2⟩
  · go_enter Tryd.func8, Tryd.ntmps8
    go_wp2_with fail
    refine (AL.out _).mono ?_
    rintro e w1 ⟨rfl, hb1⟩
    obtain ⟨hc1, hf1⟩ := bcell hb1
    have hz1 := hb1.size
    try simp only [World.size_alloc, World.size_setCell] at hz1
    clear hc1 hf1
    go_wp2_with fail
    refine (T1'.out _).mono ?_
    rintro e w2 ⟨rfl, hb2⟩
    obtain ⟨hc2, hf2⟩ := bcell hb2
    have hz2 := hb2.size
    try simp only [World.size_alloc, World.size_setCell] at hz2
    try have : w1.heap.size < w2.heap.size := by omega
    try have : w1.heap.size < w2.heap.size + 1 := by omega
    try have : w1.heap.size < w2.heap.size + 1 + 1 := by omega
    try have : w1.heap.size ≤ w2.heap.size := by omega
    try have : w1.heap.size + 1 < w2.heap.size := by omega
    try have : w1.heap.size + 1 < w2.heap.size + 1 := by omega
    try have : w1.heap.size + 1 < w2.heap.size + 1 + 1 := by omega
    try have : w1.heap.size + 1 ≤ w2.heap.size := by omega
    have c2_0_0 : w2.cell? ⟨w1.heap.size, 0, none⟩ = some (.int .i64 (t)) := by go_simp
    have c2_0_1 : w2.cell? ⟨w1.heap.size, 1, none⟩ = some (.int .i64 (t)) := by go_simp
    have c2_1_0 : w2.cell? ⟨w1.heap.size + 1, 0, none⟩ = some (.int .i64 (nt)) := by go_simp
    have c2_1_1 : w2.cell? ⟨w1.heap.size + 1, 1, none⟩ = some (.int .i64 (nt)) := by go_simp
    clear hc2 hf2
    go_wp2_with fail
    refine (T2.out _).mono ?_
    rintro e w3 ⟨rfl, hb3⟩
    obtain ⟨hc3, hf3⟩ := bcell hb3
    have hz3 := hb3.size
    try simp only [World.size_alloc, World.size_setCell] at hz3
    try have : w1.heap.size < w3.heap.size := by omega
    try have : w1.heap.size ≤ w3.heap.size := by omega
    try have : w1.heap.size + 1 < w3.heap.size := by omega
    try have : w1.heap.size + 1 ≤ w3.heap.size := by omega
    try have : w2.heap.size < w3.heap.size := by omega
    try have : w2.heap.size ≤ w3.heap.size := by omega
    try have : w2.heap.size + 1 < w3.heap.size := by omega
    try have : w2.heap.size + 1 ≤ w3.heap.size := by omega
    have c3_0_0 : w3.cell? ⟨w1.heap.size, 0, none⟩ = some (.int .i64 (t)) := by go_simp
    have c3_0_1 : w3.cell? ⟨w1.heap.size, 1, none⟩ = some (.int .i64 (t)) := by go_simp
    have c3_1_0 : w3.cell? ⟨w1.heap.size + 1, 0, none⟩ = some (.int .i64 (nt)) := by go_simp
    have c3_1_1 : w3.cell? ⟨w1.heap.size + 1, 1, none⟩ = some (.int .i64 (nt)) := by go_simp
    have c3_2_0 : w3.cell? ⟨w2.heap.size, 0, none⟩ = some (.int .i64 (0)) := by go_simp
    have c3_2_1 : w3.cell? ⟨w2.heap.size, 1, none⟩ = some (.int .i64 (0)) := by go_simp
    have c3_3_0 : w3.cell? ⟨w2.heap.size + 1, 0, none⟩ = some (.int .i64 (0)) := by go_simp
    have c3_3_1 : w3.cell? ⟨w2.heap.size + 1, 1, none⟩ = some (.int .i64 (0)) := by go_simp
    clear hc3 hf3 c2_0_0 c2_0_1 c2_1_0 c2_1_1
    go_wp2
    go_ret
    exact ⟨rfl, (by repeat (first | with_reducible exact Below.refl _ _ | with_reducible refine bdrew ?_ | ((with_reducible first | refine bset ?_ ?_ | refine ball ?_ ?_ | refine bth (by assumption) ?_ ?_); first | omega | (simp <;> omega))))⟩
  · go_enter Tryd.func8, Tryd.ntmps8
    go_wp2_with fail
    refine (AL.out _).mono ?_
    rintro e w1 ⟨rfl, hb1⟩
    obtain ⟨hc1, hf1⟩ := bcell hb1
    have hz1 := hb1.size
    try simp only [World.size_alloc, World.size_setCell] at hz1
    clear hc1 hf1
    go_wp2_with fail
    refine (T1'.out _).mono ?_
    rintro e w2 ⟨rfl, hb2⟩
    obtain ⟨hc2, hf2⟩ := bcell hb2
    have hz2 := hb2.size
    try simp only [World.size_alloc, World.size_setCell] at hz2
    try have : w1.heap.size < w2.heap.size := by omega
    try have : w1.heap.size < w2.heap.size + 1 := by omega
    try have : w1.heap.size < w2.heap.size + 1 + 1 := by omega
    try have : w1.heap.size ≤ w2.heap.size := by omega
    try have : w1.heap.size + 1 < w2.heap.size := by omega
    try have : w1.heap.size + 1 < w2.heap.size + 1 := by omega
    try have : w1.heap.size + 1 < w2.heap.size + 1 + 1 := by omega
    try have : w1.heap.size + 1 ≤ w2.heap.size := by omega
    have c2_0_0 : w2.cell? ⟨w1.heap.size, 0, none⟩ = some (.int .i64 (t)) := by go_simp
    have c2_0_1 : w2.cell? ⟨w1.heap.size, 1, none⟩ = some (.int .i64 (t)) := by go_simp
    have c2_1_0 : w2.cell? ⟨w1.heap.size + 1, 0, none⟩ = some (.int .i64 (nt)) := by go_simp
    have c2_1_1 : w2.cell? ⟨w1.heap.size + 1, 1, none⟩ = some (.int .i64 (nt)) := by go_simp
    clear hc2 hf2
    go_wp2_with fail
    refine (T2.out _).mono ?_
    rintro e w3 ⟨rfl, hb3⟩
    obtain ⟨hc3, hf3⟩ := bcell hb3
    have hz3 := hb3.size
    try simp only [World.size_alloc, World.size_setCell] at hz3
    try have : w1.heap.size < w3.heap.size := by omega
    try have : w1.heap.size ≤ w3.heap.size := by omega
    try have : w1.heap.size + 1 < w3.heap.size := by omega
    try have : w1.heap.size + 1 ≤ w3.heap.size := by omega
    try have : w2.heap.size < w3.heap.size := by omega
    try have : w2.heap.size ≤ w3.heap.size := by omega
    try have : w2.heap.size + 1 < w3.heap.size := by omega
    try have : w2.heap.size + 1 ≤ w3.heap.size := by omega
    have c3_0_0 : w3.cell? ⟨w1.heap.size, 0, none⟩ = some (.int .i64 (t)) := by go_simp
    have c3_0_1 : w3.cell? ⟨w1.heap.size, 1, none⟩ = some (.int .i64 (t)) := by go_simp
    have c3_1_0 : w3.cell? ⟨w1.heap.size + 1, 0, none⟩ = some (.int .i64 (nt)) := by go_simp
    have c3_1_1 : w3.cell? ⟨w1.heap.size + 1, 1, none⟩ = some (.int .i64 (nt)) := by go_simp
    have c3_2_0 : w3.cell? ⟨w2.heap.size, 0, none⟩ = some (.int .i64 (0)) := by go_simp
    have c3_2_1 : w3.cell? ⟨w2.heap.size, 1, none⟩ = some (.int .i64 (0)) := by go_simp
    have c3_3_0 : w3.cell? ⟨w2.heap.size + 1, 0, none⟩ = some (.int .i64 (0)) := by go_simp
    have c3_3_1 : w3.cell? ⟨w2.heap.size + 1, 1, none⟩ = some (.int .i64 (0)) := by go_simp
    clear hc3 hf3 c2_0_0 c2_0_1 c2_1_0 c2_1_1
    go_wp2
    go_ret
    exact ⟨rfl, (by repeat (first | with_reducible exact Below.refl _ _ | with_reducible refine bdrew ?_ | ((with_reducible first | refine bset ?_ ?_ | refine ball ?_ ?_ | refine bth (by assumption) ?_ ?_); first | omega | (simp <;> omega))))⟩
  · go_enter Tryd.func8, Tryd.ntmps8
    go_wp2_with fail
    refine (AL.out _).mono ?_
    rintro e w1 ⟨rfl, hb1⟩
    obtain ⟨hc1, hf1⟩ := bcell hb1
    have hz1 := hb1.size
    try simp only [World.size_alloc, World.size_setCell] at hz1
    clear hc1 hf1
    go_wp2_with fail
    refine (T1'.out _).mono ?_
    rintro e w2 ⟨rfl, hb2⟩
    obtain ⟨hc2, hf2⟩ := bcell hb2
    have hz2 := hb2.size
    try simp only [World.size_alloc, World.size_setCell] at hz2
    try have : w1.heap.size < w2.heap.size := by omega
    try have : w1.heap.size < w2.heap.size + 1 := by omega
    try have : w1.heap.size < w2.heap.size + 1 + 1 := by omega
    try have : w1.heap.size ≤ w2.heap.size := by omega
    try have : w1.heap.size + 1 < w2.heap.size := by omega
    try have : w1.heap.size + 1 < w2.heap.size + 1 := by omega
    try have : w1.heap.size + 1 < w2.heap.size + 1 + 1 := by omega
    try have : w1.heap.size + 1 ≤ w2.heap.size := by omega
    have c2_0_0 : w2.cell? ⟨w1.heap.size, 0, none⟩ = some (.int .i64 (t)) := by go_simp
    have c2_0_1 : w2.cell? ⟨w1.heap.size, 1, none⟩ = some (.int .i64 (t)) := by go_simp
    have c2_1_0 : w2.cell? ⟨w1.heap.size + 1, 0, none⟩ = some (.int .i64 (nt)) := by go_simp
    have c2_1_1 : w2.cell? ⟨w1.heap.size + 1, 1, none⟩ = some (.int .i64 (nt)) := by go_simp
    clear hc2 hf2
    go_wp2_with fail
    refine (T2.out _).mono ?_
    rintro e w3 ⟨rfl, hb3⟩
    obtain ⟨hc3, hf3⟩ := bcell hb3
    have hz3 := hb3.size
    try simp only [World.size_alloc, World.size_setCell] at hz3
    try have : w1.heap.size < w3.heap.size := by omega
    try have : w1.heap.size ≤ w3.heap.size := by omega
    try have : w1.heap.size + 1 < w3.heap.size := by omega
    try have : w1.heap.size + 1 ≤ w3.heap.size := by omega
    try have : w2.heap.size < w3.heap.size := by omega
    try have : w2.heap.size ≤ w3.heap.size := by omega
    try have : w2.heap.size + 1 < w3.heap.size := by omega
    try have : w2.heap.size + 1 ≤ w3.heap.size := by omega
    have c3_0_0 : w3.cell? ⟨w1.heap.size, 0, none⟩ = some (.int .i64 (t)) := by go_simp
    have c3_0_1 : w3.cell? ⟨w1.heap.size, 1, none⟩ = some (.int .i64 (t)) := by go_simp
    have c3_1_0 : w3.cell? ⟨w1.heap.size + 1, 0, none⟩ = some (.int .i64 (nt)) := by go_simp
    have c3_1_1 : w3.cell? ⟨w1.heap.size + 1, 1, none⟩ = some (.int .i64 (nt)) := by go_simp
    have c3_2_0 : w3.cell? ⟨w2.heap.size, 0, none⟩ = some (.int .i64 (0)) := by go_simp
    have c3_2_1 : w3.cell? ⟨w2.heap.size, 1, none⟩ = some (.int .i64 (0)) := by go_simp
    have c3_3_0 : w3.cell? ⟨w2.heap.size + 1, 0, none⟩ = some (.int .i64 (0)) := by go_simp
    have c3_3_1 : w3.cell? ⟨w2.heap.size + 1, 1, none⟩ = some (.int .i64 (0)) := by go_simp
    clear hc3 hf3 c2_0_0 c2_0_1 c2_1_0 c2_1_1
    go_wp2
    go_ret
    exact ⟨rfl, (by repeat (first | with_reducible exact Below.refl _ _ | with_reducible refine bdrew ?_ | ((with_reducible first | refine bset ?_ ?_ | refine ball ?_ ?_ | refine bth (by assumption) ?_ ?_); first | omega | (simp <;> omega))))⟩
  · go_enter Tryd.func8, Tryd.ntmps8
    go_wp2_with fail
    refine (AL.out _).mono ?_
    rintro e w1 ⟨rfl, hb1⟩
    obtain ⟨hc1, hf1⟩ := bcell hb1
    have hz1 := hb1.size
    try simp only [World.size_alloc, World.size_setCell] at hz1
    clear hc1 hf1
    go_wp2_with fail
    refine (T1'.out _).mono ?_
    rintro e w2 ⟨rfl, hb2⟩
    obtain ⟨hc2, hf2⟩ := bcell hb2
    have hz2 := hb2.size
    try simp only [World.size_alloc, World.size_setCell] at hz2
    try have : w1.heap.size < w2.heap.size := by omega
    try have : w1.heap.size < w2.heap.size + 1 := by omega
    try have : w1.heap.size < w2.heap.size + 1 + 1 := by omega
    try have : w1.heap.size ≤ w2.heap.size := by omega
    try have : w1.heap.size + 1 < w2.heap.size := by omega
    try have : w1.heap.size + 1 < w2.heap.size + 1 := by omega
    try have : w1.heap.size + 1 < w2.heap.size + 1 + 1 := by omega
    try have : w1.heap.size + 1 ≤ w2.heap.size := by omega
    have c2_0_0 : w2.cell? ⟨w1.heap.size, 0, none⟩ = some (.int .i64 (t)) := by go_simp
    have c2_0_1 : w2.cell? ⟨w1.heap.size, 1, none⟩ = some (.int .i64 (t)) := by go_simp
    have c2_1_0 : w2.cell? ⟨w1.heap.size + 1, 0, none⟩ = some (.int .i64 (nt)) := by go_simp
    have c2_1_1 : w2.cell? ⟨w1.heap.size + 1, 1, none⟩ = some (.int .i64 (nt)) := by go_simp
    clear hc2 hf2
    go_wp2_with fail
    refine (T2.out _).mono ?_
    rintro e w3 ⟨rfl, hb3⟩
    obtain ⟨hc3, hf3⟩ := bcell hb3
    have hz3 := hb3.size
    try simp only [World.size_alloc, World.size_setCell] at hz3
    try have : w1.heap.size < w3.heap.size := by omega
    try have : w1.heap.size ≤ w3.heap.size := by omega
    try have : w1.heap.size + 1 < w3.heap.size := by omega
    try have : w1.heap.size + 1 ≤ w3.heap.size := by omega
    try have : w2.heap.size < w3.heap.size := by omega
    try have : w2.heap.size ≤ w3.heap.size := by omega
    try have : w2.heap.size + 1 < w3.heap.size := by omega
    try have : w2.heap.size + 1 ≤ w3.heap.size := by omega
    have c3_0_0 : w3.cell? ⟨w1.heap.size, 0, none⟩ = some (.int .i64 (t)) := by go_simp
    have c3_0_1 : w3.cell? ⟨w1.heap.size, 1, none⟩ = some (.int .i64 (t)) := by go_simp
    have c3_1_0 : w3.cell? ⟨w1.heap.size + 1, 0, none⟩ = some (.int .i64 (nt)) := by go_simp
    have c3_1_1 : w3.cell? ⟨w1.heap.size + 1, 1, none⟩ = some (.int .i64 (nt)) := by go_simp
    have c3_2_0 : w3.cell? ⟨w2.heap.size, 0, none⟩ = some (.int .i64 (0)) := by go_simp
    have c3_2_1 : w3.cell? ⟨w2.heap.size, 1, none⟩ = some (.int .i64 (0)) := by go_simp
    have c3_3_0 : w3.cell? ⟨w2.heap.size + 1, 0, none⟩ = some (.int .i64 (0)) := by go_simp
    have c3_3_1 : w3.cell? ⟨w2.heap.size + 1, 1, none⟩ = some (.int .i64 (0)) := by go_simp
    clear hc3 hf3 c2_0_0 c2_0_1 c2_1_0 c2_1_1
    go_wp2
    go_ret
    exact ⟨rfl, (by repeat (first | with_reducible exact Below.refl _ _ | with_reducible refine bdrew ?_ | ((with_reducible first | refine bset ?_ ?_ | refine ball ?_ ?_ | refine bth (by assumption) ?_ ?_); first | omega | (simp <;> omega))))⟩
set_option maxHeartbeats 4000000 in
set_option maxRecDepth 100000 in
theorem walk_in (t : Int) (i0 : I64 t) (w : World) (h : -4294967296 ≤ t ∧ t ≤ 4294967296) :
    Calls Tryd.prog 8 #[.int .i64 t] w fun e w' => e = .returned (.bool true) ∧ Below w.heap.size w w' := by
  have AL := hide alive_any
  have K := circle t h
  have hnt : wrap64 (-t) = -t := by unfold wrap64; omega
  have i1 : I64 (-t) := ⟨by omega, by omega⟩
  have b0 : tnB t t = true := by simp [tnB, vB]; omega
  have b1 : tnB (-t) (-t) = true := by simp [tnB, vB]; omega
  have f0 : tnE t t = 0 := by unfold tnE; rw [if_pos (by simp [vB]; omega), if_pos (by omega)]
  have f1 : tnE (-t) (-t) = 0 := by unfold tnE; rw [if_pos (by simp [vB]; omega), if_pos (by omega)]
  have T1 := fun W => turn_any t t i0 i0 W
  have T2 := fun W => turn_any (-t) (-t) i1 i1 W
  obtain ⟨n1, n2, n3, n4⟩ := turn_neg t
  rw [b0, f0] at T1
  rw [b1, f1, n1, n2, n3, n4] at T2
  have SC := fun W i j => square_any (tcL t t) (tcH t t) i j W
  have SS := fun W i j => square_any (tuL t t) (tuH t t) i j W
  clear n1 n2 n3 n4 b0 b1 f0 f1 i1
  generalize sqL (absL (tcL t t) (tcH t t)) (absH (tcL t t) (tcH t t)) = x0 at *
  generalize sqH (absL (tcL t t) (tcH t t)) (absH (tcL t t) (tcH t t)) = x1 at *
  generalize sqL (absL (tuL t t) (tuH t t)) (absH (tuL t t) (tuH t t)) = y0 at *
  generalize sqH (absL (tuL t t) (tuH t t)) (absH (tuL t t) (tuH t t)) = y1 at *
  generalize tcL t t = cl at *
  generalize tcH t t = ch at *
  generalize tuL t t = sl at *
  generalize tuH t t = sh at *
  obtain ⟨kc, ks, ⟨kc1, kc2⟩, ⟨ks1, ks2⟩, ⟨kx0, kx1, kx2⟩, ⟨ky0, ky1, ky2⟩, k1, k2⟩ := K
  have icl : I64 cl := ⟨by omega, by omega⟩
  have ich : I64 ch := ⟨by omega, by omega⟩
  have isl : I64 sl := ⟨by omega, by omega⟩
  have ish : I64 sh := ⟨by omega, by omega⟩
  have T1' : Hid (∀ W, Calls Tryd.prog 29 #[.agg #[.int .i64 (t), .int .i64 (t)]] W fun e w' => e = .returned (.tuple #[.agg #[.int .i64 (cl), .int .i64 (ch)], .agg #[.int .i64 (sl), .int .i64 (sh)], .int .i64 0]) ∧ Below W.heap.size W w') := hide T1
  have T2' : Hid (∀ W, Calls Tryd.prog 29 #[.agg #[.int .i64 (-t), .int .i64 (-t)]] W fun e w' => e = .returned (.tuple #[.agg #[.int .i64 (cl), .int .i64 (ch)], .agg #[.int .i64 (-sh), .int .i64 (-sl)], .int .i64 0]) ∧ Below W.heap.size W w') := hide T2
  have NG : Hid (∀ W, Calls Tryd.prog 26 #[.agg #[.int .i64 (-sh), .int .i64 (-sl)]] W fun e w' => e = .returned (.tuple #[.agg #[.int .i64 (sl), .int .i64 (sh)], .int .i64 0]) ∧ Below W.heap.size W w') := hide (fun W => by
    have q := neg_any (-sh) (-sl) ⟨by omega, by omega⟩ ⟨by omega, by omega⟩ W
    rw [show vB (-sh) (-sl) = true by simp [vB]; omega, Int.neg_neg, Int.neg_neg] at q
    exact q)
  have SQ1 : Hid (∀ W, Calls Tryd.prog 27 #[.agg #[.int .i64 (cl), .int .i64 (ch)]] W fun e w' => e = .returned (.tuple #[.agg #[.int .i64 (x0), .int .i64 (x1)], .int .i64 0]) ∧ Below W.heap.size W w') := hide (fun W => by
    have q := SC W icl ich
    have F : fits x0 x1 = true := by simp [fits]; omega
    simp only [show vB cl ch = true by simp [vB]; omega, oLo, oHi, oE, F, okI, errE, if_true] at q
    exact q)
  have SQ2 : Hid (∀ W, Calls Tryd.prog 27 #[.agg #[.int .i64 (sl), .int .i64 (sh)]] W fun e w' => e = .returned (.tuple #[.agg #[.int .i64 (y0), .int .i64 (y1)], .int .i64 0]) ∧ Below W.heap.size W w') := hide (fun W => by
    have q := SS W isl ish
    have F : fits y0 y1 = true := by simp [fits]; omega
    simp only [show vB sl sh = true by simp [vB]; omega, oLo, oHi, oE, F, okI, errE, if_true] at q
    exact q)
  have AD : Hid (∀ W, Calls Tryd.prog 19 #[.agg #[.int .i64 (x0), .int .i64 (x1)], .agg #[.int .i64 (y0), .int .i64 (y1)]] W fun e w' => e = .returned (.tuple #[.agg #[.int .i64 (x0 + y0), .int .i64 (x1 + y1)], .int .i64 0]) ∧ Below W.heap.size W w') := hide (fun W => by
    have q := add_any x0 x1 y0 y1 ⟨by omega, by omega⟩ ⟨by omega, by omega⟩ ⟨by omega, by omega⟩ ⟨by omega, by omega⟩ W
    have F : fits (x0 + y0) (x1 + y1) = true := by simp [fits]; omega
    simp only [show vB x0 x1 = true by simp [vB]; omega, show vB y0 y1 = true by simp [vB]; omega, oLo, oHi, oE, F, okI, errE, if_true, Bool.and_self] at q
    exact q)
  have IN : Hid (∀ W, Calls Tryd.prog 40 #[.agg #[.int .i64 (x0 + y0), .int .i64 (x1 + y1)], .int .i64 4294967296] W fun e w' => e = .returned (.bool true) ∧ Below W.heap.size W w') := hide (fun W => by
    have q := in_any (x0 + y0) (x1 + y1) 4294967296 (by omega) W
    rw [show inB (x0 + y0) (x1 + y1) 4294967296 = true by simp [inB, vB]; omega] at q
    exact q)
  obtain ⟨nt, hn⟩ : ∃ n, -t = n := ⟨_, rfl⟩
  rw [hn] at hnt T2'
  generalize -sh = q0 at *
  generalize -sl = q1 at *
  generalize x0 + y0 = z0 at *
  generalize x1 + y1 = z1 at *
  have g1 : decide (t < -4294967296) = false := decide_eq_false (by omega)
  have g2 : decide (4294967296 < t) = false := decide_eq_false (by omega)
  rw [← hn] at hnt
  have HN := hide hn
  obtain ⟨hN⟩ : Nonempty (wrap64 (-t) = nt) := ⟨by rw [hnt, HN.out]⟩
  clear hnt hn T1 T2 SC SS kc ks kc1 kc2 ks1 ks2 kx0 kx1 kx2 ky0 ky1 ky2 k1 k2 icl ich isl ish i0 h
  go_enter Tryd.func8, Tryd.ntmps8
  go_wp2_with fail
  refine (AL.out _).mono ?_
  rintro e w1 ⟨rfl, hb1⟩
  obtain ⟨hc1, hf1⟩ := bcell hb1
  have hz1 := hb1.size
  try simp only [World.size_alloc, World.size_setCell] at hz1
  clear hc1 hf1
  go_wp2_with fail
  refine (T1'.out _).mono ?_
  rintro e w2 ⟨rfl, hb2⟩
  obtain ⟨hc2, hf2⟩ := bcell hb2
  have hz2 := hb2.size
  try simp only [World.size_alloc, World.size_setCell] at hz2
  try have : w1.heap.size < w2.heap.size := by omega
  try have : w1.heap.size < w2.heap.size + 1 := by omega
  try have : w1.heap.size < w2.heap.size + 1 + 1 := by omega
  try have : w1.heap.size ≤ w2.heap.size := by omega
  try have : w1.heap.size + 1 < w2.heap.size := by omega
  try have : w1.heap.size + 1 < w2.heap.size + 1 := by omega
  try have : w1.heap.size + 1 < w2.heap.size + 1 + 1 := by omega
  try have : w1.heap.size + 1 ≤ w2.heap.size := by omega
  have c2_0_0 : w2.cell? ⟨w1.heap.size, 0, none⟩ = some (.int .i64 (t)) := by go_simp
  have c2_0_1 : w2.cell? ⟨w1.heap.size, 1, none⟩ = some (.int .i64 (t)) := by go_simp
  have c2_1_0 : w2.cell? ⟨w1.heap.size + 1, 0, none⟩ = some (.int .i64 (nt)) := by go_simp
  have c2_1_1 : w2.cell? ⟨w1.heap.size + 1, 1, none⟩ = some (.int .i64 (nt)) := by go_simp
  clear hc2 hf2
  go_wp2_with fail
  refine (T2'.out _).mono ?_
  rintro e w3 ⟨rfl, hb3⟩
  obtain ⟨hc3, hf3⟩ := bcell hb3
  have hz3 := hb3.size
  try simp only [World.size_alloc, World.size_setCell] at hz3
  try have : w1.heap.size < w3.heap.size := by omega
  try have : w1.heap.size < w3.heap.size + 1 := by omega
  try have : w1.heap.size < w3.heap.size + 1 + 1 := by omega
  try have : w1.heap.size ≤ w3.heap.size := by omega
  try have : w1.heap.size + 1 < w3.heap.size := by omega
  try have : w1.heap.size + 1 < w3.heap.size + 1 := by omega
  try have : w1.heap.size + 1 < w3.heap.size + 1 + 1 := by omega
  try have : w1.heap.size + 1 ≤ w3.heap.size := by omega
  try have : w2.heap.size < w3.heap.size := by omega
  try have : w2.heap.size < w3.heap.size + 1 := by omega
  try have : w2.heap.size < w3.heap.size + 1 + 1 := by omega
  try have : w2.heap.size ≤ w3.heap.size := by omega
  try have : w2.heap.size + 1 < w3.heap.size := by omega
  try have : w2.heap.size + 1 < w3.heap.size + 1 := by omega
  try have : w2.heap.size + 1 < w3.heap.size + 1 + 1 := by omega
  try have : w2.heap.size + 1 ≤ w3.heap.size := by omega
  have c3_0_0 : w3.cell? ⟨w1.heap.size, 0, none⟩ = some (.int .i64 (t)) := by go_simp
  have c3_0_1 : w3.cell? ⟨w1.heap.size, 1, none⟩ = some (.int .i64 (t)) := by go_simp
  have c3_1_0 : w3.cell? ⟨w1.heap.size + 1, 0, none⟩ = some (.int .i64 (nt)) := by go_simp
  have c3_1_1 : w3.cell? ⟨w1.heap.size + 1, 1, none⟩ = some (.int .i64 (nt)) := by go_simp
  have c3_2_0 : w3.cell? ⟨w2.heap.size, 0, none⟩ = some (.int .i64 (cl)) := by go_simp
  have c3_2_1 : w3.cell? ⟨w2.heap.size, 1, none⟩ = some (.int .i64 (ch)) := by go_simp
  have c3_3_0 : w3.cell? ⟨w2.heap.size + 1, 0, none⟩ = some (.int .i64 (sl)) := by go_simp
  have c3_3_1 : w3.cell? ⟨w2.heap.size + 1, 1, none⟩ = some (.int .i64 (sh)) := by go_simp
  clear hc3 hf3 c2_0_0 c2_0_1 c2_1_0 c2_1_1
  go_wp2_with fail
  refine (NG.out _).mono ?_
  rintro e w4 ⟨rfl, hb4⟩
  obtain ⟨hc4, hf4⟩ := bcell hb4
  have hz4 := hb4.size
  try simp only [World.size_alloc, World.size_setCell] at hz4
  try have : w1.heap.size < w4.heap.size := by omega
  try have : w1.heap.size < w4.heap.size + 1 := by omega
  try have : w1.heap.size ≤ w4.heap.size := by omega
  try have : w1.heap.size + 1 < w4.heap.size := by omega
  try have : w1.heap.size + 1 < w4.heap.size + 1 := by omega
  try have : w1.heap.size + 1 ≤ w4.heap.size := by omega
  try have : w2.heap.size < w4.heap.size := by omega
  try have : w2.heap.size < w4.heap.size + 1 := by omega
  try have : w2.heap.size ≤ w4.heap.size := by omega
  try have : w2.heap.size + 1 < w4.heap.size := by omega
  try have : w2.heap.size + 1 < w4.heap.size + 1 := by omega
  try have : w2.heap.size + 1 ≤ w4.heap.size := by omega
  try have : w3.heap.size < w4.heap.size := by omega
  try have : w3.heap.size < w4.heap.size + 1 := by omega
  try have : w3.heap.size ≤ w4.heap.size := by omega
  try have : w3.heap.size + 1 < w4.heap.size := by omega
  try have : w3.heap.size + 1 < w4.heap.size + 1 := by omega
  try have : w3.heap.size + 1 ≤ w4.heap.size := by omega
  have c4_0_0 : w4.cell? ⟨w1.heap.size, 0, none⟩ = some (.int .i64 (t)) := by go_simp
  have c4_0_1 : w4.cell? ⟨w1.heap.size, 1, none⟩ = some (.int .i64 (t)) := by go_simp
  have c4_1_0 : w4.cell? ⟨w1.heap.size + 1, 0, none⟩ = some (.int .i64 (nt)) := by go_simp
  have c4_1_1 : w4.cell? ⟨w1.heap.size + 1, 1, none⟩ = some (.int .i64 (nt)) := by go_simp
  have c4_2_0 : w4.cell? ⟨w2.heap.size, 0, none⟩ = some (.int .i64 (cl)) := by go_simp
  have c4_2_1 : w4.cell? ⟨w2.heap.size, 1, none⟩ = some (.int .i64 (ch)) := by go_simp
  have c4_3_0 : w4.cell? ⟨w2.heap.size + 1, 0, none⟩ = some (.int .i64 (sl)) := by go_simp
  have c4_3_1 : w4.cell? ⟨w2.heap.size + 1, 1, none⟩ = some (.int .i64 (sh)) := by go_simp
  have c4_4_0 : w4.cell? ⟨w3.heap.size, 0, none⟩ = some (.int .i64 (cl)) := by go_simp
  have c4_4_1 : w4.cell? ⟨w3.heap.size, 1, none⟩ = some (.int .i64 (ch)) := by go_simp
  have c4_5_0 : w4.cell? ⟨w3.heap.size + 1, 0, none⟩ = some (.int .i64 (q0)) := by go_simp
  have c4_5_1 : w4.cell? ⟨w3.heap.size + 1, 1, none⟩ = some (.int .i64 (q1)) := by go_simp
  clear hc4 hf4 c3_0_0 c3_0_1 c3_1_0 c3_1_1 c3_2_0 c3_2_1 c3_3_0 c3_3_1
  go_wp2_with fail
  refine (SQ1.out _).mono ?_
  rintro e w5 ⟨rfl, hb5⟩
  obtain ⟨hc5, hf5⟩ := bcell hb5
  have hz5 := hb5.size
  try simp only [World.size_alloc, World.size_setCell] at hz5
  try have : w1.heap.size < w5.heap.size := by omega
  try have : w1.heap.size < w5.heap.size + 1 := by omega
  try have : w1.heap.size ≤ w5.heap.size := by omega
  try have : w1.heap.size + 1 < w5.heap.size := by omega
  try have : w1.heap.size + 1 < w5.heap.size + 1 := by omega
  try have : w1.heap.size + 1 ≤ w5.heap.size := by omega
  try have : w2.heap.size < w5.heap.size := by omega
  try have : w2.heap.size < w5.heap.size + 1 := by omega
  try have : w2.heap.size ≤ w5.heap.size := by omega
  try have : w2.heap.size + 1 < w5.heap.size := by omega
  try have : w2.heap.size + 1 < w5.heap.size + 1 := by omega
  try have : w2.heap.size + 1 ≤ w5.heap.size := by omega
  try have : w3.heap.size < w5.heap.size := by omega
  try have : w3.heap.size < w5.heap.size + 1 := by omega
  try have : w3.heap.size ≤ w5.heap.size := by omega
  try have : w3.heap.size + 1 < w5.heap.size := by omega
  try have : w3.heap.size + 1 < w5.heap.size + 1 := by omega
  try have : w3.heap.size + 1 ≤ w5.heap.size := by omega
  try have : w4.heap.size < w5.heap.size := by omega
  try have : w4.heap.size < w5.heap.size + 1 := by omega
  try have : w4.heap.size ≤ w5.heap.size := by omega
  have c5_0_0 : w5.cell? ⟨w1.heap.size, 0, none⟩ = some (.int .i64 (t)) := by go_simp
  have c5_0_1 : w5.cell? ⟨w1.heap.size, 1, none⟩ = some (.int .i64 (t)) := by go_simp
  have c5_1_0 : w5.cell? ⟨w1.heap.size + 1, 0, none⟩ = some (.int .i64 (nt)) := by go_simp
  have c5_1_1 : w5.cell? ⟨w1.heap.size + 1, 1, none⟩ = some (.int .i64 (nt)) := by go_simp
  have c5_2_0 : w5.cell? ⟨w2.heap.size, 0, none⟩ = some (.int .i64 (cl)) := by go_simp
  have c5_2_1 : w5.cell? ⟨w2.heap.size, 1, none⟩ = some (.int .i64 (ch)) := by go_simp
  have c5_3_0 : w5.cell? ⟨w2.heap.size + 1, 0, none⟩ = some (.int .i64 (sl)) := by go_simp
  have c5_3_1 : w5.cell? ⟨w2.heap.size + 1, 1, none⟩ = some (.int .i64 (sh)) := by go_simp
  have c5_4_0 : w5.cell? ⟨w3.heap.size, 0, none⟩ = some (.int .i64 (cl)) := by go_simp
  have c5_4_1 : w5.cell? ⟨w3.heap.size, 1, none⟩ = some (.int .i64 (ch)) := by go_simp
  have c5_5_0 : w5.cell? ⟨w3.heap.size + 1, 0, none⟩ = some (.int .i64 (q0)) := by go_simp
  have c5_5_1 : w5.cell? ⟨w3.heap.size + 1, 1, none⟩ = some (.int .i64 (q1)) := by go_simp
  have c5_6_0 : w5.cell? ⟨w4.heap.size, 0, none⟩ = some (.int .i64 (sl)) := by go_simp
  have c5_6_1 : w5.cell? ⟨w4.heap.size, 1, none⟩ = some (.int .i64 (sh)) := by go_simp
  clear hc5 hf5 c4_0_0 c4_0_1 c4_1_0 c4_1_1 c4_2_0 c4_2_1 c4_3_0 c4_3_1 c4_4_0 c4_4_1 c4_5_0 c4_5_1
  go_wp2_with fail
  refine (SQ2.out _).mono ?_
  rintro e w6 ⟨rfl, hb6⟩
  obtain ⟨hc6, hf6⟩ := bcell hb6
  have hz6 := hb6.size
  try simp only [World.size_alloc, World.size_setCell] at hz6
  try have : w1.heap.size < w6.heap.size := by omega
  try have : w1.heap.size < w6.heap.size + 1 := by omega
  try have : w1.heap.size ≤ w6.heap.size := by omega
  try have : w1.heap.size + 1 < w6.heap.size := by omega
  try have : w1.heap.size + 1 < w6.heap.size + 1 := by omega
  try have : w1.heap.size + 1 ≤ w6.heap.size := by omega
  try have : w2.heap.size < w6.heap.size := by omega
  try have : w2.heap.size < w6.heap.size + 1 := by omega
  try have : w2.heap.size ≤ w6.heap.size := by omega
  try have : w2.heap.size + 1 < w6.heap.size := by omega
  try have : w2.heap.size + 1 < w6.heap.size + 1 := by omega
  try have : w2.heap.size + 1 ≤ w6.heap.size := by omega
  try have : w3.heap.size < w6.heap.size := by omega
  try have : w3.heap.size < w6.heap.size + 1 := by omega
  try have : w3.heap.size ≤ w6.heap.size := by omega
  try have : w3.heap.size + 1 < w6.heap.size := by omega
  try have : w3.heap.size + 1 < w6.heap.size + 1 := by omega
  try have : w3.heap.size + 1 ≤ w6.heap.size := by omega
  try have : w4.heap.size < w6.heap.size := by omega
  try have : w4.heap.size < w6.heap.size + 1 := by omega
  try have : w4.heap.size ≤ w6.heap.size := by omega
  try have : w5.heap.size < w6.heap.size := by omega
  try have : w5.heap.size < w6.heap.size + 1 := by omega
  try have : w5.heap.size ≤ w6.heap.size := by omega
  have c6_0_0 : w6.cell? ⟨w1.heap.size, 0, none⟩ = some (.int .i64 (t)) := by go_simp
  have c6_0_1 : w6.cell? ⟨w1.heap.size, 1, none⟩ = some (.int .i64 (t)) := by go_simp
  have c6_1_0 : w6.cell? ⟨w1.heap.size + 1, 0, none⟩ = some (.int .i64 (nt)) := by go_simp
  have c6_1_1 : w6.cell? ⟨w1.heap.size + 1, 1, none⟩ = some (.int .i64 (nt)) := by go_simp
  have c6_2_0 : w6.cell? ⟨w2.heap.size, 0, none⟩ = some (.int .i64 (cl)) := by go_simp
  have c6_2_1 : w6.cell? ⟨w2.heap.size, 1, none⟩ = some (.int .i64 (ch)) := by go_simp
  have c6_3_0 : w6.cell? ⟨w2.heap.size + 1, 0, none⟩ = some (.int .i64 (sl)) := by go_simp
  have c6_3_1 : w6.cell? ⟨w2.heap.size + 1, 1, none⟩ = some (.int .i64 (sh)) := by go_simp
  have c6_4_0 : w6.cell? ⟨w3.heap.size, 0, none⟩ = some (.int .i64 (cl)) := by go_simp
  have c6_4_1 : w6.cell? ⟨w3.heap.size, 1, none⟩ = some (.int .i64 (ch)) := by go_simp
  have c6_5_0 : w6.cell? ⟨w3.heap.size + 1, 0, none⟩ = some (.int .i64 (q0)) := by go_simp
  have c6_5_1 : w6.cell? ⟨w3.heap.size + 1, 1, none⟩ = some (.int .i64 (q1)) := by go_simp
  have c6_6_0 : w6.cell? ⟨w4.heap.size, 0, none⟩ = some (.int .i64 (sl)) := by go_simp
  have c6_6_1 : w6.cell? ⟨w4.heap.size, 1, none⟩ = some (.int .i64 (sh)) := by go_simp
  have c6_7_0 : w6.cell? ⟨w5.heap.size, 0, none⟩ = some (.int .i64 (x0)) := by go_simp
  have c6_7_1 : w6.cell? ⟨w5.heap.size, 1, none⟩ = some (.int .i64 (x1)) := by go_simp
  clear hc6 hf6 c5_0_0 c5_0_1 c5_1_0 c5_1_1 c5_2_0 c5_2_1 c5_3_0 c5_3_1 c5_4_0 c5_4_1 c5_5_0 c5_5_1 c5_6_0 c5_6_1
  go_wp2_with fail
  refine (AD.out _).mono ?_
  rintro e w7 ⟨rfl, hb7⟩
  obtain ⟨hc7, hf7⟩ := bcell hb7
  have hz7 := hb7.size
  try simp only [World.size_alloc, World.size_setCell] at hz7
  try have : w1.heap.size < w7.heap.size := by omega
  try have : w1.heap.size < w7.heap.size + 1 := by omega
  try have : w1.heap.size ≤ w7.heap.size := by omega
  try have : w1.heap.size + 1 < w7.heap.size := by omega
  try have : w1.heap.size + 1 < w7.heap.size + 1 := by omega
  try have : w1.heap.size + 1 ≤ w7.heap.size := by omega
  try have : w2.heap.size < w7.heap.size := by omega
  try have : w2.heap.size < w7.heap.size + 1 := by omega
  try have : w2.heap.size ≤ w7.heap.size := by omega
  try have : w2.heap.size + 1 < w7.heap.size := by omega
  try have : w2.heap.size + 1 < w7.heap.size + 1 := by omega
  try have : w2.heap.size + 1 ≤ w7.heap.size := by omega
  try have : w3.heap.size < w7.heap.size := by omega
  try have : w3.heap.size < w7.heap.size + 1 := by omega
  try have : w3.heap.size ≤ w7.heap.size := by omega
  try have : w3.heap.size + 1 < w7.heap.size := by omega
  try have : w3.heap.size + 1 < w7.heap.size + 1 := by omega
  try have : w3.heap.size + 1 ≤ w7.heap.size := by omega
  try have : w4.heap.size < w7.heap.size := by omega
  try have : w4.heap.size < w7.heap.size + 1 := by omega
  try have : w4.heap.size ≤ w7.heap.size := by omega
  try have : w5.heap.size < w7.heap.size := by omega
  try have : w5.heap.size < w7.heap.size + 1 := by omega
  try have : w5.heap.size ≤ w7.heap.size := by omega
  try have : w6.heap.size < w7.heap.size := by omega
  try have : w6.heap.size < w7.heap.size + 1 := by omega
  try have : w6.heap.size ≤ w7.heap.size := by omega
  have c7_0_0 : w7.cell? ⟨w1.heap.size, 0, none⟩ = some (.int .i64 (t)) := by go_simp
  have c7_0_1 : w7.cell? ⟨w1.heap.size, 1, none⟩ = some (.int .i64 (t)) := by go_simp
  have c7_1_0 : w7.cell? ⟨w1.heap.size + 1, 0, none⟩ = some (.int .i64 (nt)) := by go_simp
  have c7_1_1 : w7.cell? ⟨w1.heap.size + 1, 1, none⟩ = some (.int .i64 (nt)) := by go_simp
  have c7_2_0 : w7.cell? ⟨w2.heap.size, 0, none⟩ = some (.int .i64 (cl)) := by go_simp
  have c7_2_1 : w7.cell? ⟨w2.heap.size, 1, none⟩ = some (.int .i64 (ch)) := by go_simp
  have c7_3_0 : w7.cell? ⟨w2.heap.size + 1, 0, none⟩ = some (.int .i64 (sl)) := by go_simp
  have c7_3_1 : w7.cell? ⟨w2.heap.size + 1, 1, none⟩ = some (.int .i64 (sh)) := by go_simp
  have c7_4_0 : w7.cell? ⟨w3.heap.size, 0, none⟩ = some (.int .i64 (cl)) := by go_simp
  have c7_4_1 : w7.cell? ⟨w3.heap.size, 1, none⟩ = some (.int .i64 (ch)) := by go_simp
  have c7_5_0 : w7.cell? ⟨w3.heap.size + 1, 0, none⟩ = some (.int .i64 (q0)) := by go_simp
  have c7_5_1 : w7.cell? ⟨w3.heap.size + 1, 1, none⟩ = some (.int .i64 (q1)) := by go_simp
  have c7_6_0 : w7.cell? ⟨w4.heap.size, 0, none⟩ = some (.int .i64 (sl)) := by go_simp
  have c7_6_1 : w7.cell? ⟨w4.heap.size, 1, none⟩ = some (.int .i64 (sh)) := by go_simp
  have c7_7_0 : w7.cell? ⟨w5.heap.size, 0, none⟩ = some (.int .i64 (x0)) := by go_simp
  have c7_7_1 : w7.cell? ⟨w5.heap.size, 1, none⟩ = some (.int .i64 (x1)) := by go_simp
  have c7_8_0 : w7.cell? ⟨w6.heap.size, 0, none⟩ = some (.int .i64 (y0)) := by go_simp
  have c7_8_1 : w7.cell? ⟨w6.heap.size, 1, none⟩ = some (.int .i64 (y1)) := by go_simp
  clear hc7 hf7 c6_0_0 c6_0_1 c6_1_0 c6_1_1 c6_2_0 c6_2_1 c6_3_0 c6_3_1 c6_4_0 c6_4_1 c6_5_0 c6_5_1 c6_6_0 c6_6_1 c6_7_0 c6_7_1
  go_wp2_with fail
  refine (IN.out _).mono ?_
  rintro e w8 ⟨rfl, hb8⟩
  obtain ⟨hc8, hf8⟩ := bcell hb8
  have hz8 := hb8.size
  try simp only [World.size_alloc, World.size_setCell] at hz8
  try have : w1.heap.size < w8.heap.size := by omega
  try have : w1.heap.size ≤ w8.heap.size := by omega
  try have : w1.heap.size + 1 < w8.heap.size := by omega
  try have : w1.heap.size + 1 ≤ w8.heap.size := by omega
  try have : w2.heap.size < w8.heap.size := by omega
  try have : w2.heap.size ≤ w8.heap.size := by omega
  try have : w2.heap.size + 1 < w8.heap.size := by omega
  try have : w2.heap.size + 1 ≤ w8.heap.size := by omega
  try have : w3.heap.size < w8.heap.size := by omega
  try have : w3.heap.size ≤ w8.heap.size := by omega
  try have : w3.heap.size + 1 < w8.heap.size := by omega
  try have : w3.heap.size + 1 ≤ w8.heap.size := by omega
  try have : w4.heap.size < w8.heap.size := by omega
  try have : w4.heap.size ≤ w8.heap.size := by omega
  try have : w5.heap.size < w8.heap.size := by omega
  try have : w5.heap.size ≤ w8.heap.size := by omega
  try have : w6.heap.size < w8.heap.size := by omega
  try have : w6.heap.size ≤ w8.heap.size := by omega
  try have : w7.heap.size < w8.heap.size := by omega
  try have : w7.heap.size ≤ w8.heap.size := by omega
  have c8_0_0 : w8.cell? ⟨w1.heap.size, 0, none⟩ = some (.int .i64 (t)) := by go_simp
  have c8_0_1 : w8.cell? ⟨w1.heap.size, 1, none⟩ = some (.int .i64 (t)) := by go_simp
  have c8_1_0 : w8.cell? ⟨w1.heap.size + 1, 0, none⟩ = some (.int .i64 (nt)) := by go_simp
  have c8_1_1 : w8.cell? ⟨w1.heap.size + 1, 1, none⟩ = some (.int .i64 (nt)) := by go_simp
  have c8_2_0 : w8.cell? ⟨w2.heap.size, 0, none⟩ = some (.int .i64 (cl)) := by go_simp
  have c8_2_1 : w8.cell? ⟨w2.heap.size, 1, none⟩ = some (.int .i64 (ch)) := by go_simp
  have c8_3_0 : w8.cell? ⟨w2.heap.size + 1, 0, none⟩ = some (.int .i64 (sl)) := by go_simp
  have c8_3_1 : w8.cell? ⟨w2.heap.size + 1, 1, none⟩ = some (.int .i64 (sh)) := by go_simp
  have c8_4_0 : w8.cell? ⟨w3.heap.size, 0, none⟩ = some (.int .i64 (cl)) := by go_simp
  have c8_4_1 : w8.cell? ⟨w3.heap.size, 1, none⟩ = some (.int .i64 (ch)) := by go_simp
  have c8_5_0 : w8.cell? ⟨w3.heap.size + 1, 0, none⟩ = some (.int .i64 (q0)) := by go_simp
  have c8_5_1 : w8.cell? ⟨w3.heap.size + 1, 1, none⟩ = some (.int .i64 (q1)) := by go_simp
  have c8_6_0 : w8.cell? ⟨w4.heap.size, 0, none⟩ = some (.int .i64 (sl)) := by go_simp
  have c8_6_1 : w8.cell? ⟨w4.heap.size, 1, none⟩ = some (.int .i64 (sh)) := by go_simp
  have c8_7_0 : w8.cell? ⟨w5.heap.size, 0, none⟩ = some (.int .i64 (x0)) := by go_simp
  have c8_7_1 : w8.cell? ⟨w5.heap.size, 1, none⟩ = some (.int .i64 (x1)) := by go_simp
  have c8_8_0 : w8.cell? ⟨w6.heap.size, 0, none⟩ = some (.int .i64 (y0)) := by go_simp
  have c8_8_1 : w8.cell? ⟨w6.heap.size, 1, none⟩ = some (.int .i64 (y1)) := by go_simp
  have c8_9_0 : w8.cell? ⟨w7.heap.size, 0, none⟩ = some (.int .i64 (z0)) := by go_simp
  have c8_9_1 : w8.cell? ⟨w7.heap.size, 1, none⟩ = some (.int .i64 (z1)) := by go_simp
  clear hc8 hf8 c7_0_0 c7_0_1 c7_1_0 c7_1_1 c7_2_0 c7_2_1 c7_3_0 c7_3_1 c7_4_0 c7_4_1 c7_5_0 c7_5_1 c7_6_0 c7_6_1 c7_7_0 c7_7_1 c7_8_0 c7_8_1
  go_wp2
  go_ret
  exact ⟨rfl, (by repeat (first | with_reducible exact Below.refl _ _ | with_reducible refine bdrew ?_ | ((with_reducible first | refine bset ?_ ?_ | refine ball ?_ ?_ | refine bth (by assumption) ?_ ?_); first | omega | (simp <;> omega))))⟩
theorem walk (t : Int) (i0 : I64 t) (w : World) :
    Calls Tryd.prog 8 #[.int .i64 t] w fun e w' => e = .returned (.bool true) ∧ Below w.heap.size w w' := by
  by_cases h : -4294967296 ≤ t ∧ t ≤ 4294967296
  · exact walk_in t i0 w h
  · exact walk_out t i0 w (by omega)
end lawSpanCircle
end Go.Proofs.YtbfbnmmgmkbieabDoor
