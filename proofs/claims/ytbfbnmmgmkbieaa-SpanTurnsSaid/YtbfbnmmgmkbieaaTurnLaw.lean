/- Directions: the document's Turn, and the law. -/
import Derived.Test.YtbfbnmmgmkbieaaTurn3
import Derived.Test.YtbfbnmmgmkbieaaRTurn
import Derived.Test.YtbfbnmmgmkbieaaMid2
import Derived.Test.YtbfbnmmgmkbieaaRows
import Derived.ProofKit
import Derived.Lib.SmallJoins
set_option linter.unusedVariables false
set_option linter.unusedSimpArgs false
namespace Go.Proofs.Ytbfbnmmgmkbieaa
open Go.RowKit
theorem tu_le {t : Int} (ht : Unit1 t) : tuL 4294967296 t ≤ tuH 4294967296 t ∧ tuL t t ≤ tuH t t := ⟨(tu_bd ⟨by omega, by omega⟩ ht).2.1, (tu_bd ht ht).2.1⟩
set_option maxHeartbeats 4000000 in
set_option maxRecDepth 100000 in
theorem rturn_any (al ah : Int) (i0 : I64 al) (i1 : I64 ah) (w : World) :
    Calls Try.prog 68 #[.agg #[.int .i64 (al), .int .i64 (ah)]] w fun e w' => e = .returned (.tuple #[.agg #[.int .i64 (okI (tnB al ah) (tcL al ah)), .int .i64 (okI (tnB al ah) (tcH al ah))], .agg #[.int .i64 (okI (tnB al ah) (tuL al al)), .int .i64 (okI (tnB al ah) (tuH ah ah))], .int .i64 (tnE al ah)]) ∧ Below w.heap.size w w' := by
  have AB := rabs_any al ah i0 i1
  cases hv : vB al ah
  · have e1 : tnB al ah = false := by simp [tnB, hv]
    have e2 : tnE al ah = 2 := by simp [tnE, hv]
    have HV := hide (show chkI al ah = 2 by simp [chkI, hv])
    rw [e1, e2, ok_f, ok_f, ok_f, ok_f]
    clear AB hv e1 e2 i0 i1
    go_enter Try.func68, Try.ntmps68
    go_wp2_with fail
    refine (rcheck al ah 2 HV.out _).mono ?_
    rintro e w1 ⟨rfl, hb1⟩
    obtain ⟨hc1, hf1⟩ := bcell hb1
    have hz1 := hb1.size
    try simp only [World.size_alloc, World.size_setCell] at hz1
    try have : w.heap.size < w1.heap.size := by omega
    try have : w.heap.size ≤ w1.heap.size := by omega
    try have : w.heap.size + 1 < w1.heap.size := by omega
    try have : w.heap.size + 1 ≤ w1.heap.size := by omega
    try have : w.heap.size + 1 + 1 < w1.heap.size := by omega
    try have : w.heap.size + 1 + 1 ≤ w1.heap.size := by omega
    have c1_0_0 : w1.cell? ⟨w.heap.size, 0, none⟩ = some (.int .i64 (al)) := by go_simp
    have c1_0_1 : w1.cell? ⟨w.heap.size, 1, none⟩ = some (.int .i64 (ah)) := by go_simp
    have c1_1_0 : w1.cell? ⟨w.heap.size + 1, 0, none⟩ = some (.int .i64 (0)) := by go_simp
    have g1_1_0 : w1.frozen? ⟨w.heap.size + 1, 0, none⟩ = false := by go_simp
    have c1_1_1 : w1.cell? ⟨w.heap.size + 1, 1, none⟩ = some (.int .i64 (0)) := by go_simp
    have g1_1_1 : w1.frozen? ⟨w.heap.size + 1, 1, none⟩ = false := by go_simp
    have c1_2_0 : w1.cell? ⟨w.heap.size + 1 + 1, 0, none⟩ = some (.int .i64 (0)) := by go_simp
    have g1_2_0 : w1.frozen? ⟨w.heap.size + 1 + 1, 0, none⟩ = false := by go_simp
    have c1_2_1 : w1.cell? ⟨w.heap.size + 1 + 1, 1, none⟩ = some (.int .i64 (0)) := by go_simp
    have g1_2_1 : w1.frozen? ⟨w.heap.size + 1 + 1, 1, none⟩ = false := by go_simp
    clear hc1 hf1
    go_wp2
    refine bodyPost_ret (v := .tuple #[.agg #[.int .i64 (0), .int .i64 (0)], .agg #[.int .i64 (0), .int .i64 (0)], .int .i64 2]) (by simp only [results, Try.results68]; go_simp) rfl ⟨rfl, (by repeat (first | with_reducible exact Below.refl _ _ | with_reducible refine bdrew ?_ | ((with_reducible first | refine bset ?_ ?_ | refine ball ?_ ?_ | refine bth (by assumption) ?_ ?_); first | omega | (simp <;> omega))))⟩
  · obtain ⟨v1, v2⟩ := vB_tt hv
    obtain ⟨f1, f2, f3⟩ := abs_facts i0 i1 hv
    have HV := hide (show chkI al ah = 0 by simp [chkI, hv])
    rw [hv] at AB
    simp only [ok_t, err_t] at AB
    have AB' := hide AB
    clear AB
    by_cases c0 : al < -4294967296
    · have e1 : tnB al ah = false := by unfold tnB; rw [hv, decide_eq_false (by omega)]; rfl
      have e2 : tnE al ah = 4 := by unfold tnE; rw [hv, if_pos rfl, if_neg (by omega)]
      rw [e1, e2, ok_f, ok_f, ok_f, ok_f]
      clear AB' hv e1 e2 i0 i1 f1 f2 f3 v1 v2
      go_enter Try.func68, Try.ntmps68
      go_wp2_with fail
      refine (rcheck al ah 0 HV.out _).mono ?_
      rintro e w1 ⟨rfl, hb1⟩
      obtain ⟨hc1, hf1⟩ := bcell hb1
      have hz1 := hb1.size
      try simp only [World.size_alloc, World.size_setCell] at hz1
      try have : w.heap.size < w1.heap.size := by omega
      try have : w.heap.size ≤ w1.heap.size := by omega
      try have : w.heap.size + 1 < w1.heap.size := by omega
      try have : w.heap.size + 1 ≤ w1.heap.size := by omega
      try have : w.heap.size + 1 + 1 < w1.heap.size := by omega
      try have : w.heap.size + 1 + 1 ≤ w1.heap.size := by omega
      have c1_0_0 : w1.cell? ⟨w.heap.size, 0, none⟩ = some (.int .i64 (al)) := by go_simp
      have c1_0_1 : w1.cell? ⟨w.heap.size, 1, none⟩ = some (.int .i64 (ah)) := by go_simp
      have c1_1_0 : w1.cell? ⟨w.heap.size + 1, 0, none⟩ = some (.int .i64 (0)) := by go_simp
      have g1_1_0 : w1.frozen? ⟨w.heap.size + 1, 0, none⟩ = false := by go_simp
      have c1_1_1 : w1.cell? ⟨w.heap.size + 1, 1, none⟩ = some (.int .i64 (0)) := by go_simp
      have g1_1_1 : w1.frozen? ⟨w.heap.size + 1, 1, none⟩ = false := by go_simp
      have c1_2_0 : w1.cell? ⟨w.heap.size + 1 + 1, 0, none⟩ = some (.int .i64 (0)) := by go_simp
      have g1_2_0 : w1.frozen? ⟨w.heap.size + 1 + 1, 0, none⟩ = false := by go_simp
      have c1_2_1 : w1.cell? ⟨w.heap.size + 1 + 1, 1, none⟩ = some (.int .i64 (0)) := by go_simp
      have g1_2_1 : w1.frozen? ⟨w.heap.size + 1 + 1, 1, none⟩ = false := by go_simp
      clear hc1 hf1
      go_wp2
      refine bodyPost_ret (v := .tuple #[.agg #[.int .i64 (0), .int .i64 (0)], .agg #[.int .i64 (0), .int .i64 (0)], .int .i64 4]) (by simp only [results, Try.results68]; go_simp) rfl ⟨rfl, (by repeat (first | with_reducible exact Below.refl _ _ | with_reducible refine bdrew ?_ | ((with_reducible first | refine bset ?_ ?_ | refine ball ?_ ?_ | refine bth (by assumption) ?_ ?_); first | omega | (simp <;> omega))))⟩
    · by_cases c1 : 4294967296 < ah
      · have e1 : tnB al ah = false := by unfold tnB; rw [hv, decide_eq_false (by omega)]; rfl
        have e2 : tnE al ah = 4 := by unfold tnE; rw [hv, if_pos rfl, if_neg (by omega)]
        rw [e1, e2, ok_f, ok_f, ok_f, ok_f]
        clear AB' hv e1 e2 i0 i1 f1 f2 f3 v1 v2
        go_enter Try.func68, Try.ntmps68
        go_wp2_with fail
        refine (rcheck al ah 0 HV.out _).mono ?_
        rintro e w1 ⟨rfl, hb1⟩
        obtain ⟨hc1, hf1⟩ := bcell hb1
        have hz1 := hb1.size
        try simp only [World.size_alloc, World.size_setCell] at hz1
        try have : w.heap.size < w1.heap.size := by omega
        try have : w.heap.size ≤ w1.heap.size := by omega
        try have : w.heap.size + 1 < w1.heap.size := by omega
        try have : w.heap.size + 1 ≤ w1.heap.size := by omega
        try have : w.heap.size + 1 + 1 < w1.heap.size := by omega
        try have : w.heap.size + 1 + 1 ≤ w1.heap.size := by omega
        have c1_0_0 : w1.cell? ⟨w.heap.size, 0, none⟩ = some (.int .i64 (al)) := by go_simp
        have c1_0_1 : w1.cell? ⟨w.heap.size, 1, none⟩ = some (.int .i64 (ah)) := by go_simp
        have c1_1_0 : w1.cell? ⟨w.heap.size + 1, 0, none⟩ = some (.int .i64 (0)) := by go_simp
        have g1_1_0 : w1.frozen? ⟨w.heap.size + 1, 0, none⟩ = false := by go_simp
        have c1_1_1 : w1.cell? ⟨w.heap.size + 1, 1, none⟩ = some (.int .i64 (0)) := by go_simp
        have g1_1_1 : w1.frozen? ⟨w.heap.size + 1, 1, none⟩ = false := by go_simp
        have c1_2_0 : w1.cell? ⟨w.heap.size + 1 + 1, 0, none⟩ = some (.int .i64 (0)) := by go_simp
        have g1_2_0 : w1.frozen? ⟨w.heap.size + 1 + 1, 0, none⟩ = false := by go_simp
        have c1_2_1 : w1.cell? ⟨w.heap.size + 1 + 1, 1, none⟩ = some (.int .i64 (0)) := by go_simp
        have g1_2_1 : w1.frozen? ⟨w.heap.size + 1 + 1, 1, none⟩ = false := by go_simp
        clear hc1 hf1
        go_wp2
        refine bodyPost_ret (v := .tuple #[.agg #[.int .i64 (0), .int .i64 (0)], .agg #[.int .i64 (0), .int .i64 (0)], .int .i64 4]) (by simp only [results, Try.results68]; go_simp) rfl ⟨rfl, (by repeat (first | with_reducible exact Below.refl _ _ | with_reducible refine bdrew ?_ | ((with_reducible first | refine bset ?_ ?_ | refine ball ?_ ?_ | refine bth (by assumption) ?_ ?_); first | omega | (simp <;> omega))))⟩
      · have c : -4294967296 ≤ al ∧ ah ≤ 4294967296 := by omega
        have e1 : tnB al ah = true := by unfold tnB; rw [hv, decide_eq_true c]; rfl
        have e2 : tnE al ah = 0 := by unfold tnE; rw [hv, if_pos rfl, if_pos c]
        have hH : absH al ah ≤ 4294967296 := by unfold absH mx; split <;> (try split) <;> (try split) <;> omega
        rw [e1, e2, ok_t, ok_t, ok_t, ok_t]
        unfold tcL tcH
        have ua : Unit1 al := ⟨by omega, by omega⟩
        have ub : Unit1 ah := ⟨by omega, by omega⟩
        have ul : Unit1 (absL al ah) := ⟨by omega, by omega⟩
        have uh : Unit1 (absH al ah) := ⟨by omega, by omega⟩
        have T1 := hide (rturned_any (absL al ah) ul)
        have T2 := hide (rturned_any (absH al ah) uh)
        have T3 := hide (rturned_any al ua)
        have T4 := hide (rturned_any ah ub)
        have RC := rout (tuL 4294967296 (absH al ah) - 4294967296) (tuH 4294967296 (absL al ah) - 4294967296)
        have RS := rout (tuL al al) (tuH ah ah)
        have b1 := tu_bd (x := 4294967296) ⟨by omega, by omega⟩ ul
        have b2 := tu_bd (x := 4294967296) ⟨by omega, by omega⟩ uh
        have b3 := tu_bd ua ua
        have b4 := tu_bd ub ub
        have ft := out_t (lo := tuL 4294967296 (absH al ah) - 4294967296) (hi := tuH 4294967296 (absL al ah) - 4294967296) (decide_eq_true (by omega))
        have ft2 := out_t (lo := tuL al al) (hi := tuH ah ah) (decide_eq_true (by omega))
        rw [ft.1, ft.2.1, ft.2.2] at RC
        rw [ft2.1, ft2.2.1, ft2.2.2] at RS
        have RC' := hide RC
        have RS' := hide RS
        clear RC RS b1 b2 b3 b4 ft ft2 ua ub ul uh e1 e2 c v1 v2 hv i0 i1 f1 f2 f3 hH
        generalize tuL 4294967296 (absH al ah) - 4294967296 = r1 at *
        generalize tuH 4294967296 (absH al ah) - 4294967296 = r1' at *
        generalize tuL 4294967296 (absL al ah) - 4294967296 = r2' at *
        generalize tuH 4294967296 (absL al ah) - 4294967296 = r2 at *
        generalize tuL (absL al ah) (absL al ah) = j1 at *
        generalize tuH (absL al ah) (absL al ah) = j2 at *
        generalize tuL (absH al ah) (absH al ah) = j3 at *
        generalize tuH (absH al ah) (absH al ah) = j4 at *
        generalize tuL 4294967296 al - 4294967296 = k1 at *
        generalize tuH 4294967296 al - 4294967296 = k2 at *
        generalize tuL 4294967296 ah - 4294967296 = k3 at *
        generalize tuH 4294967296 ah - 4294967296 = k4 at *
        generalize tuL al al = r3 at *
        generalize tuH al al = r3' at *
        generalize tuL ah ah = r4' at *
        generalize tuH ah ah = r4 at *
        generalize absL al ah = sl at *
        generalize absH al ah = sh at *
        go_enter Try.func68, Try.ntmps68
        go_wp2_with fail
        refine (rcheck al ah 0 HV.out _).mono ?_
        rintro e w1 ⟨rfl, hb1⟩
        obtain ⟨hc1, hf1⟩ := bcell hb1
        have hz1 := hb1.size
        try simp only [World.size_alloc, World.size_setCell] at hz1
        try have : w.heap.size < w1.heap.size := by omega
        try have : w.heap.size ≤ w1.heap.size := by omega
        try have : w.heap.size + 1 < w1.heap.size := by omega
        try have : w.heap.size + 1 ≤ w1.heap.size := by omega
        try have : w.heap.size + 1 + 1 < w1.heap.size := by omega
        try have : w.heap.size + 1 + 1 ≤ w1.heap.size := by omega
        have c1_0_0 : w1.cell? ⟨w.heap.size, 0, none⟩ = some (.int .i64 (al)) := by go_simp
        have c1_0_1 : w1.cell? ⟨w.heap.size, 1, none⟩ = some (.int .i64 (ah)) := by go_simp
        have c1_1_0 : w1.cell? ⟨w.heap.size + 1, 0, none⟩ = some (.int .i64 (0)) := by go_simp
        have g1_1_0 : w1.frozen? ⟨w.heap.size + 1, 0, none⟩ = false := by go_simp
        have c1_1_1 : w1.cell? ⟨w.heap.size + 1, 1, none⟩ = some (.int .i64 (0)) := by go_simp
        have g1_1_1 : w1.frozen? ⟨w.heap.size + 1, 1, none⟩ = false := by go_simp
        have c1_2_0 : w1.cell? ⟨w.heap.size + 1 + 1, 0, none⟩ = some (.int .i64 (0)) := by go_simp
        have g1_2_0 : w1.frozen? ⟨w.heap.size + 1 + 1, 0, none⟩ = false := by go_simp
        have c1_2_1 : w1.cell? ⟨w.heap.size + 1 + 1, 1, none⟩ = some (.int .i64 (0)) := by go_simp
        have g1_2_1 : w1.frozen? ⟨w.heap.size + 1 + 1, 1, none⟩ = false := by go_simp
        clear hc1 hf1
        go_wp2_with fail
        refine (AB'.out _).mono ?_
        rintro e w2 ⟨rfl, hb2⟩
        obtain ⟨hc2, hf2⟩ := bcell hb2
        have hz2 := hb2.size
        try simp only [World.size_alloc, World.size_setCell] at hz2
        try have : w.heap.size < w2.heap.size := by omega
        try have : w.heap.size < w2.heap.size + 1 := by omega
        try have : w.heap.size ≤ w2.heap.size := by omega
        try have : w.heap.size + 1 < w2.heap.size := by omega
        try have : w.heap.size + 1 < w2.heap.size + 1 := by omega
        try have : w.heap.size + 1 ≤ w2.heap.size := by omega
        try have : w.heap.size + 1 + 1 < w2.heap.size := by omega
        try have : w.heap.size + 1 + 1 < w2.heap.size + 1 := by omega
        try have : w.heap.size + 1 + 1 ≤ w2.heap.size := by omega
        have c2_0_0 : w2.cell? ⟨w.heap.size, 0, none⟩ = some (.int .i64 (al)) := by go_simp
        have c2_0_1 : w2.cell? ⟨w.heap.size, 1, none⟩ = some (.int .i64 (ah)) := by go_simp
        have c2_1_0 : w2.cell? ⟨w.heap.size + 1, 0, none⟩ = some (.int .i64 (0)) := by go_simp
        have g2_1_0 : w2.frozen? ⟨w.heap.size + 1, 0, none⟩ = false := by go_simp
        have c2_1_1 : w2.cell? ⟨w.heap.size + 1, 1, none⟩ = some (.int .i64 (0)) := by go_simp
        have g2_1_1 : w2.frozen? ⟨w.heap.size + 1, 1, none⟩ = false := by go_simp
        have c2_2_0 : w2.cell? ⟨w.heap.size + 1 + 1, 0, none⟩ = some (.int .i64 (0)) := by go_simp
        have g2_2_0 : w2.frozen? ⟨w.heap.size + 1 + 1, 0, none⟩ = false := by go_simp
        have c2_2_1 : w2.cell? ⟨w.heap.size + 1 + 1, 1, none⟩ = some (.int .i64 (0)) := by go_simp
        have g2_2_1 : w2.frozen? ⟨w.heap.size + 1 + 1, 1, none⟩ = false := by go_simp
        clear hc2 hf2 c1_0_0 c1_0_1 c1_1_0 g1_1_0 c1_1_1 g1_1_1 c1_2_0 g1_2_0 c1_2_1 g1_2_1
        go_wp2_with fail
        refine (T1.out _).mono ?_
        rintro e w3 ⟨rfl, hb3⟩
        obtain ⟨hc3, hf3⟩ := bcell hb3
        have hz3 := hb3.size
        try simp only [World.size_alloc, World.size_setCell] at hz3
        try have : w.heap.size < w3.heap.size := by omega
        try have : w.heap.size < w3.heap.size + 1 := by omega
        try have : w.heap.size < w3.heap.size + 1 + 1 := by omega
        try have : w.heap.size < w3.heap.size + 1 + 1 + 1 := by omega
        try have : w.heap.size < w3.heap.size + 1 + 1 + 1 + 1 := by omega
        try have : w.heap.size ≤ w3.heap.size := by omega
        try have : w.heap.size + 1 < w3.heap.size := by omega
        try have : w.heap.size + 1 < w3.heap.size + 1 := by omega
        try have : w.heap.size + 1 < w3.heap.size + 1 + 1 := by omega
        try have : w.heap.size + 1 < w3.heap.size + 1 + 1 + 1 := by omega
        try have : w.heap.size + 1 < w3.heap.size + 1 + 1 + 1 + 1 := by omega
        try have : w.heap.size + 1 ≤ w3.heap.size := by omega
        try have : w.heap.size + 1 + 1 < w3.heap.size := by omega
        try have : w.heap.size + 1 + 1 < w3.heap.size + 1 := by omega
        try have : w.heap.size + 1 + 1 < w3.heap.size + 1 + 1 := by omega
        try have : w.heap.size + 1 + 1 < w3.heap.size + 1 + 1 + 1 := by omega
        try have : w.heap.size + 1 + 1 < w3.heap.size + 1 + 1 + 1 + 1 := by omega
        try have : w.heap.size + 1 + 1 ≤ w3.heap.size := by omega
        try have : w2.heap.size < w3.heap.size := by omega
        try have : w2.heap.size < w3.heap.size + 1 := by omega
        try have : w2.heap.size < w3.heap.size + 1 + 1 := by omega
        try have : w2.heap.size < w3.heap.size + 1 + 1 + 1 := by omega
        try have : w2.heap.size < w3.heap.size + 1 + 1 + 1 + 1 := by omega
        try have : w2.heap.size ≤ w3.heap.size := by omega
        have c3_0_0 : w3.cell? ⟨w.heap.size, 0, none⟩ = some (.int .i64 (al)) := by go_simp
        have c3_0_1 : w3.cell? ⟨w.heap.size, 1, none⟩ = some (.int .i64 (ah)) := by go_simp
        have c3_1_0 : w3.cell? ⟨w.heap.size + 1, 0, none⟩ = some (.int .i64 (0)) := by go_simp
        have g3_1_0 : w3.frozen? ⟨w.heap.size + 1, 0, none⟩ = false := by go_simp
        have c3_1_1 : w3.cell? ⟨w.heap.size + 1, 1, none⟩ = some (.int .i64 (0)) := by go_simp
        have g3_1_1 : w3.frozen? ⟨w.heap.size + 1, 1, none⟩ = false := by go_simp
        have c3_2_0 : w3.cell? ⟨w.heap.size + 1 + 1, 0, none⟩ = some (.int .i64 (0)) := by go_simp
        have g3_2_0 : w3.frozen? ⟨w.heap.size + 1 + 1, 0, none⟩ = false := by go_simp
        have c3_2_1 : w3.cell? ⟨w.heap.size + 1 + 1, 1, none⟩ = some (.int .i64 (0)) := by go_simp
        have g3_2_1 : w3.frozen? ⟨w.heap.size + 1 + 1, 1, none⟩ = false := by go_simp
        have c3_3_0 : w3.cell? ⟨w2.heap.size, 0, none⟩ = some (.int .i64 (sl)) := by go_simp
        have c3_3_1 : w3.cell? ⟨w2.heap.size, 1, none⟩ = some (.int .i64 (sh)) := by go_simp
        clear hc3 hf3 c2_0_0 c2_0_1 c2_1_0 g2_1_0 c2_1_1 g2_1_1 c2_2_0 g2_2_0 c2_2_1 g2_2_1
        go_wp2_with fail
        refine (T2.out _).mono ?_
        rintro e w4 ⟨rfl, hb4⟩
        obtain ⟨hc4, hf4⟩ := bcell hb4
        have hz4 := hb4.size
        try simp only [World.size_alloc, World.size_setCell] at hz4
        try have : w.heap.size < w4.heap.size := by omega
        try have : w.heap.size < w4.heap.size + 1 := by omega
        try have : w.heap.size < w4.heap.size + 1 + 1 := by omega
        try have : w.heap.size < w4.heap.size + 1 + 1 + 1 := by omega
        try have : w.heap.size < w4.heap.size + 1 + 1 + 1 + 1 := by omega
        try have : w.heap.size ≤ w4.heap.size := by omega
        try have : w.heap.size + 1 < w4.heap.size := by omega
        try have : w.heap.size + 1 < w4.heap.size + 1 := by omega
        try have : w.heap.size + 1 < w4.heap.size + 1 + 1 := by omega
        try have : w.heap.size + 1 < w4.heap.size + 1 + 1 + 1 := by omega
        try have : w.heap.size + 1 < w4.heap.size + 1 + 1 + 1 + 1 := by omega
        try have : w.heap.size + 1 ≤ w4.heap.size := by omega
        try have : w.heap.size + 1 + 1 < w4.heap.size := by omega
        try have : w.heap.size + 1 + 1 < w4.heap.size + 1 := by omega
        try have : w.heap.size + 1 + 1 < w4.heap.size + 1 + 1 := by omega
        try have : w.heap.size + 1 + 1 < w4.heap.size + 1 + 1 + 1 := by omega
        try have : w.heap.size + 1 + 1 < w4.heap.size + 1 + 1 + 1 + 1 := by omega
        try have : w.heap.size + 1 + 1 ≤ w4.heap.size := by omega
        try have : w2.heap.size < w4.heap.size := by omega
        try have : w2.heap.size < w4.heap.size + 1 := by omega
        try have : w2.heap.size < w4.heap.size + 1 + 1 := by omega
        try have : w2.heap.size < w4.heap.size + 1 + 1 + 1 := by omega
        try have : w2.heap.size < w4.heap.size + 1 + 1 + 1 + 1 := by omega
        try have : w2.heap.size ≤ w4.heap.size := by omega
        try have : w3.heap.size < w4.heap.size := by omega
        try have : w3.heap.size < w4.heap.size + 1 := by omega
        try have : w3.heap.size < w4.heap.size + 1 + 1 := by omega
        try have : w3.heap.size < w4.heap.size + 1 + 1 + 1 := by omega
        try have : w3.heap.size < w4.heap.size + 1 + 1 + 1 + 1 := by omega
        try have : w3.heap.size ≤ w4.heap.size := by omega
        try have : w3.heap.size + 1 < w4.heap.size := by omega
        try have : w3.heap.size + 1 < w4.heap.size + 1 := by omega
        try have : w3.heap.size + 1 < w4.heap.size + 1 + 1 := by omega
        try have : w3.heap.size + 1 < w4.heap.size + 1 + 1 + 1 := by omega
        try have : w3.heap.size + 1 < w4.heap.size + 1 + 1 + 1 + 1 := by omega
        try have : w3.heap.size + 1 ≤ w4.heap.size := by omega
        try have : w3.heap.size + 1 + 1 < w4.heap.size := by omega
        try have : w3.heap.size + 1 + 1 < w4.heap.size + 1 := by omega
        try have : w3.heap.size + 1 + 1 < w4.heap.size + 1 + 1 := by omega
        try have : w3.heap.size + 1 + 1 < w4.heap.size + 1 + 1 + 1 := by omega
        try have : w3.heap.size + 1 + 1 < w4.heap.size + 1 + 1 + 1 + 1 := by omega
        try have : w3.heap.size + 1 + 1 ≤ w4.heap.size := by omega
        try have : w3.heap.size + 1 + 1 + 1 < w4.heap.size := by omega
        try have : w3.heap.size + 1 + 1 + 1 < w4.heap.size + 1 := by omega
        try have : w3.heap.size + 1 + 1 + 1 < w4.heap.size + 1 + 1 := by omega
        try have : w3.heap.size + 1 + 1 + 1 < w4.heap.size + 1 + 1 + 1 := by omega
        try have : w3.heap.size + 1 + 1 + 1 < w4.heap.size + 1 + 1 + 1 + 1 := by omega
        try have : w3.heap.size + 1 + 1 + 1 ≤ w4.heap.size := by omega
        have c4_0_0 : w4.cell? ⟨w.heap.size, 0, none⟩ = some (.int .i64 (al)) := by go_simp
        have c4_0_1 : w4.cell? ⟨w.heap.size, 1, none⟩ = some (.int .i64 (ah)) := by go_simp
        have c4_1_0 : w4.cell? ⟨w.heap.size + 1, 0, none⟩ = some (.int .i64 (0)) := by go_simp
        have g4_1_0 : w4.frozen? ⟨w.heap.size + 1, 0, none⟩ = false := by go_simp
        have c4_1_1 : w4.cell? ⟨w.heap.size + 1, 1, none⟩ = some (.int .i64 (0)) := by go_simp
        have g4_1_1 : w4.frozen? ⟨w.heap.size + 1, 1, none⟩ = false := by go_simp
        have c4_2_0 : w4.cell? ⟨w.heap.size + 1 + 1, 0, none⟩ = some (.int .i64 (0)) := by go_simp
        have g4_2_0 : w4.frozen? ⟨w.heap.size + 1 + 1, 0, none⟩ = false := by go_simp
        have c4_2_1 : w4.cell? ⟨w.heap.size + 1 + 1, 1, none⟩ = some (.int .i64 (0)) := by go_simp
        have g4_2_1 : w4.frozen? ⟨w.heap.size + 1 + 1, 1, none⟩ = false := by go_simp
        have c4_3_0 : w4.cell? ⟨w2.heap.size, 0, none⟩ = some (.int .i64 (sl)) := by go_simp
        have c4_3_1 : w4.cell? ⟨w2.heap.size, 1, none⟩ = some (.int .i64 (sh)) := by go_simp
        have c4_4_0 : w4.cell? ⟨w3.heap.size + 1, 0, none⟩ = some (.int .i64 (wH (r2))) := by go_simp
        have c4_4_1 : w4.cell? ⟨w3.heap.size + 1, 1, none⟩ = some (.int .u64 (wL (r2))) := by go_simp
        clear hc4 hf4 c3_0_0 c3_0_1 c3_1_0 g3_1_0 c3_1_1 g3_1_1 c3_2_0 g3_2_0 c3_2_1 g3_2_1 c3_3_0 c3_3_1
        go_wp2_with fail
        refine (T3.out _).mono ?_
        rintro e w5 ⟨rfl, hb5⟩
        obtain ⟨hc5, hf5⟩ := bcell hb5
        have hz5 := hb5.size
        try simp only [World.size_alloc, World.size_setCell] at hz5
        try have : w.heap.size < w5.heap.size := by omega
        try have : w.heap.size < w5.heap.size + 1 := by omega
        try have : w.heap.size < w5.heap.size + 1 + 1 := by omega
        try have : w.heap.size < w5.heap.size + 1 + 1 + 1 := by omega
        try have : w.heap.size < w5.heap.size + 1 + 1 + 1 + 1 := by omega
        try have : w.heap.size ≤ w5.heap.size := by omega
        try have : w.heap.size + 1 < w5.heap.size := by omega
        try have : w.heap.size + 1 < w5.heap.size + 1 := by omega
        try have : w.heap.size + 1 < w5.heap.size + 1 + 1 := by omega
        try have : w.heap.size + 1 < w5.heap.size + 1 + 1 + 1 := by omega
        try have : w.heap.size + 1 < w5.heap.size + 1 + 1 + 1 + 1 := by omega
        try have : w.heap.size + 1 ≤ w5.heap.size := by omega
        try have : w.heap.size + 1 + 1 < w5.heap.size := by omega
        try have : w.heap.size + 1 + 1 < w5.heap.size + 1 := by omega
        try have : w.heap.size + 1 + 1 < w5.heap.size + 1 + 1 := by omega
        try have : w.heap.size + 1 + 1 < w5.heap.size + 1 + 1 + 1 := by omega
        try have : w.heap.size + 1 + 1 < w5.heap.size + 1 + 1 + 1 + 1 := by omega
        try have : w.heap.size + 1 + 1 ≤ w5.heap.size := by omega
        try have : w2.heap.size < w5.heap.size := by omega
        try have : w2.heap.size < w5.heap.size + 1 := by omega
        try have : w2.heap.size < w5.heap.size + 1 + 1 := by omega
        try have : w2.heap.size < w5.heap.size + 1 + 1 + 1 := by omega
        try have : w2.heap.size < w5.heap.size + 1 + 1 + 1 + 1 := by omega
        try have : w2.heap.size ≤ w5.heap.size := by omega
        try have : w3.heap.size < w5.heap.size := by omega
        try have : w3.heap.size < w5.heap.size + 1 := by omega
        try have : w3.heap.size < w5.heap.size + 1 + 1 := by omega
        try have : w3.heap.size < w5.heap.size + 1 + 1 + 1 := by omega
        try have : w3.heap.size < w5.heap.size + 1 + 1 + 1 + 1 := by omega
        try have : w3.heap.size ≤ w5.heap.size := by omega
        try have : w3.heap.size + 1 < w5.heap.size := by omega
        try have : w3.heap.size + 1 < w5.heap.size + 1 := by omega
        try have : w3.heap.size + 1 < w5.heap.size + 1 + 1 := by omega
        try have : w3.heap.size + 1 < w5.heap.size + 1 + 1 + 1 := by omega
        try have : w3.heap.size + 1 < w5.heap.size + 1 + 1 + 1 + 1 := by omega
        try have : w3.heap.size + 1 ≤ w5.heap.size := by omega
        try have : w3.heap.size + 1 + 1 < w5.heap.size := by omega
        try have : w3.heap.size + 1 + 1 < w5.heap.size + 1 := by omega
        try have : w3.heap.size + 1 + 1 < w5.heap.size + 1 + 1 := by omega
        try have : w3.heap.size + 1 + 1 < w5.heap.size + 1 + 1 + 1 := by omega
        try have : w3.heap.size + 1 + 1 < w5.heap.size + 1 + 1 + 1 + 1 := by omega
        try have : w3.heap.size + 1 + 1 ≤ w5.heap.size := by omega
        try have : w3.heap.size + 1 + 1 + 1 < w5.heap.size := by omega
        try have : w3.heap.size + 1 + 1 + 1 < w5.heap.size + 1 := by omega
        try have : w3.heap.size + 1 + 1 + 1 < w5.heap.size + 1 + 1 := by omega
        try have : w3.heap.size + 1 + 1 + 1 < w5.heap.size + 1 + 1 + 1 := by omega
        try have : w3.heap.size + 1 + 1 + 1 < w5.heap.size + 1 + 1 + 1 + 1 := by omega
        try have : w3.heap.size + 1 + 1 + 1 ≤ w5.heap.size := by omega
        try have : w4.heap.size < w5.heap.size := by omega
        try have : w4.heap.size < w5.heap.size + 1 := by omega
        try have : w4.heap.size < w5.heap.size + 1 + 1 := by omega
        try have : w4.heap.size < w5.heap.size + 1 + 1 + 1 := by omega
        try have : w4.heap.size < w5.heap.size + 1 + 1 + 1 + 1 := by omega
        try have : w4.heap.size ≤ w5.heap.size := by omega
        try have : w4.heap.size + 1 < w5.heap.size := by omega
        try have : w4.heap.size + 1 < w5.heap.size + 1 := by omega
        try have : w4.heap.size + 1 < w5.heap.size + 1 + 1 := by omega
        try have : w4.heap.size + 1 < w5.heap.size + 1 + 1 + 1 := by omega
        try have : w4.heap.size + 1 < w5.heap.size + 1 + 1 + 1 + 1 := by omega
        try have : w4.heap.size + 1 ≤ w5.heap.size := by omega
        try have : w4.heap.size + 1 + 1 < w5.heap.size := by omega
        try have : w4.heap.size + 1 + 1 < w5.heap.size + 1 := by omega
        try have : w4.heap.size + 1 + 1 < w5.heap.size + 1 + 1 := by omega
        try have : w4.heap.size + 1 + 1 < w5.heap.size + 1 + 1 + 1 := by omega
        try have : w4.heap.size + 1 + 1 < w5.heap.size + 1 + 1 + 1 + 1 := by omega
        try have : w4.heap.size + 1 + 1 ≤ w5.heap.size := by omega
        try have : w4.heap.size + 1 + 1 + 1 < w5.heap.size := by omega
        try have : w4.heap.size + 1 + 1 + 1 < w5.heap.size + 1 := by omega
        try have : w4.heap.size + 1 + 1 + 1 < w5.heap.size + 1 + 1 := by omega
        try have : w4.heap.size + 1 + 1 + 1 < w5.heap.size + 1 + 1 + 1 := by omega
        try have : w4.heap.size + 1 + 1 + 1 < w5.heap.size + 1 + 1 + 1 + 1 := by omega
        try have : w4.heap.size + 1 + 1 + 1 ≤ w5.heap.size := by omega
        have c5_0_0 : w5.cell? ⟨w.heap.size, 0, none⟩ = some (.int .i64 (al)) := by go_simp
        have c5_0_1 : w5.cell? ⟨w.heap.size, 1, none⟩ = some (.int .i64 (ah)) := by go_simp
        have c5_1_0 : w5.cell? ⟨w.heap.size + 1, 0, none⟩ = some (.int .i64 (0)) := by go_simp
        have g5_1_0 : w5.frozen? ⟨w.heap.size + 1, 0, none⟩ = false := by go_simp
        have c5_1_1 : w5.cell? ⟨w.heap.size + 1, 1, none⟩ = some (.int .i64 (0)) := by go_simp
        have g5_1_1 : w5.frozen? ⟨w.heap.size + 1, 1, none⟩ = false := by go_simp
        have c5_2_0 : w5.cell? ⟨w.heap.size + 1 + 1, 0, none⟩ = some (.int .i64 (0)) := by go_simp
        have g5_2_0 : w5.frozen? ⟨w.heap.size + 1 + 1, 0, none⟩ = false := by go_simp
        have c5_2_1 : w5.cell? ⟨w.heap.size + 1 + 1, 1, none⟩ = some (.int .i64 (0)) := by go_simp
        have g5_2_1 : w5.frozen? ⟨w.heap.size + 1 + 1, 1, none⟩ = false := by go_simp
        have c5_3_0 : w5.cell? ⟨w2.heap.size, 0, none⟩ = some (.int .i64 (sl)) := by go_simp
        have c5_3_1 : w5.cell? ⟨w2.heap.size, 1, none⟩ = some (.int .i64 (sh)) := by go_simp
        have c5_4_0 : w5.cell? ⟨w3.heap.size + 1, 0, none⟩ = some (.int .i64 (wH (r2))) := by go_simp
        have c5_4_1 : w5.cell? ⟨w3.heap.size + 1, 1, none⟩ = some (.int .u64 (wL (r2))) := by go_simp
        have c5_5_0 : w5.cell? ⟨w4.heap.size, 0, none⟩ = some (.int .i64 (wH (r1))) := by go_simp
        have c5_5_1 : w5.cell? ⟨w4.heap.size, 1, none⟩ = some (.int .u64 (wL (r1))) := by go_simp
        clear hc5 hf5 c4_0_0 c4_0_1 c4_1_0 g4_1_0 c4_1_1 g4_1_1 c4_2_0 g4_2_0 c4_2_1 g4_2_1 c4_3_0 c4_3_1 c4_4_0 c4_4_1
        go_wp2_with fail
        refine (T4.out _).mono ?_
        rintro e w6 ⟨rfl, hb6⟩
        obtain ⟨hc6, hf6⟩ := bcell hb6
        have hz6 := hb6.size
        try simp only [World.size_alloc, World.size_setCell] at hz6
        try have : w.heap.size < w6.heap.size := by omega
        try have : w.heap.size < w6.heap.size + 1 := by omega
        try have : w.heap.size < w6.heap.size + 1 + 1 := by omega
        try have : w.heap.size < w6.heap.size + 1 + 1 + 1 := by omega
        try have : w.heap.size < w6.heap.size + 1 + 1 + 1 + 1 := by omega
        try have : w.heap.size ≤ w6.heap.size := by omega
        try have : w.heap.size + 1 < w6.heap.size := by omega
        try have : w.heap.size + 1 < w6.heap.size + 1 := by omega
        try have : w.heap.size + 1 < w6.heap.size + 1 + 1 := by omega
        try have : w.heap.size + 1 < w6.heap.size + 1 + 1 + 1 := by omega
        try have : w.heap.size + 1 < w6.heap.size + 1 + 1 + 1 + 1 := by omega
        try have : w.heap.size + 1 ≤ w6.heap.size := by omega
        try have : w.heap.size + 1 + 1 < w6.heap.size := by omega
        try have : w.heap.size + 1 + 1 < w6.heap.size + 1 := by omega
        try have : w.heap.size + 1 + 1 < w6.heap.size + 1 + 1 := by omega
        try have : w.heap.size + 1 + 1 < w6.heap.size + 1 + 1 + 1 := by omega
        try have : w.heap.size + 1 + 1 < w6.heap.size + 1 + 1 + 1 + 1 := by omega
        try have : w.heap.size + 1 + 1 ≤ w6.heap.size := by omega
        try have : w2.heap.size < w6.heap.size := by omega
        try have : w2.heap.size < w6.heap.size + 1 := by omega
        try have : w2.heap.size < w6.heap.size + 1 + 1 := by omega
        try have : w2.heap.size < w6.heap.size + 1 + 1 + 1 := by omega
        try have : w2.heap.size < w6.heap.size + 1 + 1 + 1 + 1 := by omega
        try have : w2.heap.size ≤ w6.heap.size := by omega
        try have : w3.heap.size < w6.heap.size := by omega
        try have : w3.heap.size < w6.heap.size + 1 := by omega
        try have : w3.heap.size < w6.heap.size + 1 + 1 := by omega
        try have : w3.heap.size < w6.heap.size + 1 + 1 + 1 := by omega
        try have : w3.heap.size < w6.heap.size + 1 + 1 + 1 + 1 := by omega
        try have : w3.heap.size ≤ w6.heap.size := by omega
        try have : w3.heap.size + 1 < w6.heap.size := by omega
        try have : w3.heap.size + 1 < w6.heap.size + 1 := by omega
        try have : w3.heap.size + 1 < w6.heap.size + 1 + 1 := by omega
        try have : w3.heap.size + 1 < w6.heap.size + 1 + 1 + 1 := by omega
        try have : w3.heap.size + 1 < w6.heap.size + 1 + 1 + 1 + 1 := by omega
        try have : w3.heap.size + 1 ≤ w6.heap.size := by omega
        try have : w3.heap.size + 1 + 1 < w6.heap.size := by omega
        try have : w3.heap.size + 1 + 1 < w6.heap.size + 1 := by omega
        try have : w3.heap.size + 1 + 1 < w6.heap.size + 1 + 1 := by omega
        try have : w3.heap.size + 1 + 1 < w6.heap.size + 1 + 1 + 1 := by omega
        try have : w3.heap.size + 1 + 1 < w6.heap.size + 1 + 1 + 1 + 1 := by omega
        try have : w3.heap.size + 1 + 1 ≤ w6.heap.size := by omega
        try have : w3.heap.size + 1 + 1 + 1 < w6.heap.size := by omega
        try have : w3.heap.size + 1 + 1 + 1 < w6.heap.size + 1 := by omega
        try have : w3.heap.size + 1 + 1 + 1 < w6.heap.size + 1 + 1 := by omega
        try have : w3.heap.size + 1 + 1 + 1 < w6.heap.size + 1 + 1 + 1 := by omega
        try have : w3.heap.size + 1 + 1 + 1 < w6.heap.size + 1 + 1 + 1 + 1 := by omega
        try have : w3.heap.size + 1 + 1 + 1 ≤ w6.heap.size := by omega
        try have : w4.heap.size < w6.heap.size := by omega
        try have : w4.heap.size < w6.heap.size + 1 := by omega
        try have : w4.heap.size < w6.heap.size + 1 + 1 := by omega
        try have : w4.heap.size < w6.heap.size + 1 + 1 + 1 := by omega
        try have : w4.heap.size < w6.heap.size + 1 + 1 + 1 + 1 := by omega
        try have : w4.heap.size ≤ w6.heap.size := by omega
        try have : w4.heap.size + 1 < w6.heap.size := by omega
        try have : w4.heap.size + 1 < w6.heap.size + 1 := by omega
        try have : w4.heap.size + 1 < w6.heap.size + 1 + 1 := by omega
        try have : w4.heap.size + 1 < w6.heap.size + 1 + 1 + 1 := by omega
        try have : w4.heap.size + 1 < w6.heap.size + 1 + 1 + 1 + 1 := by omega
        try have : w4.heap.size + 1 ≤ w6.heap.size := by omega
        try have : w4.heap.size + 1 + 1 < w6.heap.size := by omega
        try have : w4.heap.size + 1 + 1 < w6.heap.size + 1 := by omega
        try have : w4.heap.size + 1 + 1 < w6.heap.size + 1 + 1 := by omega
        try have : w4.heap.size + 1 + 1 < w6.heap.size + 1 + 1 + 1 := by omega
        try have : w4.heap.size + 1 + 1 < w6.heap.size + 1 + 1 + 1 + 1 := by omega
        try have : w4.heap.size + 1 + 1 ≤ w6.heap.size := by omega
        try have : w4.heap.size + 1 + 1 + 1 < w6.heap.size := by omega
        try have : w4.heap.size + 1 + 1 + 1 < w6.heap.size + 1 := by omega
        try have : w4.heap.size + 1 + 1 + 1 < w6.heap.size + 1 + 1 := by omega
        try have : w4.heap.size + 1 + 1 + 1 < w6.heap.size + 1 + 1 + 1 := by omega
        try have : w4.heap.size + 1 + 1 + 1 < w6.heap.size + 1 + 1 + 1 + 1 := by omega
        try have : w4.heap.size + 1 + 1 + 1 ≤ w6.heap.size := by omega
        try have : w5.heap.size < w6.heap.size := by omega
        try have : w5.heap.size < w6.heap.size + 1 := by omega
        try have : w5.heap.size < w6.heap.size + 1 + 1 := by omega
        try have : w5.heap.size < w6.heap.size + 1 + 1 + 1 := by omega
        try have : w5.heap.size < w6.heap.size + 1 + 1 + 1 + 1 := by omega
        try have : w5.heap.size ≤ w6.heap.size := by omega
        try have : w5.heap.size + 1 < w6.heap.size := by omega
        try have : w5.heap.size + 1 < w6.heap.size + 1 := by omega
        try have : w5.heap.size + 1 < w6.heap.size + 1 + 1 := by omega
        try have : w5.heap.size + 1 < w6.heap.size + 1 + 1 + 1 := by omega
        try have : w5.heap.size + 1 < w6.heap.size + 1 + 1 + 1 + 1 := by omega
        try have : w5.heap.size + 1 ≤ w6.heap.size := by omega
        try have : w5.heap.size + 1 + 1 < w6.heap.size := by omega
        try have : w5.heap.size + 1 + 1 < w6.heap.size + 1 := by omega
        try have : w5.heap.size + 1 + 1 < w6.heap.size + 1 + 1 := by omega
        try have : w5.heap.size + 1 + 1 < w6.heap.size + 1 + 1 + 1 := by omega
        try have : w5.heap.size + 1 + 1 < w6.heap.size + 1 + 1 + 1 + 1 := by omega
        try have : w5.heap.size + 1 + 1 ≤ w6.heap.size := by omega
        try have : w5.heap.size + 1 + 1 + 1 < w6.heap.size := by omega
        try have : w5.heap.size + 1 + 1 + 1 < w6.heap.size + 1 := by omega
        try have : w5.heap.size + 1 + 1 + 1 < w6.heap.size + 1 + 1 := by omega
        try have : w5.heap.size + 1 + 1 + 1 < w6.heap.size + 1 + 1 + 1 := by omega
        try have : w5.heap.size + 1 + 1 + 1 < w6.heap.size + 1 + 1 + 1 + 1 := by omega
        try have : w5.heap.size + 1 + 1 + 1 ≤ w6.heap.size := by omega
        have c6_0_0 : w6.cell? ⟨w.heap.size, 0, none⟩ = some (.int .i64 (al)) := by go_simp
        have c6_0_1 : w6.cell? ⟨w.heap.size, 1, none⟩ = some (.int .i64 (ah)) := by go_simp
        have c6_1_0 : w6.cell? ⟨w.heap.size + 1, 0, none⟩ = some (.int .i64 (0)) := by go_simp
        have g6_1_0 : w6.frozen? ⟨w.heap.size + 1, 0, none⟩ = false := by go_simp
        have c6_1_1 : w6.cell? ⟨w.heap.size + 1, 1, none⟩ = some (.int .i64 (0)) := by go_simp
        have g6_1_1 : w6.frozen? ⟨w.heap.size + 1, 1, none⟩ = false := by go_simp
        have c6_2_0 : w6.cell? ⟨w.heap.size + 1 + 1, 0, none⟩ = some (.int .i64 (0)) := by go_simp
        have g6_2_0 : w6.frozen? ⟨w.heap.size + 1 + 1, 0, none⟩ = false := by go_simp
        have c6_2_1 : w6.cell? ⟨w.heap.size + 1 + 1, 1, none⟩ = some (.int .i64 (0)) := by go_simp
        have g6_2_1 : w6.frozen? ⟨w.heap.size + 1 + 1, 1, none⟩ = false := by go_simp
        have c6_3_0 : w6.cell? ⟨w2.heap.size, 0, none⟩ = some (.int .i64 (sl)) := by go_simp
        have c6_3_1 : w6.cell? ⟨w2.heap.size, 1, none⟩ = some (.int .i64 (sh)) := by go_simp
        have c6_4_0 : w6.cell? ⟨w3.heap.size + 1, 0, none⟩ = some (.int .i64 (wH (r2))) := by go_simp
        have c6_4_1 : w6.cell? ⟨w3.heap.size + 1, 1, none⟩ = some (.int .u64 (wL (r2))) := by go_simp
        have c6_5_0 : w6.cell? ⟨w4.heap.size, 0, none⟩ = some (.int .i64 (wH (r1))) := by go_simp
        have c6_5_1 : w6.cell? ⟨w4.heap.size, 1, none⟩ = some (.int .u64 (wL (r1))) := by go_simp
        have c6_6_0 : w6.cell? ⟨w5.heap.size + 1 + 1, 0, none⟩ = some (.int .i64 (wH (r3))) := by go_simp
        have c6_6_1 : w6.cell? ⟨w5.heap.size + 1 + 1, 1, none⟩ = some (.int .u64 (wL (r3))) := by go_simp
        clear hc6 hf6 c5_0_0 c5_0_1 c5_1_0 g5_1_0 c5_1_1 g5_1_1 c5_2_0 g5_2_0 c5_2_1 g5_2_1 c5_3_0 c5_3_1 c5_4_0 c5_4_1 c5_5_0 c5_5_1
        go_wp2_with fail
        refine (RC'.out _).mono ?_
        rintro e w7 ⟨rfl, hb7⟩
        obtain ⟨hc7, hf7⟩ := bcell hb7
        have hz7 := hb7.size
        try simp only [World.size_alloc, World.size_setCell] at hz7
        try have : w.heap.size < w7.heap.size := by omega
        try have : w.heap.size < w7.heap.size + 1 := by omega
        try have : w.heap.size ≤ w7.heap.size := by omega
        try have : w.heap.size + 1 < w7.heap.size := by omega
        try have : w.heap.size + 1 < w7.heap.size + 1 := by omega
        try have : w.heap.size + 1 ≤ w7.heap.size := by omega
        try have : w.heap.size + 1 + 1 < w7.heap.size := by omega
        try have : w.heap.size + 1 + 1 < w7.heap.size + 1 := by omega
        try have : w.heap.size + 1 + 1 ≤ w7.heap.size := by omega
        try have : w2.heap.size < w7.heap.size := by omega
        try have : w2.heap.size < w7.heap.size + 1 := by omega
        try have : w2.heap.size ≤ w7.heap.size := by omega
        try have : w3.heap.size < w7.heap.size := by omega
        try have : w3.heap.size < w7.heap.size + 1 := by omega
        try have : w3.heap.size ≤ w7.heap.size := by omega
        try have : w3.heap.size + 1 < w7.heap.size := by omega
        try have : w3.heap.size + 1 < w7.heap.size + 1 := by omega
        try have : w3.heap.size + 1 ≤ w7.heap.size := by omega
        try have : w3.heap.size + 1 + 1 < w7.heap.size := by omega
        try have : w3.heap.size + 1 + 1 < w7.heap.size + 1 := by omega
        try have : w3.heap.size + 1 + 1 ≤ w7.heap.size := by omega
        try have : w3.heap.size + 1 + 1 + 1 < w7.heap.size := by omega
        try have : w3.heap.size + 1 + 1 + 1 < w7.heap.size + 1 := by omega
        try have : w3.heap.size + 1 + 1 + 1 ≤ w7.heap.size := by omega
        try have : w4.heap.size < w7.heap.size := by omega
        try have : w4.heap.size < w7.heap.size + 1 := by omega
        try have : w4.heap.size ≤ w7.heap.size := by omega
        try have : w4.heap.size + 1 < w7.heap.size := by omega
        try have : w4.heap.size + 1 < w7.heap.size + 1 := by omega
        try have : w4.heap.size + 1 ≤ w7.heap.size := by omega
        try have : w4.heap.size + 1 + 1 < w7.heap.size := by omega
        try have : w4.heap.size + 1 + 1 < w7.heap.size + 1 := by omega
        try have : w4.heap.size + 1 + 1 ≤ w7.heap.size := by omega
        try have : w4.heap.size + 1 + 1 + 1 < w7.heap.size := by omega
        try have : w4.heap.size + 1 + 1 + 1 < w7.heap.size + 1 := by omega
        try have : w4.heap.size + 1 + 1 + 1 ≤ w7.heap.size := by omega
        try have : w5.heap.size < w7.heap.size := by omega
        try have : w5.heap.size < w7.heap.size + 1 := by omega
        try have : w5.heap.size ≤ w7.heap.size := by omega
        try have : w5.heap.size + 1 < w7.heap.size := by omega
        try have : w5.heap.size + 1 < w7.heap.size + 1 := by omega
        try have : w5.heap.size + 1 ≤ w7.heap.size := by omega
        try have : w5.heap.size + 1 + 1 < w7.heap.size := by omega
        try have : w5.heap.size + 1 + 1 < w7.heap.size + 1 := by omega
        try have : w5.heap.size + 1 + 1 ≤ w7.heap.size := by omega
        try have : w5.heap.size + 1 + 1 + 1 < w7.heap.size := by omega
        try have : w5.heap.size + 1 + 1 + 1 < w7.heap.size + 1 := by omega
        try have : w5.heap.size + 1 + 1 + 1 ≤ w7.heap.size := by omega
        try have : w6.heap.size < w7.heap.size := by omega
        try have : w6.heap.size < w7.heap.size + 1 := by omega
        try have : w6.heap.size ≤ w7.heap.size := by omega
        try have : w6.heap.size + 1 < w7.heap.size := by omega
        try have : w6.heap.size + 1 < w7.heap.size + 1 := by omega
        try have : w6.heap.size + 1 ≤ w7.heap.size := by omega
        try have : w6.heap.size + 1 + 1 < w7.heap.size := by omega
        try have : w6.heap.size + 1 + 1 < w7.heap.size + 1 := by omega
        try have : w6.heap.size + 1 + 1 ≤ w7.heap.size := by omega
        try have : w6.heap.size + 1 + 1 + 1 < w7.heap.size := by omega
        try have : w6.heap.size + 1 + 1 + 1 < w7.heap.size + 1 := by omega
        try have : w6.heap.size + 1 + 1 + 1 ≤ w7.heap.size := by omega
        have c7_0_0 : w7.cell? ⟨w.heap.size, 0, none⟩ = some (.int .i64 (al)) := by go_simp
        have c7_0_1 : w7.cell? ⟨w.heap.size, 1, none⟩ = some (.int .i64 (ah)) := by go_simp
        have c7_1_0 : w7.cell? ⟨w.heap.size + 1, 0, none⟩ = some (.int .i64 (0)) := by go_simp
        have g7_1_0 : w7.frozen? ⟨w.heap.size + 1, 0, none⟩ = false := by go_simp
        have c7_1_1 : w7.cell? ⟨w.heap.size + 1, 1, none⟩ = some (.int .i64 (0)) := by go_simp
        have g7_1_1 : w7.frozen? ⟨w.heap.size + 1, 1, none⟩ = false := by go_simp
        have c7_2_0 : w7.cell? ⟨w.heap.size + 1 + 1, 0, none⟩ = some (.int .i64 (0)) := by go_simp
        have g7_2_0 : w7.frozen? ⟨w.heap.size + 1 + 1, 0, none⟩ = false := by go_simp
        have c7_2_1 : w7.cell? ⟨w.heap.size + 1 + 1, 1, none⟩ = some (.int .i64 (0)) := by go_simp
        have g7_2_1 : w7.frozen? ⟨w.heap.size + 1 + 1, 1, none⟩ = false := by go_simp
        have c7_3_0 : w7.cell? ⟨w2.heap.size, 0, none⟩ = some (.int .i64 (sl)) := by go_simp
        have c7_3_1 : w7.cell? ⟨w2.heap.size, 1, none⟩ = some (.int .i64 (sh)) := by go_simp
        have c7_4_0 : w7.cell? ⟨w3.heap.size + 1, 0, none⟩ = some (.int .i64 (wH (r2))) := by go_simp
        have c7_4_1 : w7.cell? ⟨w3.heap.size + 1, 1, none⟩ = some (.int .u64 (wL (r2))) := by go_simp
        have c7_5_0 : w7.cell? ⟨w4.heap.size, 0, none⟩ = some (.int .i64 (wH (r1))) := by go_simp
        have c7_5_1 : w7.cell? ⟨w4.heap.size, 1, none⟩ = some (.int .u64 (wL (r1))) := by go_simp
        have c7_6_0 : w7.cell? ⟨w5.heap.size + 1 + 1, 0, none⟩ = some (.int .i64 (wH (r3))) := by go_simp
        have c7_6_1 : w7.cell? ⟨w5.heap.size + 1 + 1, 1, none⟩ = some (.int .u64 (wL (r3))) := by go_simp
        have c7_7_0 : w7.cell? ⟨w6.heap.size + 1 + 1 + 1, 0, none⟩ = some (.int .i64 (wH (r4))) := by go_simp
        have c7_7_1 : w7.cell? ⟨w6.heap.size + 1 + 1 + 1, 1, none⟩ = some (.int .u64 (wL (r4))) := by go_simp
        clear hc7 hf7 c6_0_0 c6_0_1 c6_1_0 g6_1_0 c6_1_1 g6_1_1 c6_2_0 g6_2_0 c6_2_1 g6_2_1 c6_3_0 c6_3_1 c6_4_0 c6_4_1 c6_5_0 c6_5_1 c6_6_0 c6_6_1
        go_wp2_with fail
        refine (RS'.out _).mono ?_
        rintro e w8 ⟨rfl, hb8⟩
        obtain ⟨hc8, hf8⟩ := bcell hb8
        have hz8 := hb8.size
        try simp only [World.size_alloc, World.size_setCell] at hz8
        try have : w.heap.size < w8.heap.size := by omega
        try have : w.heap.size < w8.heap.size + 1 := by omega
        try have : w.heap.size ≤ w8.heap.size := by omega
        try have : w.heap.size + 1 < w8.heap.size := by omega
        try have : w.heap.size + 1 < w8.heap.size + 1 := by omega
        try have : w.heap.size + 1 ≤ w8.heap.size := by omega
        try have : w.heap.size + 1 + 1 < w8.heap.size := by omega
        try have : w.heap.size + 1 + 1 < w8.heap.size + 1 := by omega
        try have : w.heap.size + 1 + 1 ≤ w8.heap.size := by omega
        try have : w2.heap.size < w8.heap.size := by omega
        try have : w2.heap.size < w8.heap.size + 1 := by omega
        try have : w2.heap.size ≤ w8.heap.size := by omega
        try have : w3.heap.size < w8.heap.size := by omega
        try have : w3.heap.size < w8.heap.size + 1 := by omega
        try have : w3.heap.size ≤ w8.heap.size := by omega
        try have : w3.heap.size + 1 < w8.heap.size := by omega
        try have : w3.heap.size + 1 < w8.heap.size + 1 := by omega
        try have : w3.heap.size + 1 ≤ w8.heap.size := by omega
        try have : w3.heap.size + 1 + 1 < w8.heap.size := by omega
        try have : w3.heap.size + 1 + 1 < w8.heap.size + 1 := by omega
        try have : w3.heap.size + 1 + 1 ≤ w8.heap.size := by omega
        try have : w3.heap.size + 1 + 1 + 1 < w8.heap.size := by omega
        try have : w3.heap.size + 1 + 1 + 1 < w8.heap.size + 1 := by omega
        try have : w3.heap.size + 1 + 1 + 1 ≤ w8.heap.size := by omega
        try have : w4.heap.size < w8.heap.size := by omega
        try have : w4.heap.size < w8.heap.size + 1 := by omega
        try have : w4.heap.size ≤ w8.heap.size := by omega
        try have : w4.heap.size + 1 < w8.heap.size := by omega
        try have : w4.heap.size + 1 < w8.heap.size + 1 := by omega
        try have : w4.heap.size + 1 ≤ w8.heap.size := by omega
        try have : w4.heap.size + 1 + 1 < w8.heap.size := by omega
        try have : w4.heap.size + 1 + 1 < w8.heap.size + 1 := by omega
        try have : w4.heap.size + 1 + 1 ≤ w8.heap.size := by omega
        try have : w4.heap.size + 1 + 1 + 1 < w8.heap.size := by omega
        try have : w4.heap.size + 1 + 1 + 1 < w8.heap.size + 1 := by omega
        try have : w4.heap.size + 1 + 1 + 1 ≤ w8.heap.size := by omega
        try have : w5.heap.size < w8.heap.size := by omega
        try have : w5.heap.size < w8.heap.size + 1 := by omega
        try have : w5.heap.size ≤ w8.heap.size := by omega
        try have : w5.heap.size + 1 < w8.heap.size := by omega
        try have : w5.heap.size + 1 < w8.heap.size + 1 := by omega
        try have : w5.heap.size + 1 ≤ w8.heap.size := by omega
        try have : w5.heap.size + 1 + 1 < w8.heap.size := by omega
        try have : w5.heap.size + 1 + 1 < w8.heap.size + 1 := by omega
        try have : w5.heap.size + 1 + 1 ≤ w8.heap.size := by omega
        try have : w5.heap.size + 1 + 1 + 1 < w8.heap.size := by omega
        try have : w5.heap.size + 1 + 1 + 1 < w8.heap.size + 1 := by omega
        try have : w5.heap.size + 1 + 1 + 1 ≤ w8.heap.size := by omega
        try have : w6.heap.size < w8.heap.size := by omega
        try have : w6.heap.size < w8.heap.size + 1 := by omega
        try have : w6.heap.size ≤ w8.heap.size := by omega
        try have : w6.heap.size + 1 < w8.heap.size := by omega
        try have : w6.heap.size + 1 < w8.heap.size + 1 := by omega
        try have : w6.heap.size + 1 ≤ w8.heap.size := by omega
        try have : w6.heap.size + 1 + 1 < w8.heap.size := by omega
        try have : w6.heap.size + 1 + 1 < w8.heap.size + 1 := by omega
        try have : w6.heap.size + 1 + 1 ≤ w8.heap.size := by omega
        try have : w6.heap.size + 1 + 1 + 1 < w8.heap.size := by omega
        try have : w6.heap.size + 1 + 1 + 1 < w8.heap.size + 1 := by omega
        try have : w6.heap.size + 1 + 1 + 1 ≤ w8.heap.size := by omega
        try have : w7.heap.size < w8.heap.size := by omega
        try have : w7.heap.size < w8.heap.size + 1 := by omega
        try have : w7.heap.size ≤ w8.heap.size := by omega
        have c8_0_0 : w8.cell? ⟨w.heap.size, 0, none⟩ = some (.int .i64 (al)) := by go_simp
        have c8_0_1 : w8.cell? ⟨w.heap.size, 1, none⟩ = some (.int .i64 (ah)) := by go_simp
        have c8_1_0 : w8.cell? ⟨w.heap.size + 1, 0, none⟩ = some (.int .i64 (0)) := by go_simp
        have g8_1_0 : w8.frozen? ⟨w.heap.size + 1, 0, none⟩ = false := by go_simp
        have c8_1_1 : w8.cell? ⟨w.heap.size + 1, 1, none⟩ = some (.int .i64 (0)) := by go_simp
        have g8_1_1 : w8.frozen? ⟨w.heap.size + 1, 1, none⟩ = false := by go_simp
        have c8_2_0 : w8.cell? ⟨w.heap.size + 1 + 1, 0, none⟩ = some (.int .i64 (0)) := by go_simp
        have g8_2_0 : w8.frozen? ⟨w.heap.size + 1 + 1, 0, none⟩ = false := by go_simp
        have c8_2_1 : w8.cell? ⟨w.heap.size + 1 + 1, 1, none⟩ = some (.int .i64 (0)) := by go_simp
        have g8_2_1 : w8.frozen? ⟨w.heap.size + 1 + 1, 1, none⟩ = false := by go_simp
        have c8_3_0 : w8.cell? ⟨w2.heap.size, 0, none⟩ = some (.int .i64 (sl)) := by go_simp
        have c8_3_1 : w8.cell? ⟨w2.heap.size, 1, none⟩ = some (.int .i64 (sh)) := by go_simp
        have c8_4_0 : w8.cell? ⟨w3.heap.size + 1, 0, none⟩ = some (.int .i64 (wH (r2))) := by go_simp
        have c8_4_1 : w8.cell? ⟨w3.heap.size + 1, 1, none⟩ = some (.int .u64 (wL (r2))) := by go_simp
        have c8_5_0 : w8.cell? ⟨w4.heap.size, 0, none⟩ = some (.int .i64 (wH (r1))) := by go_simp
        have c8_5_1 : w8.cell? ⟨w4.heap.size, 1, none⟩ = some (.int .u64 (wL (r1))) := by go_simp
        have c8_6_0 : w8.cell? ⟨w5.heap.size + 1 + 1, 0, none⟩ = some (.int .i64 (wH (r3))) := by go_simp
        have c8_6_1 : w8.cell? ⟨w5.heap.size + 1 + 1, 1, none⟩ = some (.int .u64 (wL (r3))) := by go_simp
        have c8_7_0 : w8.cell? ⟨w6.heap.size + 1 + 1 + 1, 0, none⟩ = some (.int .i64 (wH (r4))) := by go_simp
        have c8_7_1 : w8.cell? ⟨w6.heap.size + 1 + 1 + 1, 1, none⟩ = some (.int .u64 (wL (r4))) := by go_simp
        have c8_8_0 : w8.cell? ⟨w7.heap.size, 0, none⟩ = some (.int .i64 (r1)) := by go_simp
        have c8_8_1 : w8.cell? ⟨w7.heap.size, 1, none⟩ = some (.int .i64 (r2)) := by go_simp
        clear hc8 hf8 c7_0_0 c7_0_1 c7_1_0 g7_1_0 c7_1_1 g7_1_1 c7_2_0 g7_2_0 c7_2_1 g7_2_1 c7_3_0 c7_3_1 c7_4_0 c7_4_1 c7_5_0 c7_5_1 c7_6_0 c7_6_1 c7_7_0 c7_7_1
        go_wp2_with fail
        have hP8 : Pair4 w (w.heap.size + 1) (w.heap.size + 1 + 1) (w7.heap.size) (w8.heap.size) r1 r2 r3 r4 0 0 ((w8.alloc (.cells #[.int .i64 r3, .int .i64 r4] 24))) := ⟨(by repeat (first | with_reducible exact Below.refl _ _ | with_reducible refine bdrew ?_ | ((with_reducible first | refine bset ?_ ?_ | refine ball ?_ ?_ | refine bth (by assumption) ?_ ?_); first | omega | (simp <;> omega)))), by go_simp, by go_simp, by go_simp, by go_simp, by go_simp, by go_simp, by go_simp, by go_simp, by go_simp, by go_simp, by go_simp, by go_simp⟩
        refine QF.region_float_ex 2 93 (fun j => Pair4 w (w.heap.size + 1) (w.heap.size + 1 + 1) (w7.heap.size) (w8.heap.size) r1 r2 r3 r4 (px j r1) (px j r2)) _ (by kernel_rfl) (by kernel_rfl) rfl rfl rfl (⟨hP8.below.drew, hP8.c1, hP8.c2, hP8.c3, hP8.c4, hP8.c5, hP8.c6, hP8.c7, hP8.c8, hP8.f1, hP8.f2, hP8.f3, hP8.f4⟩) ?_
        apply Exists.intro
        refine ⟨fun j => ?h1, ?hf, ?ht⟩
        case h1 =>
          simp only [List.take_succ_cons, List.take_zero, List.drop_succ_cons, List.drop_zero]
          repeat (first
            | go_big_quiet_skip
            | (go_big_quiet_want; go_big_quiet_op; first
              | go_big_quiet_on
              | (apply Exists.intro
                 refine ⟨fun _ => ?_, ?_⟩
                 · first
                     | rfl
                     | (intro hC; obtain ⟨k0, k1, k2, k3, k4, k5, k6, k7, k8, k9, k10, k11, k12⟩ := hC; go_simp; done)
                     | (intro hC; obtain ⟨k0, k1, k2, k3, k4, k5, k6, k7, k8, k9, k10, k11, k12⟩ := hC; go_simp; rfl)
                     | (intro hC; have hcq := bcellG hC; go_simp; done)
                     | (intro hC; have hcq := bcellG hC; go_simp; rfl)
                 go_big_quiet_on)))
          exact wpQuiet_nil rfl
        case hf =>
          intro w8 hP7
          have hm8 := hP7.stored (by first | (simp; done) | omega) (by first | (simp; done) | omega) (by first | (simp; done) | omega) (by omega)
          obtain ⟨k0, k1, k2, k3, k4, k5, k6, k7, k8, k9, k10, k11, k12⟩ := hP7
          go_simp
          simpa [QF.floatRes, px] using hm8
        case ht =>
          intro u9 w9 hP7
          simp only [List.drop_succ_cons, List.drop_zero]
          obtain ⟨hb9, k1, k2, k3, k4, k5, k6, k7, k8, k9, k10, k11, k12⟩ := hP7
          simp only [px] at k1 k2
          go_wp2
          refine bodyPost_ret (v := .tuple #[.agg #[.int .i64 (r1), .int .i64 (r2)], .agg #[.int .i64 (r3), .int .i64 (r4)], .int .i64 0]) (by simp only [results, Try.results68]; go_simp) rfl ⟨rfl, (by repeat (first | with_reducible exact Below.refl _ _ | with_reducible refine bdrew ?_ | ((with_reducible first | refine bset ?_ ?_ | refine ball ?_ ?_ | refine bth (by assumption) ?_ ?_); first | omega | (simp <;> omega))))⟩
namespace lawSpanTurns
open Go.ChangeShapes Go.WideShapes Go.ChangeAt Go.Joins
set_option maxHeartbeats 8000000 in
theorem walk (al ah : Int) (i0 : I64 al) (j0 : I64 ah) (w : World) :
    Calls Try.prog 10 #[.agg #[.int .i64 (al), .int .i64 (ah)]] w fun e w' => e = .returned (.bool true) ∧ Below w.heap.size w w' := by
  have Ht := hide (And.intro (turn_any al ah i0 j0) (rturn_any al ah i0 j0))
  clear i0 j0
  generalize okI (tnB al ah) (tcL al ah) = cl at *
  generalize okI (tnB al ah) (tcH al ah) = ch at *
  generalize okI (tnB al ah) (tuL al al) = sl at *
  generalize okI (tnB al ah) (tuH ah ah) = sh at *
  generalize tnE al ah = ee at *
  go_enter Try.func10, Try.ntmps10
  go_wp2_with fail
  refine (Ht.out.1 _).mono ?_
  rintro e w1 ⟨rfl, hb1⟩
  obtain ⟨hc1, hf1⟩ := bcell hb1
  have hz1 := hb1.size
  try simp only [World.size_alloc, World.size_setCell] at hz1
  try have : w.heap.size < w1.heap.size := by omega
  try have : w.heap.size < w1.heap.size + 1 := by omega
  try have : w.heap.size < w1.heap.size + 1 + 1 := by omega
  try have : w.heap.size ≤ w1.heap.size := by omega
  have c1_0_0 : w1.cell? ⟨w.heap.size, 0, none⟩ = some (.int .i64 (al)) := by go_simp
  have c1_0_1 : w1.cell? ⟨w.heap.size, 1, none⟩ = some (.int .i64 (ah)) := by go_simp
  clear hc1 hf1
  go_wp2_with fail
  refine (Ht.out.2 _).mono ?_
  rintro e w2 ⟨rfl, hb2⟩
  obtain ⟨hc2, hf2⟩ := bcell hb2
  have hz2 := hb2.size
  try simp only [World.size_alloc, World.size_setCell] at hz2
  try have : w.heap.size < w2.heap.size := by omega
  try have : w.heap.size < w2.heap.size + 1 := by omega
  try have : w.heap.size < w2.heap.size + 1 + 1 := by omega
  try have : w.heap.size ≤ w2.heap.size := by omega
  try have : w1.heap.size < w2.heap.size := by omega
  try have : w1.heap.size < w2.heap.size + 1 := by omega
  try have : w1.heap.size < w2.heap.size + 1 + 1 := by omega
  try have : w1.heap.size ≤ w2.heap.size := by omega
  try have : w1.heap.size + 1 < w2.heap.size := by omega
  try have : w1.heap.size + 1 < w2.heap.size + 1 := by omega
  try have : w1.heap.size + 1 < w2.heap.size + 1 + 1 := by omega
  try have : w1.heap.size + 1 ≤ w2.heap.size := by omega
  have c2_0_0 : w2.cell? ⟨w.heap.size, 0, none⟩ = some (.int .i64 (al)) := by go_simp
  have c2_0_1 : w2.cell? ⟨w.heap.size, 1, none⟩ = some (.int .i64 (ah)) := by go_simp
  have c2_1_0 : w2.cell? ⟨w1.heap.size, 0, none⟩ = some (.int .i64 (cl)) := by go_simp
  have c2_1_1 : w2.cell? ⟨w1.heap.size, 1, none⟩ = some (.int .i64 (ch)) := by go_simp
  have c2_2_0 : w2.cell? ⟨w1.heap.size + 1, 0, none⟩ = some (.int .i64 (sl)) := by go_simp
  have c2_2_1 : w2.cell? ⟨w1.heap.size + 1, 1, none⟩ = some (.int .i64 (sh)) := by go_simp
  clear hc2 hf2 c1_0_0 c1_0_1
  go_wp2_with fail
  refine (same_any cl ch ee _).mono ?_
  rintro e w3 ⟨rfl, hb3⟩
  obtain ⟨hc3, hf3⟩ := bcell hb3
  have hz3 := hb3.size
  try simp only [World.size_alloc, World.size_setCell] at hz3
  try have : w.heap.size < w3.heap.size := by omega
  try have : w.heap.size ≤ w3.heap.size := by omega
  try have : w1.heap.size < w3.heap.size := by omega
  try have : w1.heap.size ≤ w3.heap.size := by omega
  try have : w1.heap.size + 1 < w3.heap.size := by omega
  try have : w1.heap.size + 1 ≤ w3.heap.size := by omega
  try have : w2.heap.size < w3.heap.size := by omega
  try have : w2.heap.size ≤ w3.heap.size := by omega
  try have : w2.heap.size + 1 < w3.heap.size := by omega
  try have : w2.heap.size + 1 ≤ w3.heap.size := by omega
  have c3_0_0 : w3.cell? ⟨w.heap.size, 0, none⟩ = some (.int .i64 (al)) := by go_simp
  have c3_0_1 : w3.cell? ⟨w.heap.size, 1, none⟩ = some (.int .i64 (ah)) := by go_simp
  have c3_1_0 : w3.cell? ⟨w1.heap.size, 0, none⟩ = some (.int .i64 (cl)) := by go_simp
  have c3_1_1 : w3.cell? ⟨w1.heap.size, 1, none⟩ = some (.int .i64 (ch)) := by go_simp
  have c3_2_0 : w3.cell? ⟨w1.heap.size + 1, 0, none⟩ = some (.int .i64 (sl)) := by go_simp
  have c3_2_1 : w3.cell? ⟨w1.heap.size + 1, 1, none⟩ = some (.int .i64 (sh)) := by go_simp
  have c3_3_0 : w3.cell? ⟨w2.heap.size, 0, none⟩ = some (.int .i64 (cl)) := by go_simp
  have c3_3_1 : w3.cell? ⟨w2.heap.size, 1, none⟩ = some (.int .i64 (ch)) := by go_simp
  have c3_4_0 : w3.cell? ⟨w2.heap.size + 1, 0, none⟩ = some (.int .i64 (sl)) := by go_simp
  have c3_4_1 : w3.cell? ⟨w2.heap.size + 1, 1, none⟩ = some (.int .i64 (sh)) := by go_simp
  clear hc3 hf3 c2_0_0 c2_0_1 c2_1_0 c2_1_1 c2_2_0 c2_2_1
  go_wp2
  go_ret
  exact ⟨rfl, (by repeat (first | with_reducible exact Below.refl _ _ | with_reducible refine bdrew ?_ | ((with_reducible first | refine bset ?_ ?_ | refine ball ?_ ?_ | refine bth (by assumption) ?_ ?_); first | omega | (simp <;> omega))))⟩
theorem own : ownKnob Try.prog.godebug = none := by kernel_rfl
theorem cellsSpan : Try.prog.cellsOf 24 = 2 := by kernel_rfl
set_option maxRecDepth 100000 in
theorem lifted (os : Os) (started : os.Started) (H : Type) (enc : TypeId × Value → H) :
    ReturnsInHanded {} Try.checked os 10 .any (Rows.spanTurnsSpec.pre6 enc Try.prog Try.f10 Rows.spanTurnsRow.domain false) (Rows.spanTurnsSpec.post enc Try.prog Try.f10 false true false false) := by
  refine returnsInHanded_of_change (C := Try.checked) own started (by kernel_rfl) Try.func10
    (ChangeSpec.witness6 (enc := enc) (C := Try.checked) false ⟨#[], #[.agg #[.int .i64 0, .int .i64 0]], []⟩ 8 (by kernel_rfl) (by kernel_rfl) (by kernel_rfl) (by kernel_rfl)) ?_
  intro W base args ds gs before hval0 hW _ _
  have hval : ∀ (j : Nat) t v, Try.f10.params[j]? = some t → args[j]? = some v → Value.okWide Try.prog W .any base t v := hval0
  have hW' := hW
  obtain ⟨p, q, hA0, hV, rfl, _, _⟩ := hW
  have hA : DataW.TrodAll enc Try.prog W 0 (fun _ => true) true Try.f10.params.toList args.toList ds p := hA0
  rw [Try.params10] at hA hval
  obtain ⟨v0, vs0, d0, ds0, p0, q0, hargs, rfl, rfl, h0, r0⟩ := trodAll_cons hA
  obtain ⟨rfl, rfl, rfl⟩ := trodAll_nil r0
  obtain rfl : args = #[v0] := by cases args; simp_all
  obtain ⟨rfl, rfl⟩ := trodVars_none hV
  obtain ⟨c00, c01, y00, y01, m0, rfl, rfl, rfl, hy00, hy01⟩ := open_agg2 Try.underlying24 (by kernel_rfl) cellsSpan (hval 0 24 v0 rfl rfl) h0
  obtain ⟨x00, e00, rfl, wf00⟩ := DataW.trod_int Try.underlying22 hy00
  obtain ⟨x01, e01, rfl, wf01⟩ := DataW.trod_int Try.underlying22 hy01
  simp at e00 e01
  subst e00 e01
  have rd0 : ∀ (W' : World) (sp : Nat → Bool), DataW.Trod enc Try.prog W' 0 sp true 24 (.agg #[.int .i64 x00, .int .i64 x01]) (.agg [.lit (.int .i64 x00), .lit (.int .i64 x01)]) [] := fun W' sp =>
    shut_agg2 (y0 := (.lit (.int .i64 x00), [])) (y1 := (.lit (.int .i64 x01), [])) Try.underlying24 (by kernel_rfl) cellsSpan ⟨1, by simp [DataW.trod, Try.underlying22, wf00]⟩ ⟨1, by simp [DataW.trod, Try.underlying22, wf01]⟩
  clear hA0 hval0
  simp only [List.append_nil] at hW'
  refine (walk x00 x01 (i64_of_wf wf00) (i64_of_wf wf01) W).mono fun e W' ⟨he, hb⟩ => ?_
  subst he
  exact ⟨_, rfl, _, _, _, [], [], [], hW', (trodAll_cons_mk (shut_bool Try.underlying4 _) trodAll_mk0), (by have sp : Nat → Bool := fun b => decide (b < W.heap.size); exact (trodAll_cons_mk (rd0 _ _) trodAll_mk0)), rfl, hb.frame _, fun h => by cases h⟩
theorem holds : Rows.SpanTurnsSaid :=
  OpenClaim.holds_of_wide 10 Try.f10 rfl rfl rfl rfl rfl rfl rfl ⟨rfl, rfl, rfl, rfl, rfl⟩ rfl rfl rfl rfl rfl (by kernel_rfl) Try.func10 (by kernel_rfl)
    (of_decide_eq_true (by kernel_rfl)) (by unfold Func.isWrapper; first | (rw [if_pos (by decide +kernel)]; kernel_rfl) | (rw [if_neg (by decide +kernel)]; exact ⟨rfl, rfl⟩))
    (fun os started H enc _ => lifted os started H enc)
#print axioms holds
end lawSpanTurns
end Go.Proofs.Ytbfbnmmgmkbieaa
