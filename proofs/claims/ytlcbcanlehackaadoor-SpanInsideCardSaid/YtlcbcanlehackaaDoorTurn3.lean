/- Directions: the program's Turn. -/
import Derived.Test.YtlcbcanlehackaaDoorTurn2
import Derived.Test.YtlcbcanlehackaaDoorPair
import Derived.Test.YtlcbcanlehackaaDoorAbs
set_option linter.unusedVariables false
set_option linter.unusedSimpArgs false
namespace Go.Proofs.YtlcbcanlehackaaDoor
open Go.RowKit
theorem en_fall {l1 h1 l2 h2 : Int} (s : Bool) (a : l2 ≤ l1) (b : h2 ≤ h1) (h : s = true → l1 = l2 ∧ h1 = h2) : enL l1 0 l2 0 s = l2 ∧ enH h1 0 h2 0 s = h1 ∧ enE 0 0 s = 0 := by
  cases s
  · simp [enL, enH, enE, mi, mx]; omega
  · obtain ⟨rfl, rfl⟩ := h rfl
    simp [enL, enH, enE]
theorem en_rise {l1 h1 l2 h2 : Int} (s : Bool) (a : l1 ≤ l2) (b : h1 ≤ h2) (h : s = true → l1 = l2 ∧ h1 = h2) : enL l1 0 l2 0 s = l1 ∧ enH h1 0 h2 0 s = h2 ∧ enE 0 0 s = 0 := by
  cases s
  · simp [enL, enH, enE, mi, mx]; omega
  · obtain ⟨rfl, rfl⟩ := h rfl
    simp [enL, enH, enE]
theorem ends_cos {sl sh : Int} (f1 : 0 ≤ sl) (f2 : sl ≤ sh) (hH : sh ≤ 4294967296) (w : World) :
    Calls Tryd.prog 55 #[.agg #[.int .i64 (sl), .int .i64 (sh)], .func (Fn.func 67) #[] #[]] w fun e w' => e = .returned (.tuple #[.agg #[.int .i64 (tuL 4294967296 sh - 4294967296), .int .i64 (tuH 4294967296 sl - 4294967296)], .int .i64 0]) ∧ Below w.heap.size w w' := by
  have ul : Unit1 sl := ⟨by omega, by omega⟩
  have uh : Unit1 sh := ⟨by omega, by omega⟩
  obtain ⟨m1, m2⟩ := cos_anti f1 f2 hH
  have EC := ends_0 (fun _ => True) ⟨fun _ _ => trivial⟩ 67 (enters_of Tryd.func67 (by kernel_rfl) rfl) sl sh _ _ _ _ _ _ (fun w _ => cosine_any sl ul w) (fun w _ => cosine_any sh uh w) w trivial
  obtain ⟨c1, c2, c3⟩ := en_fall (l1 := tuL 4294967296 sl - 4294967296) (h1 := tuH 4294967296 sl - 4294967296) (l2 := tuL 4294967296 sh - 4294967296) (h2 := tuH 4294967296 sh - 4294967296) (sl == sh) (by omega) (by omega) (fun h => by rw [eq_of_beq h]; exact ⟨rfl, rfl⟩)
  rw [c1, c2, c3] at EC
  exact EC
theorem ends_sin {al ah : Int} (ua : Unit1 al) (ub : Unit1 ah) (v : al ≤ ah) (w : World) :
    Calls Tryd.prog 55 #[.agg #[.int .i64 (al), .int .i64 (ah)], .func (Fn.func 68) #[] #[]] w fun e w' => e = .returned (.tuple #[.agg #[.int .i64 (tuL al al), .int .i64 (tuH ah ah)], .int .i64 0]) ∧ Below w.heap.size w w' := by
  obtain ⟨m1, m2⟩ := sin_mono ua ub v
  have EC := ends_0 (fun _ => True) ⟨fun _ _ => trivial⟩ 68 (enters_of Tryd.func68 (by kernel_rfl) rfl) al ah _ _ _ _ _ _ (fun w _ => sine_any al ua w) (fun w _ => sine_any ah ub w) w trivial
  obtain ⟨c1, c2, c3⟩ := en_rise (l1 := tuL al al) (h1 := tuH al al) (l2 := tuL ah ah) (h2 := tuH ah ah) (al == ah) m1 m2 (fun h => by rw [eq_of_beq h]; exact ⟨rfl, rfl⟩)
  rw [c1, c2, c3] at EC
  exact EC
/-- What Turn has, and its error. -/
def tnB (al ah : Int) : Bool := vB al ah && decide (-4294967296 ≤ al ∧ ah ≤ 4294967296)
def tnE (al ah : Int) : Int := if vB al ah then (if -4294967296 ≤ al ∧ ah ≤ 4294967296 then 0 else 4) else 2
def tcL (al ah : Int) : Int := tuL 4294967296 (absH al ah) - 4294967296
def tcH (al ah : Int) : Int := tuH 4294967296 (absL al ah) - 4294967296
set_option maxHeartbeats 4000000 in
set_option maxRecDepth 100000 in
theorem turn_any (al ah : Int) (i0 : I64 al) (i1 : I64 ah) (w : World) :
    Calls Tryd.prog 35 #[.agg #[.int .i64 (al), .int .i64 (ah)]] w fun e w' => e = .returned (.tuple #[.agg #[.int .i64 (okI (tnB al ah) (tcL al ah)), .int .i64 (okI (tnB al ah) (tcH al ah))], .agg #[.int .i64 (okI (tnB al ah) (tuL al al)), .int .i64 (okI (tnB al ah) (tuH ah ah))], .int .i64 (tnE al ah)]) ∧ Below w.heap.size w w' := by
  have AB := abs_any al ah i0 i1
  cases hv : vB al ah
  · have e1 : tnB al ah = false := by simp [tnB, hv]
    have e2 : tnE al ah = 2 := by simp [tnE, hv]
    rw [hv] at AB
    rw [e1, e2, ok_f, ok_f, ok_f, ok_f]
    simp only [ok_f, err_f] at AB
    have AB' := hide AB
    clear AB hv e1 e2 i0 i1
    go_enter Tryd.func35, Tryd.ntmps35
    go_wp2_with fail
    refine (AB'.out _).mono ?_
    rintro e w1 ⟨rfl, hb1⟩
    obtain ⟨hc1, hf1⟩ := bcell hb1
    have hz1 := hb1.size
    try simp only [World.size_alloc, World.size_setCell] at hz1
    try have : w.heap.size < w1.heap.size := by omega
    try have : w.heap.size ≤ w1.heap.size := by omega
    try have : w.heap.size + 1 < w1.heap.size := by omega
    try have : w.heap.size + 1 ≤ w1.heap.size := by omega
    try have : w.heap.size + 1 + 1 < w1.heap.size := by omega
    try have : w.heap.size + 1 + 1 ≤ w1.heap.size := by omega
    have c1_0_0 : w1.cell? ⟨w.heap.size, 0, none⟩ = some (.int .i64 (al)) := by go_simp
    have c1_0_1 : w1.cell? ⟨w.heap.size, 1, none⟩ = some (.int .i64 (ah)) := by go_simp
    have c1_1_0 : w1.cell? ⟨w.heap.size + 1, 0, none⟩ = some (.int .i64 (0)) := by go_simp
    have g1_1_0 : w1.frozen? ⟨w.heap.size + 1, 0, none⟩ = false := by go_simp
    have c1_1_1 : w1.cell? ⟨w.heap.size + 1, 1, none⟩ = some (.int .i64 (0)) := by go_simp
    have g1_1_1 : w1.frozen? ⟨w.heap.size + 1, 1, none⟩ = false := by go_simp
    have c1_2_0 : w1.cell? ⟨w.heap.size + 1 + 1, 0, none⟩ = some (.int .i64 (0)) := by go_simp
    have g1_2_0 : w1.frozen? ⟨w.heap.size + 1 + 1, 0, none⟩ = false := by go_simp
    have c1_2_1 : w1.cell? ⟨w.heap.size + 1 + 1, 1, none⟩ = some (.int .i64 (0)) := by go_simp
    have g1_2_1 : w1.frozen? ⟨w.heap.size + 1 + 1, 1, none⟩ = false := by go_simp
    clear hc1 hf1
    go_wp2
    refine bodyPost_ret (v := .tuple #[.agg #[.int .i64 (0), .int .i64 (0)], .agg #[.int .i64 (0), .int .i64 (0)], .int .i64 2]) (by simp only [results, Tryd.results35]; go_simp) rfl ⟨rfl, (by repeat (first | with_reducible exact Below.refl _ _ | with_reducible refine bdrew ?_ | ((with_reducible first | refine bset ?_ ?_ | refine ball ?_ ?_ | refine bth (by assumption) ?_ ?_); first | omega | (simp <;> omega))))⟩
  · obtain ⟨v1, v2⟩ := vB_tt hv
    obtain ⟨f1, f2, f3⟩ := abs_facts i0 i1 hv
    rw [hv] at AB
    simp only [ok_t, err_t] at AB
    have AB' := hide AB
    clear AB
    by_cases c : -4294967296 ≤ al ∧ ah ≤ 4294967296
    · have e1 : tnB al ah = true := by unfold tnB; rw [hv, decide_eq_true c]; rfl
      have e2 : tnE al ah = 0 := by simp [tnE, hv, c]
      have hH : absH al ah ≤ 4294967296 := by unfold absH mx; split <;> (try split) <;> (try split) <;> omega
      rw [e1, e2, ok_t, ok_t, ok_t, ok_t]
      unfold tcL tcH
      have ua : Unit1 al := ⟨by omega, by omega⟩
      have ub : Unit1 ah := ⟨by omega, by omega⟩
      have ul : Unit1 (absL al ah) := ⟨by omega, by omega⟩
      have uh : Unit1 (absH al ah) := ⟨by omega, by omega⟩
      have EC' := hide (fun w => ends_cos f1 f2 hH w)
      have ES' := hide (fun w => ends_sin ua ub v2 w)
      clear ua ub ul uh e1 e2 c v1 v2 hv i0 i1 f1 f2 f3
      generalize tuL 4294967296 (absH al ah) - 4294967296 = r1 at *
      generalize tuH 4294967296 (absL al ah) - 4294967296 = r2 at *
      generalize tuL al al = r3 at *
      generalize tuH ah ah = r4 at *
      generalize absL al ah = sl at *
      generalize absH al ah = sh at *
      go_enter Tryd.func35, Tryd.ntmps35
      go_wp2_with fail
      refine (AB'.out _).mono ?_
      rintro e w1 ⟨rfl, hb1⟩
      obtain ⟨hc1, hf1⟩ := bcell hb1
      have hz1 := hb1.size
      try simp only [World.size_alloc, World.size_setCell] at hz1
      try have : w.heap.size < w1.heap.size := by omega
      try have : w.heap.size < w1.heap.size + 1 := by omega
      try have : w.heap.size ≤ w1.heap.size := by omega
      try have : w.heap.size + 1 < w1.heap.size := by omega
      try have : w.heap.size + 1 < w1.heap.size + 1 := by omega
      try have : w.heap.size + 1 ≤ w1.heap.size := by omega
      try have : w.heap.size + 1 + 1 < w1.heap.size := by omega
      try have : w.heap.size + 1 + 1 < w1.heap.size + 1 := by omega
      try have : w.heap.size + 1 + 1 ≤ w1.heap.size := by omega
      have c1_0_0 : w1.cell? ⟨w.heap.size, 0, none⟩ = some (.int .i64 (al)) := by go_simp
      have c1_0_1 : w1.cell? ⟨w.heap.size, 1, none⟩ = some (.int .i64 (ah)) := by go_simp
      have c1_1_0 : w1.cell? ⟨w.heap.size + 1, 0, none⟩ = some (.int .i64 (0)) := by go_simp
      have g1_1_0 : w1.frozen? ⟨w.heap.size + 1, 0, none⟩ = false := by go_simp
      have c1_1_1 : w1.cell? ⟨w.heap.size + 1, 1, none⟩ = some (.int .i64 (0)) := by go_simp
      have g1_1_1 : w1.frozen? ⟨w.heap.size + 1, 1, none⟩ = false := by go_simp
      have c1_2_0 : w1.cell? ⟨w.heap.size + 1 + 1, 0, none⟩ = some (.int .i64 (0)) := by go_simp
      have g1_2_0 : w1.frozen? ⟨w.heap.size + 1 + 1, 0, none⟩ = false := by go_simp
      have c1_2_1 : w1.cell? ⟨w.heap.size + 1 + 1, 1, none⟩ = some (.int .i64 (0)) := by go_simp
      have g1_2_1 : w1.frozen? ⟨w.heap.size + 1 + 1, 1, none⟩ = false := by go_simp
      clear hc1 hf1
      go_wp2_with fail
      refine (EC'.out _).mono ?_
      rintro e w2 ⟨rfl, hb2⟩
      obtain ⟨hc2, hf2⟩ := bcell hb2
      have hz2 := hb2.size
      try simp only [World.size_alloc, World.size_setCell] at hz2
      try have : w.heap.size < w2.heap.size := by omega
      try have : w.heap.size ≤ w2.heap.size := by omega
      try have : w.heap.size + 1 < w2.heap.size := by omega
      try have : w.heap.size + 1 ≤ w2.heap.size := by omega
      try have : w.heap.size + 1 + 1 < w2.heap.size := by omega
      try have : w.heap.size + 1 + 1 ≤ w2.heap.size := by omega
      try have : w1.heap.size < w2.heap.size := by omega
      try have : w1.heap.size ≤ w2.heap.size := by omega
      have c2_0_0 : w2.cell? ⟨w.heap.size, 0, none⟩ = some (.int .i64 (al)) := by go_simp
      have c2_0_1 : w2.cell? ⟨w.heap.size, 1, none⟩ = some (.int .i64 (ah)) := by go_simp
      have c2_1_0 : w2.cell? ⟨w.heap.size + 1, 0, none⟩ = some (.int .i64 (0)) := by go_simp
      have g2_1_0 : w2.frozen? ⟨w.heap.size + 1, 0, none⟩ = false := by go_simp
      have c2_1_1 : w2.cell? ⟨w.heap.size + 1, 1, none⟩ = some (.int .i64 (0)) := by go_simp
      have g2_1_1 : w2.frozen? ⟨w.heap.size + 1, 1, none⟩ = false := by go_simp
      have c2_2_0 : w2.cell? ⟨w.heap.size + 1 + 1, 0, none⟩ = some (.int .i64 (0)) := by go_simp
      have g2_2_0 : w2.frozen? ⟨w.heap.size + 1 + 1, 0, none⟩ = false := by go_simp
      have c2_2_1 : w2.cell? ⟨w.heap.size + 1 + 1, 1, none⟩ = some (.int .i64 (0)) := by go_simp
      have g2_2_1 : w2.frozen? ⟨w.heap.size + 1 + 1, 1, none⟩ = false := by go_simp
      have c2_3_0 : w2.cell? ⟨w1.heap.size, 0, none⟩ = some (.int .i64 (sl)) := by go_simp
      have c2_3_1 : w2.cell? ⟨w1.heap.size, 1, none⟩ = some (.int .i64 (sh)) := by go_simp
      clear hc2 hf2 c1_0_0 c1_0_1 c1_1_0 g1_1_0 c1_1_1 g1_1_1 c1_2_0 g1_2_0 c1_2_1 g1_2_1
      go_wp2_with fail
      refine (ES'.out _).mono ?_
      rintro e w3 ⟨rfl, hb3⟩
      obtain ⟨hc3, hf3⟩ := bcell hb3
      have hz3 := hb3.size
      try simp only [World.size_alloc, World.size_setCell] at hz3
      try have : w.heap.size < w3.heap.size := by omega
      try have : w.heap.size ≤ w3.heap.size := by omega
      try have : w.heap.size + 1 < w3.heap.size := by omega
      try have : w.heap.size + 1 ≤ w3.heap.size := by omega
      try have : w.heap.size + 1 + 1 < w3.heap.size := by omega
      try have : w.heap.size + 1 + 1 ≤ w3.heap.size := by omega
      try have : w1.heap.size < w3.heap.size := by omega
      try have : w1.heap.size ≤ w3.heap.size := by omega
      have c3_0_0 : w3.cell? ⟨w.heap.size, 0, none⟩ = some (.int .i64 (al)) := by go_simp
      have c3_0_1 : w3.cell? ⟨w.heap.size, 1, none⟩ = some (.int .i64 (ah)) := by go_simp
      have c3_1_0 : w3.cell? ⟨w.heap.size + 1, 0, none⟩ = some (.int .i64 (r1)) := by go_simp
      have g3_1_0 : w3.frozen? ⟨w.heap.size + 1, 0, none⟩ = false := by go_simp
      have c3_1_1 : w3.cell? ⟨w.heap.size + 1, 1, none⟩ = some (.int .i64 (r2)) := by go_simp
      have g3_1_1 : w3.frozen? ⟨w.heap.size + 1, 1, none⟩ = false := by go_simp
      have c3_2_0 : w3.cell? ⟨w.heap.size + 1 + 1, 0, none⟩ = some (.int .i64 (0)) := by go_simp
      have g3_2_0 : w3.frozen? ⟨w.heap.size + 1 + 1, 0, none⟩ = false := by go_simp
      have c3_2_1 : w3.cell? ⟨w.heap.size + 1 + 1, 1, none⟩ = some (.int .i64 (0)) := by go_simp
      have g3_2_1 : w3.frozen? ⟨w.heap.size + 1 + 1, 1, none⟩ = false := by go_simp
      have c3_3_0 : w3.cell? ⟨w1.heap.size, 0, none⟩ = some (.int .i64 (sl)) := by go_simp
      have c3_3_1 : w3.cell? ⟨w1.heap.size, 1, none⟩ = some (.int .i64 (sh)) := by go_simp
      clear hc3 hf3 c2_0_0 c2_0_1 c2_1_0 g2_1_0 c2_1_1 g2_1_1 c2_2_0 g2_2_0 c2_2_1 g2_2_1 c2_3_0 c2_3_1
      go_wp2_with fail
      have hP8 : Pair w (w.heap.size + 1) (w.heap.size + 1 + 1) r1 r2 r3 r4 ((w3.setCell ⟨w.heap.size + 1 + 1, 0, none⟩ (.int .i64 r3)).setCell ⟨w.heap.size + 1 + 1, 1, none⟩ (.int .i64 r4)) := ⟨(by repeat (first | with_reducible exact Below.refl _ _ | with_reducible refine bdrew ?_ | ((with_reducible first | refine bset ?_ ?_ | refine ball ?_ ?_ | refine bth (by assumption) ?_ ?_); first | omega | (simp <;> omega)))), by go_simp, by go_simp, by go_simp, by go_simp, by go_simp, by go_simp, by go_simp, by go_simp⟩
      refine QF.region_float_ex 2 43 (fun _ => Pair w (w.heap.size + 1) (w.heap.size + 1 + 1) r1 r2 r3 r4) _ (by kernel_rfl) (by kernel_rfl) rfl rfl rfl (⟨hP8.below.drew, hP8.c1, hP8.c2, hP8.c3, hP8.c4, hP8.f1, hP8.f2, hP8.f3, hP8.f4⟩) ?_
      apply Exists.intro
      refine ⟨fun j => ?h1, ?hf, ?ht⟩
      case h1 =>
        simp only [List.take_succ_cons, List.take_zero, List.drop_succ_cons, List.drop_zero]
        repeat (first
          | go_big_quiet_skip
          | (go_big_quiet_want; go_big_quiet_op; first
            | go_big_quiet_on
            | (apply Exists.intro
               refine ⟨fun _ => ?_, ?_⟩
               · first
                   | rfl
                   | (intro hC; obtain ⟨k0, k1, k2, k3, k4, k5, k6, k7, k8⟩ := hC; go_simp; done)
                   | (intro hC; obtain ⟨k0, k1, k2, k3, k4, k5, k6, k7, k8⟩ := hC; go_simp; rfl)
                   | (intro hC; have hcq := bcellG hC; go_simp; done)
                   | (intro hC; have hcq := bcellG hC; go_simp; rfl)
               go_big_quiet_on)))
        exact wpQuiet_nil rfl
      case hf =>
        intro w8 hP7
        have hm8 := hP7.stored (by simp) (by omega)
        obtain ⟨k0, k1, k2, k3, k4, k5, k6, k7, k8⟩ := hP7
        go_simp
        simpa [QF.floatRes] using hm8
      case ht =>
        intro u9 w9 hP7
        simp only [List.drop_succ_cons, List.drop_zero]
        have hP9 := hP7.stored2 (by simp) (by omega)
        obtain ⟨k0, k1, k2, k3, k4, k5, k6, k7, k8⟩ := hP7
        go_wp2
        obtain ⟨hb9, j1, j2, j3, j4, j5, j6, j7, j8⟩ := hP9
        refine bodyPost_ret (v := .tuple #[.agg #[.int .i64 (r1), .int .i64 (r2)], .agg #[.int .i64 (r3), .int .i64 (r4)], .int .i64 0]) (by simp only [results, Tryd.results35]; go_simp) rfl ⟨rfl, hb9⟩
    · have e1 : tnB al ah = false := by unfold tnB; rw [hv, decide_eq_false c]; rfl
      have e2 : tnE al ah = 4 := by simp [tnE, hv, c]
      have hH : 4294967296 < absH al ah := by unfold absH mx; split <;> (try split) <;> (try split) <;> omega
      rw [e1, e2, ok_f, ok_f, ok_f, ok_f]
      clear hv e1 e2 i0 i1 c f1 f2 f3 v1 v2
      generalize absL al ah = sl at *
      generalize absH al ah = sh at *
      go_enter Tryd.func35, Tryd.ntmps35
      go_wp2_with fail
      refine (AB'.out _).mono ?_
      rintro e w1 ⟨rfl, hb1⟩
      obtain ⟨hc1, hf1⟩ := bcell hb1
      have hz1 := hb1.size
      try simp only [World.size_alloc, World.size_setCell] at hz1
      try have : w.heap.size < w1.heap.size := by omega
      try have : w.heap.size < w1.heap.size + 1 := by omega
      try have : w.heap.size ≤ w1.heap.size := by omega
      try have : w.heap.size + 1 < w1.heap.size := by omega
      try have : w.heap.size + 1 < w1.heap.size + 1 := by omega
      try have : w.heap.size + 1 ≤ w1.heap.size := by omega
      try have : w.heap.size + 1 + 1 < w1.heap.size := by omega
      try have : w.heap.size + 1 + 1 < w1.heap.size + 1 := by omega
      try have : w.heap.size + 1 + 1 ≤ w1.heap.size := by omega
      have c1_0_0 : w1.cell? ⟨w.heap.size, 0, none⟩ = some (.int .i64 (al)) := by go_simp
      have c1_0_1 : w1.cell? ⟨w.heap.size, 1, none⟩ = some (.int .i64 (ah)) := by go_simp
      have c1_1_0 : w1.cell? ⟨w.heap.size + 1, 0, none⟩ = some (.int .i64 (0)) := by go_simp
      have g1_1_0 : w1.frozen? ⟨w.heap.size + 1, 0, none⟩ = false := by go_simp
      have c1_1_1 : w1.cell? ⟨w.heap.size + 1, 1, none⟩ = some (.int .i64 (0)) := by go_simp
      have g1_1_1 : w1.frozen? ⟨w.heap.size + 1, 1, none⟩ = false := by go_simp
      have c1_2_0 : w1.cell? ⟨w.heap.size + 1 + 1, 0, none⟩ = some (.int .i64 (0)) := by go_simp
      have g1_2_0 : w1.frozen? ⟨w.heap.size + 1 + 1, 0, none⟩ = false := by go_simp
      have c1_2_1 : w1.cell? ⟨w.heap.size + 1 + 1, 1, none⟩ = some (.int .i64 (0)) := by go_simp
      have g1_2_1 : w1.frozen? ⟨w.heap.size + 1 + 1, 1, none⟩ = false := by go_simp
      clear hc1 hf1
      go_wp2
      refine bodyPost_ret (v := .tuple #[.agg #[.int .i64 (0), .int .i64 (0)], .agg #[.int .i64 (0), .int .i64 (0)], .int .i64 4]) (by simp only [results, Tryd.results35]; go_simp) rfl ⟨rfl, (by repeat (first | with_reducible exact Below.refl _ _ | with_reducible refine bdrew ?_ | ((with_reducible first | refine bset ?_ ?_ | refine ball ?_ ?_ | refine bth (by assumption) ?_ ?_); first | omega | (simp <;> omega))))⟩
end Go.Proofs.YtlcbcanlehackaaDoor
