/- Points and quotients of integers, on both sides. -/
import Derived.Test.YtbfbnmmgmkbieaaShare
import Derived.Test.YtbfbnmmgmkbieaaMid2
set_option linter.unusedVariables false
set_option linter.unusedSimpArgs false
namespace Go.Proofs.Ytbfbnmmgmkbieaa
open Go.RowKit
def nB (n : Int) : Bool := decide (-9223372036854775807 ≤ n)
theorem point_any (n : Int) (h : I64 n) (w : World) :
    Calls Try.prog 12 #[.int .i64 n] w fun e w' => e = .returned (.tuple #[.agg #[.int .i64 (okI (nB n) n), .int .i64 (okI (nB n) n)], .int .i64 (errE (nB n) 0)]) ∧ Below w.heap.size w w' := by
  have h0 := h.1
  by_cases c : n = -9223372036854775808
  · have E : nB n = false := decide_eq_false (by omega)
    rw [E, ok_f, err_f]
    clear E
    go_enter Try.func12, Try.ntmps12
    go_wp2
    refine bodyPost_ret (v := .tuple #[.agg #[.int .i64 (0), .int .i64 (0)], .int .i64 2]) (by simp only [results, Try.results12]; go_simp) rfl ⟨rfl, (by repeat (first | with_reducible exact Below.refl _ _ | with_reducible refine bdrew ?_ | ((with_reducible first | refine bset ?_ ?_ | refine ball ?_ ?_ | refine bth (by assumption) ?_ ?_); first | omega | (simp <;> omega))))⟩
  · have E : nB n = true := decide_eq_true (by omega)
    rw [E, ok_t, err_t]
    clear E
    go_enter Try.func12, Try.ntmps12
    go_wp2
    refine bodyPost_ret (v := .tuple #[.agg #[.int .i64 (n), .int .i64 (n)], .int .i64 0]) (by simp only [results, Try.results12]; go_simp) rfl ⟨rfl, (by repeat (first | with_reducible exact Below.refl _ _ | with_reducible refine bdrew ?_ | ((with_reducible first | refine bset ?_ ?_ | refine ball ?_ ?_ | refine bth (by assumption) ?_ ?_); first | omega | (simp <;> omega))))⟩
theorem rpoint_any (n : Int) (w : World) :
    Calls Try.prog 13 #[.int .i64 n] w fun e w' => e = .returned (.tuple #[.agg #[.int .i64 (okI (nB n) n), .int .i64 (okI (nB n) n)], .int .i64 (errE (nB n) 0)]) ∧ Below w.heap.size w w' := by
  cases hv : nB n
  · rw [ok_f, err_f]
    have HV : Hid (decide (-9223372036854775807 ≤ n) = false) := hide hv
    clear hv
    go_enter Try.func13, Try.ntmps13
    go_wp2_with fail
    refine (rnumber n false HV.out _).mono ?_
    rintro e w1 ⟨rfl, hb1⟩
    obtain ⟨hc1, hf1⟩ := bcell hb1
    have hz1 := hb1.size
    try simp only [World.size_alloc, World.size_setCell] at hz1
    try have : w.heap.size < w1.heap.size := by omega
    try have : w.heap.size ≤ w1.heap.size := by omega
    go_wp2
    refine bodyPost_ret (v := .tuple #[.agg #[.int .i64 (0), .int .i64 (0)], .int .i64 2]) (by simp only [results, Try.results13]; go_simp) rfl ⟨rfl, (by repeat (first | with_reducible exact Below.refl _ _ | with_reducible refine bdrew ?_ | ((with_reducible first | refine bset ?_ ?_ | refine ball ?_ ?_ | refine bth (by assumption) ?_ ?_); first | omega | (simp <;> omega))))⟩
  · rw [ok_t, err_t]
    have HV : Hid (decide (-9223372036854775807 ≤ n) = true) := hide hv
    clear hv
    go_enter Try.func13, Try.ntmps13
    go_wp2_with fail
    refine (rnumber n true HV.out _).mono ?_
    rintro e w1 ⟨rfl, hb1⟩
    obtain ⟨hc1, hf1⟩ := bcell hb1
    have hz1 := hb1.size
    try simp only [World.size_alloc, World.size_setCell] at hz1
    try have : w.heap.size < w1.heap.size := by omega
    try have : w.heap.size ≤ w1.heap.size := by omega
    go_wp2
    refine bodyPost_ret (v := .tuple #[.agg #[.int .i64 (n), .int .i64 (n)], .int .i64 0]) (by simp only [results, Try.results13]; go_simp) rfl ⟨rfl, (by repeat (first | with_reducible exact Below.refl _ _ | with_reducible refine bdrew ?_ | ((with_reducible first | refine bset ?_ ?_ | refine ball ?_ ?_ | refine bth (by assumption) ?_ ?_); first | omega | (simp <;> omega))))⟩
def raL (a b : Int) : Int := if b = 0 then 0 else oLo (sL a 4294967296 b) (sH a 4294967296 b)
def raH (a b : Int) : Int := if b = 0 then 0 else oHi (sL a 4294967296 b) (sH a 4294967296 b)
def raE (a b : Int) : Int := if b = 0 then 10 else oE (sL a 4294967296 b) (sH a 4294967296 b)
theorem ra_z {a b : Int} (h : b = 0) : raL a b = 0 ∧ raH a b = 0 ∧ raE a b = 10 := by simp [raL, raH, raE, h]
theorem ra_n {a b : Int} (h : ¬ b = 0) : raL a b = oLo (sL a 4294967296 b) (sH a 4294967296 b) ∧ raH a b = oHi (sL a 4294967296 b) (sH a 4294967296 b) ∧ raE a b = oE (sL a 4294967296 b) (sH a 4294967296 b) := by simp [raL, raH, raE, h]
theorem i64_one : I64 4294967296 := by constructor <;> omega
theorem i64_1 : I64 1 := by constructor <;> omega
theorem ratio_any (a b : Int) (ia : I64 a) (ib : I64 b) (w : World) :
    Calls Try.prog 16 #[.int .i64 a, .int .i64 b] w fun e w' => e = .returned (.tuple #[.agg #[.int .i64 (raL a b), .int .i64 (raH a b)], .int .i64 (raE a b)]) ∧ Below w.heap.size w w' := by
  by_cases c : b = 0
  · obtain ⟨e1, e2, e3⟩ := ra_z (a := a) c
    rw [e1, e2, e3]
    clear e1 e2 e3
    go_enter Try.func16, Try.ntmps16
    go_wp2
    refine bodyPost_ret (v := .tuple #[.agg #[.int .i64 (0), .int .i64 (0)], .int .i64 10]) (by simp only [results, Try.results16]; go_simp) rfl ⟨rfl, (by repeat (first | with_reducible exact Below.refl _ _ | with_reducible refine bdrew ?_ | ((with_reducible first | refine bset ?_ ?_ | refine ball ?_ ?_ | refine bth (by assumption) ?_ ?_); first | omega | (simp <;> omega))))⟩
  · obtain ⟨e1, e2, e3⟩ := ra_n (a := a) c
    rw [e1, e2, e3]
    have SH := hide (share_any a 4294967296 b ia i64_one ib c)
    clear e1 e2 e3 ia ib
    generalize sL a 4294967296 b = LO at *
    generalize sH a 4294967296 b = HI at *
    go_enter Try.func16, Try.ntmps16
    go_wp2_with fail
    refine (SH.out _).mono ?_
    rintro e w1 ⟨rfl, hb1⟩
    obtain ⟨hc1, hf1⟩ := bcell hb1
    have hz1 := hb1.size
    try simp only [World.size_alloc, World.size_setCell] at hz1
    try have : w.heap.size < w1.heap.size := by omega
    try have : w.heap.size ≤ w1.heap.size := by omega
    go_wp2
    refine bodyPost_ret (v := .tuple #[.agg #[.int .i64 (oLo LO HI), .int .i64 (oHi LO HI)], .int .i64 (oE LO HI)]) (by simp only [results, Try.results16]; go_simp) rfl ⟨rfl, (by repeat (first | with_reducible exact Below.refl _ _ | with_reducible refine bdrew ?_ | ((with_reducible first | refine bset ?_ ?_ | refine ball ?_ ?_ | refine bth (by assumption) ?_ ?_); first | omega | (simp <;> omega))))⟩
theorem of_any (n : Int) (h : I64 n) (w : World) :
    Calls Try.prog 14 #[.int .i64 n] w fun e w' => e = .returned (.tuple #[.agg #[.int .i64 (raL n 1), .int .i64 (raH n 1)], .int .i64 (raE n 1)]) ∧ Below w.heap.size w w' := by
  have R := hide (ratio_any n 1 h i64_1)
  clear h
  generalize raL n 1 = LO at *
  generalize raH n 1 = HI at *
  generalize raE n 1 = EE at *
  go_enter Try.func14, Try.ntmps14
  go_wp2_with fail
  refine (R.out _).mono ?_
  rintro e w1 ⟨rfl, hb1⟩
  obtain ⟨hc1, hf1⟩ := bcell hb1
  have hz1 := hb1.size
  try simp only [World.size_alloc, World.size_setCell] at hz1
  try have : w.heap.size < w1.heap.size := by omega
  try have : w.heap.size ≤ w1.heap.size := by omega
  go_wp2
  refine bodyPost_ret (v := .tuple #[.agg #[.int .i64 (LO), .int .i64 (HI)], .int .i64 EE]) (by simp only [results, Try.results14]; go_simp) rfl ⟨rfl, (by repeat (first | with_reducible exact Below.refl _ _ | with_reducible refine bdrew ?_ | ((with_reducible first | refine bset ?_ ?_ | refine ball ?_ ?_ | refine bth (by assumption) ?_ ?_); first | omega | (simp <;> omega))))⟩
theorem rover (x y : Int) (hx : I64 x) (hy : I64 y) (h : ¬ y = 0) (w : World) :
    Calls Try.prog 80 #[.agg #[.int .i64 (wH (x)), .int .u64 (wL (x))], .agg #[.int .i64 (wH (y)), .int .u64 (wL (y))]] w fun e w' => e = .returned (.tuple #[.agg #[.int .i64 (wH (sL x 4294967296 y)), .int .u64 (wL (sL x 4294967296 y))], .agg #[.int .i64 (wH (sH x 4294967296 y)), .int .u64 (wL (sH x 4294967296 y))]]) ∧ Below w.heap.size w w' := by
  by_cases c : 0 < y
  · have e1 : sL x 4294967296 y = x * 4294967296 / y := by unfold sL sN ab; rw [if_neg (by omega), if_neg (by omega)]
    have e2 : sH x 4294967296 y = cdiv (x * 4294967296) y := by unfold sH sN ab; rw [if_neg (by omega), if_neg (by omega)]
    rw [e1, e2]
    exact rover_p x y hx hy c w
  · have e1 : sL x 4294967296 y = -x * 4294967296 / -y := by unfold sL sN ab; rw [if_pos (by omega), if_pos (by omega), Int.neg_mul]
    have e2 : sH x 4294967296 y = cdiv (-x * 4294967296) (-y) := by unfold sH sN ab; rw [if_pos (by omega), if_pos (by omega), Int.neg_mul]
    rw [e1, e2]
    exact rover_n x y hx hy (by omega) w
theorem rratio_any (a b : Int) (ia : I64 a) (ib : I64 b) (w : World) :
    Calls Try.prog 17 #[.int .i64 a, .int .i64 b] w fun e w' => e = .returned (.tuple #[.agg #[.int .i64 (raL a b), .int .i64 (raH a b)], .int .i64 (raE a b)]) ∧ Below w.heap.size w w' := by
  by_cases c : b = 0
  · obtain ⟨e1, e2, e3⟩ := ra_z (a := a) c
    rw [e1, e2, e3]
    clear e1 e2 e3
    go_enter Try.func17, Try.ntmps17
    go_wp2
    refine bodyPost_ret (v := .tuple #[.agg #[.int .i64 (0), .int .i64 (0)], .int .i64 10]) (by simp only [results, Try.results17]; go_simp) rfl ⟨rfl, (by repeat (first | with_reducible exact Below.refl _ _ | with_reducible refine bdrew ?_ | ((with_reducible first | refine bset ?_ ?_ | refine ball ?_ ?_ | refine bth (by assumption) ?_ ?_); first | omega | (simp <;> omega))))⟩
  · obtain ⟨e1, e2, e3⟩ := ra_n (a := a) c
    rw [e1, e2, e3]
    have OV := hide (rover a b ia ib c)
    have OA := hide (rof a ia)
    have OB := hide (rof b ib)
    clear e1 e2 e3 ia ib
    generalize sL a 4294967296 b = LO at *
    generalize sH a 4294967296 b = HI at *
    go_enter Try.func17, Try.ntmps17
    go_wp2_with fail
    refine (OA.out _).mono ?_
    rintro e w1 ⟨rfl, hb1⟩
    obtain ⟨hc1, hf1⟩ := bcell hb1
    have hz1 := hb1.size
    try simp only [World.size_alloc, World.size_setCell] at hz1
    try have : w.heap.size < w1.heap.size := by omega
    try have : w.heap.size ≤ w1.heap.size := by omega
    have c1_0_0 : w1.cell? ⟨w.heap.size, 0, none⟩ = some (.int .i64 (0)) := by go_simp
    have g1_0_0 : w1.frozen? ⟨w.heap.size, 0, none⟩ = false := by go_simp
    have c1_0_1 : w1.cell? ⟨w.heap.size, 1, none⟩ = some (.int .i64 (0)) := by go_simp
    have g1_0_1 : w1.frozen? ⟨w.heap.size, 1, none⟩ = false := by go_simp
    clear hc1 hf1
    go_wp2_with fail
    refine (OB.out _).mono ?_
    rintro e w2 ⟨rfl, hb2⟩
    obtain ⟨hc2, hf2⟩ := bcell hb2
    have hz2 := hb2.size
    try simp only [World.size_alloc, World.size_setCell] at hz2
    try have : w.heap.size < w2.heap.size := by omega
    try have : w.heap.size ≤ w2.heap.size := by omega
    have c2_0_0 : w2.cell? ⟨w.heap.size, 0, none⟩ = some (.int .i64 (0)) := by go_simp
    have g2_0_0 : w2.frozen? ⟨w.heap.size, 0, none⟩ = false := by go_simp
    have c2_0_1 : w2.cell? ⟨w.heap.size, 1, none⟩ = some (.int .i64 (0)) := by go_simp
    have g2_0_1 : w2.frozen? ⟨w.heap.size, 1, none⟩ = false := by go_simp
    clear hc2 hf2 c1_0_0 g1_0_0 c1_0_1 g1_0_1
    go_wp2_with fail
    refine (OV.out _).mono ?_
    rintro e w3 ⟨rfl, hb3⟩
    obtain ⟨hc3, hf3⟩ := bcell hb3
    have hz3 := hb3.size
    try simp only [World.size_alloc, World.size_setCell] at hz3
    try have : w.heap.size < w3.heap.size := by omega
    try have : w.heap.size < w3.heap.size + 1 := by omega
    try have : w.heap.size < w3.heap.size + 1 + 1 := by omega
    try have : w.heap.size ≤ w3.heap.size := by omega
    have c3_0_0 : w3.cell? ⟨w.heap.size, 0, none⟩ = some (.int .i64 (0)) := by go_simp
    have g3_0_0 : w3.frozen? ⟨w.heap.size, 0, none⟩ = false := by go_simp
    have c3_0_1 : w3.cell? ⟨w.heap.size, 1, none⟩ = some (.int .i64 (0)) := by go_simp
    have g3_0_1 : w3.frozen? ⟨w.heap.size, 1, none⟩ = false := by go_simp
    clear hc3 hf3 c2_0_0 g2_0_0 c2_0_1 g2_0_1
    go_wp2_with fail
    refine (rout LO HI _).mono ?_
    rintro e w4 ⟨rfl, hb4⟩
    obtain ⟨hc4, hf4⟩ := bcell hb4
    have hz4 := hb4.size
    try simp only [World.size_alloc, World.size_setCell] at hz4
    try have : w.heap.size < w4.heap.size := by omega
    try have : w.heap.size ≤ w4.heap.size := by omega
    try have : w3.heap.size < w4.heap.size := by omega
    try have : w3.heap.size ≤ w4.heap.size := by omega
    try have : w3.heap.size + 1 < w4.heap.size := by omega
    try have : w3.heap.size + 1 ≤ w4.heap.size := by omega
    have c4_0_0 : w4.cell? ⟨w.heap.size, 0, none⟩ = some (.int .i64 (0)) := by go_simp
    have g4_0_0 : w4.frozen? ⟨w.heap.size, 0, none⟩ = false := by go_simp
    have c4_0_1 : w4.cell? ⟨w.heap.size, 1, none⟩ = some (.int .i64 (0)) := by go_simp
    have g4_0_1 : w4.frozen? ⟨w.heap.size, 1, none⟩ = false := by go_simp
    have c4_1_0 : w4.cell? ⟨w3.heap.size, 0, none⟩ = some (.int .i64 (wH (LO))) := by go_simp
    have c4_1_1 : w4.cell? ⟨w3.heap.size, 1, none⟩ = some (.int .u64 (wL (LO))) := by go_simp
    have c4_2_0 : w4.cell? ⟨w3.heap.size + 1, 0, none⟩ = some (.int .i64 (wH (HI))) := by go_simp
    have c4_2_1 : w4.cell? ⟨w3.heap.size + 1, 1, none⟩ = some (.int .u64 (wL (HI))) := by go_simp
    clear hc4 hf4 c3_0_0 g3_0_0 c3_0_1 g3_0_1
    go_wp2
    refine bodyPost_ret (v := .tuple #[.agg #[.int .i64 (oLo LO HI), .int .i64 (oHi LO HI)], .int .i64 (oE LO HI)]) (by simp only [results, Try.results17]; go_simp) rfl ⟨rfl, (by repeat (first | with_reducible exact Below.refl _ _ | with_reducible refine bdrew ?_ | ((with_reducible first | refine bset ?_ ?_ | refine ball ?_ ?_ | refine bth (by assumption) ?_ ?_); first | omega | (simp <;> omega))))⟩
theorem ra_one (n : Int) : raL n 1 = oLo (n * 4294967296) (n * 4294967296) ∧ raH n 1 = oHi (n * 4294967296) (n * 4294967296) ∧ raE n 1 = oE (n * 4294967296) (n * 4294967296) := by
  have e : sL n 4294967296 1 = n * 4294967296 := by unfold sL sN ab; rw [if_neg (by omega), if_neg (by omega)]; omega
  have e2 : sH n 4294967296 1 = n * 4294967296 := by unfold sH sN ab cdiv; rw [if_neg (by omega), if_neg (by omega)]; omega
  have := ra_n (a := n) (b := 1) (by omega)
  rw [e, e2] at this
  exact this
theorem rint_any (n : Int) (h : I64 n) (w : World) :
    Calls Try.prog 15 #[.int .i64 n] w fun e w' => e = .returned (.tuple #[.agg #[.int .i64 (raL n 1), .int .i64 (raH n 1)], .int .i64 (raE n 1)]) ∧ Below w.heap.size w w' := by
  obtain ⟨e1, e2, e3⟩ := ra_one n
  rw [e1, e2, e3]
  have OA := hide (rof n h)
  have UP := hide (rup32 n (by obtain ⟨_, _⟩ := h; constructor <;> omega))
  clear h e1 e2 e3
  generalize n * 4294967296 = M at *
  go_enter Try.func15, Try.ntmps15
  go_wp2_with fail
  refine (OA.out _).mono ?_
  rintro e w1 ⟨rfl, hb1⟩
  obtain ⟨hc1, hf1⟩ := bcell hb1
  have hz1 := hb1.size
  try simp only [World.size_alloc, World.size_setCell] at hz1
  try have : w.heap.size < w1.heap.size := by omega
  try have : w.heap.size ≤ w1.heap.size := by omega
  have c1_0_0 : w1.cell? ⟨w.heap.size, 0, none⟩ = some (.int .i64 (0)) := by go_simp
  have g1_0_0 : w1.frozen? ⟨w.heap.size, 0, none⟩ = false := by go_simp
  have c1_0_1 : w1.cell? ⟨w.heap.size, 1, none⟩ = some (.int .i64 (0)) := by go_simp
  have g1_0_1 : w1.frozen? ⟨w.heap.size, 1, none⟩ = false := by go_simp
  clear hc1 hf1
  go_wp2_with fail
  refine (UP.out _).mono ?_
  rintro e w2 ⟨rfl, hb2⟩
  obtain ⟨hc2, hf2⟩ := bcell hb2
  have hz2 := hb2.size
  try simp only [World.size_alloc, World.size_setCell] at hz2
  try have : w.heap.size < w2.heap.size := by omega
  try have : w.heap.size < w2.heap.size + 1 := by omega
  try have : w.heap.size ≤ w2.heap.size := by omega
  have c2_0_0 : w2.cell? ⟨w.heap.size, 0, none⟩ = some (.int .i64 (0)) := by go_simp
  have g2_0_0 : w2.frozen? ⟨w.heap.size, 0, none⟩ = false := by go_simp
  have c2_0_1 : w2.cell? ⟨w.heap.size, 1, none⟩ = some (.int .i64 (0)) := by go_simp
  have g2_0_1 : w2.frozen? ⟨w.heap.size, 1, none⟩ = false := by go_simp
  clear hc2 hf2 c1_0_0 g1_0_0 c1_0_1 g1_0_1
  go_wp2_with fail
  refine (rout M M _).mono ?_
  rintro e w3 ⟨rfl, hb3⟩
  obtain ⟨hc3, hf3⟩ := bcell hb3
  have hz3 := hb3.size
  try simp only [World.size_alloc, World.size_setCell] at hz3
  try have : w.heap.size < w3.heap.size := by omega
  try have : w.heap.size ≤ w3.heap.size := by omega
  try have : w2.heap.size < w3.heap.size := by omega
  try have : w2.heap.size ≤ w3.heap.size := by omega
  have c3_0_0 : w3.cell? ⟨w.heap.size, 0, none⟩ = some (.int .i64 (0)) := by go_simp
  have g3_0_0 : w3.frozen? ⟨w.heap.size, 0, none⟩ = false := by go_simp
  have c3_0_1 : w3.cell? ⟨w.heap.size, 1, none⟩ = some (.int .i64 (0)) := by go_simp
  have g3_0_1 : w3.frozen? ⟨w.heap.size, 1, none⟩ = false := by go_simp
  have c3_1_0 : w3.cell? ⟨w2.heap.size, 0, none⟩ = some (.int .i64 (wH (M))) := by go_simp
  have c3_1_1 : w3.cell? ⟨w2.heap.size, 1, none⟩ = some (.int .u64 (wL (M))) := by go_simp
  clear hc3 hf3 c2_0_0 g2_0_0 c2_0_1 g2_0_1
  go_wp2
  refine bodyPost_ret (v := .tuple #[.agg #[.int .i64 (oLo M M), .int .i64 (oHi M M)], .int .i64 (oE M M)]) (by simp only [results, Try.results15]; go_simp) rfl ⟨rfl, (by repeat (first | with_reducible exact Below.refl _ _ | with_reducible refine bdrew ?_ | ((with_reducible first | refine bset ?_ ?_ | refine ball ?_ ?_ | refine bth (by assumption) ?_ ?_); first | omega | (simp <;> omega))))⟩
end Go.Proofs.Ytbfbnmmgmkbieaa
