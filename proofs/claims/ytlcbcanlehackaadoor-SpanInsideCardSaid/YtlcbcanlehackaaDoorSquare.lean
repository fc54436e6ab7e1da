/- Squares of spans, on both sides. -/
import Derived.Test.YtlcbcanlehackaaDoorAbs
import Derived.Test.YtlcbcanlehackaaDoorRMul2
set_option linter.unusedVariables false
set_option linter.unusedSimpArgs false
namespace Go.Proofs.YtlcbcanlehackaaDoor
open Go.RowKit
def sqL (a b : Int) : Int := mi (sL a a 4294967296) (sL b b 4294967296)
def sqH (a b : Int) : Int := mx (sH a a 4294967296) (sH b b 4294967296)
theorem abs_facts {al ah : Int} (i0 : I64 al) (i1 : I64 ah) (v : vB al ah = true) : 0 ≤ absL al ah ∧ absL al ah ≤ absH al ah ∧ absH al ah ≤ 9223372036854775807 := by
  obtain ⟨v1, v2⟩ := vB_tt v
  have := i1.2
  unfold absL absH mx
  split
  · omega
  · split
    · omega
    · split <;> omega
theorem sq_mono {a b : Int} (h0 : 0 ≤ a) (h1 : a ≤ b) : mi (mL a a b) (mL b a b) = sqL a b ∧ mx (mH a a b) (mH b a b) = sqH a b := by
  have p1 : a * a ≤ a * b := Int.mul_le_mul_of_nonneg_left h1 h0
  have p2 : a * b ≤ b * b := Int.mul_le_mul_of_nonneg_right h1 (by omega)
  unfold mL mH sqL sqH
  rw [(share_b a a).1, (share_b a b).1, (share_b b a).1, (share_b b b).1, (share_b a a).2, (share_b a b).2, (share_b b a).2, (share_b b b).2, Int.mul_comm b a]
  generalize a * a = p at *
  generalize a * b = q at *
  generalize b * b = r at *
  have d1 : p / 4294967296 ≤ q / 4294967296 := by omega
  have d2 : q / 4294967296 ≤ r / 4294967296 := by omega
  have d3 : cdiv p 4294967296 ≤ cdiv q 4294967296 := by unfold cdiv; omega
  have d4 : cdiv q 4294967296 ≤ cdiv r 4294967296 := by unfold cdiv; omega
  generalize cdiv p 4294967296 = p' at *
  generalize cdiv q 4294967296 = q' at *
  generalize cdiv r 4294967296 = r' at *
  generalize p / 4294967296 = p'' at *
  generalize q / 4294967296 = q'' at *
  generalize r / 4294967296 = r'' at *
  unfold mi mx
  constructor <;> (repeat split) <;> omega
theorem sq_at (x : Int) (ix : I64 x) : Answers (fun _ => True) 63 #[] x (oLo (sL x x 4294967296) (sH x x 4294967296)) (oHi (sL x x 4294967296) (sH x x 4294967296)) (oE (sL x x 4294967296) (sH x x 4294967296)) := by
  intro w _
  have SH := hide (product_any x x ix ix)
  clear ix
  generalize sL x x 4294967296 = LO at *
  generalize sH x x 4294967296 = HI at *
  change Calls Tryd.prog 63 #[.int .i64 x] w _
  go_enter Tryd.func63, Tryd.ntmps63
  go_wp2_with fail
  refine (SH.out _).mono ?_
  rintro e w1 ⟨rfl, hb1⟩
  obtain ⟨hc1, hf1⟩ := bcell hb1
  have hz1 := hb1.size
  try simp only [World.size_alloc, World.size_setCell] at hz1
  try have : w.heap.size < w1.heap.size := by omega
  try have : w.heap.size ≤ w1.heap.size := by omega
  have c1_0_0 : w1.cell? ⟨w.heap.size, 0, none⟩ = some (.int .i64 (0)) := by go_simp
  have g1_0_0 : w1.frozen? ⟨w.heap.size, 0, none⟩ = false := by go_simp
  have c1_0_1 : w1.cell? ⟨w.heap.size, 1, none⟩ = some (.int .i64 (0)) := by go_simp
  have g1_0_1 : w1.frozen? ⟨w.heap.size, 1, none⟩ = false := by go_simp
  clear hc1 hf1
  go_wp2
  refine bodyPost_ret (v := .tuple #[.agg #[.int .i64 (oLo LO HI), .int .i64 (oHi LO HI)], .int .i64 (oE LO HI)]) (by simp only [results, Tryd.results63]; go_simp) rfl ⟨rfl, (by repeat (first | with_reducible exact Below.refl _ _ | with_reducible refine bdrew ?_ | ((with_reducible first | refine bset ?_ ?_ | refine ball ?_ ?_ | refine bth (by assumption) ?_ ?_); first | omega | (simp <;> omega))))⟩
theorem square_any (al ah : Int) (i0 : I64 al) (i1 : I64 ah) (w : World) :
    Calls Tryd.prog 20 #[.agg #[.int .i64 (al), .int .i64 (ah)]] w fun e w' => e = .returned (.tuple #[.agg #[.int .i64 (okI (vB al ah) (oLo (sqL (absL al ah) (absH al ah)) (sqH (absL al ah) (absH al ah)))), .int .i64 (okI (vB al ah) (oHi (sqL (absL al ah) (absH al ah)) (sqH (absL al ah) (absH al ah))))], .int .i64 (errE (vB al ah) (oE (sqL (absL al ah) (absH al ah)) (sqH (absL al ah) (absH al ah))))]) ∧ Below w.heap.size w w' := by
  have AB := abs_any al ah i0 i1
  cases hv : vB al ah
  · rw [hv] at AB
    simp only [ok_f, err_f] at AB ⊢
    have AB' := hide AB
    clear AB hv i0 i1
    go_enter Tryd.func20, Tryd.ntmps20
    go_wp2_with fail
    refine (AB'.out _).mono ?_
    rintro e w1 ⟨rfl, hb1⟩
    obtain ⟨hc1, hf1⟩ := bcell hb1
    have hz1 := hb1.size
    try simp only [World.size_alloc, World.size_setCell] at hz1
    try have : w.heap.size < w1.heap.size := by omega
    try have : w.heap.size ≤ w1.heap.size := by omega
    try have : w.heap.size + 1 < w1.heap.size := by omega
    try have : w.heap.size + 1 ≤ w1.heap.size := by omega
    have c1_0_0 : w1.cell? ⟨w.heap.size, 0, none⟩ = some (.int .i64 (al)) := by go_simp
    have c1_0_1 : w1.cell? ⟨w.heap.size, 1, none⟩ = some (.int .i64 (ah)) := by go_simp
    have c1_1_0 : w1.cell? ⟨w.heap.size + 1, 0, none⟩ = some (.int .i64 (0)) := by go_simp
    have g1_1_0 : w1.frozen? ⟨w.heap.size + 1, 0, none⟩ = false := by go_simp
    have c1_1_1 : w1.cell? ⟨w.heap.size + 1, 1, none⟩ = some (.int .i64 (0)) := by go_simp
    have g1_1_1 : w1.frozen? ⟨w.heap.size + 1, 1, none⟩ = false := by go_simp
    clear hc1 hf1
    go_wp2
    refine bodyPost_ret (v := .tuple #[.agg #[.int .i64 (0), .int .i64 (0)], .int .i64 2]) (by simp only [results, Tryd.results20]; go_simp) rfl ⟨rfl, (by repeat (first | with_reducible exact Below.refl _ _ | with_reducible refine bdrew ?_ | ((with_reducible first | refine bset ?_ ?_ | refine ball ?_ ?_ | refine bth (by assumption) ?_ ?_); first | omega | (simp <;> omega))))⟩
  · obtain ⟨f0, f1, f2⟩ := abs_facts i0 i1 hv
    rw [hv] at AB
    simp only [ok_t, err_t] at AB ⊢
    have AB' := hide AB
    clear AB hv i0 i1
    generalize absL al ah = a at *
    generalize absH al ah = b at *
    have E := hide (en_out2 (sL a a 4294967296) (sH a a 4294967296) (sL b b 4294967296) (sH b b 4294967296) (a == b) (share_le _ _ _ (by omega)) (share_le _ _ _ (by omega)) (fun h => by rw [eq_of_beq h]; exact ⟨rfl, rfl⟩))
    have hent : ∀ args w, (callFunc 63 args).run Tryd.prog w = .ok (.enter 63 args) w := enters_of Tryd.func63 (by kernel_rfl) rfl
    have EN := hide (fun w => ends_0 (fun _ => True) ⟨fun _ _ => trivial⟩ 63 hent a b _ _ _ _ _ _ (sq_at a ⟨by omega, by omega⟩) (sq_at b ⟨by omega, by omega⟩) w trivial)
    unfold sqL sqH
    rw [← E.out.1, ← E.out.2.1, ← E.out.2.2]
    clear hent E f0 f1 f2
    generalize enL (oLo (sL a a 4294967296) (sH a a 4294967296)) (oE (sL a a 4294967296) (sH a a 4294967296)) (oLo (sL b b 4294967296) (sH b b 4294967296)) (oE (sL b b 4294967296) (sH b b 4294967296)) (a == b) = rl at *
    generalize enH (oHi (sL a a 4294967296) (sH a a 4294967296)) (oE (sL a a 4294967296) (sH a a 4294967296)) (oHi (sL b b 4294967296) (sH b b 4294967296)) (oE (sL b b 4294967296) (sH b b 4294967296)) (a == b) = rh at *
    generalize enE (oE (sL a a 4294967296) (sH a a 4294967296)) (oE (sL b b 4294967296) (sH b b 4294967296)) (a == b) = re at *
    go_enter Tryd.func20, Tryd.ntmps20
    go_wp2_with fail
    refine (AB'.out _).mono ?_
    rintro e w1 ⟨rfl, hb1⟩
    obtain ⟨hc1, hf1⟩ := bcell hb1
    have hz1 := hb1.size
    try simp only [World.size_alloc, World.size_setCell] at hz1
    try have : w.heap.size < w1.heap.size := by omega
    try have : w.heap.size < w1.heap.size + 1 := by omega
    try have : w.heap.size ≤ w1.heap.size := by omega
    try have : w.heap.size + 1 < w1.heap.size := by omega
    try have : w.heap.size + 1 < w1.heap.size + 1 := by omega
    try have : w.heap.size + 1 ≤ w1.heap.size := by omega
    have c1_0_0 : w1.cell? ⟨w.heap.size, 0, none⟩ = some (.int .i64 (al)) := by go_simp
    have c1_0_1 : w1.cell? ⟨w.heap.size, 1, none⟩ = some (.int .i64 (ah)) := by go_simp
    have c1_1_0 : w1.cell? ⟨w.heap.size + 1, 0, none⟩ = some (.int .i64 (0)) := by go_simp
    have g1_1_0 : w1.frozen? ⟨w.heap.size + 1, 0, none⟩ = false := by go_simp
    have c1_1_1 : w1.cell? ⟨w.heap.size + 1, 1, none⟩ = some (.int .i64 (0)) := by go_simp
    have g1_1_1 : w1.frozen? ⟨w.heap.size + 1, 1, none⟩ = false := by go_simp
    clear hc1 hf1
    go_wp2_with fail
    refine (EN.out _).mono ?_
    rintro e w2 ⟨rfl, hb2⟩
    obtain ⟨hc2, hf2⟩ := bcell hb2
    have hz2 := hb2.size
    try simp only [World.size_alloc, World.size_setCell] at hz2
    try have : w.heap.size < w2.heap.size := by omega
    try have : w.heap.size ≤ w2.heap.size := by omega
    try have : w.heap.size + 1 < w2.heap.size := by omega
    try have : w.heap.size + 1 ≤ w2.heap.size := by omega
    try have : w1.heap.size < w2.heap.size := by omega
    try have : w1.heap.size ≤ w2.heap.size := by omega
    have c2_0_0 : w2.cell? ⟨w.heap.size, 0, none⟩ = some (.int .i64 (al)) := by go_simp
    have c2_0_1 : w2.cell? ⟨w.heap.size, 1, none⟩ = some (.int .i64 (ah)) := by go_simp
    have c2_1_0 : w2.cell? ⟨w.heap.size + 1, 0, none⟩ = some (.int .i64 (0)) := by go_simp
    have g2_1_0 : w2.frozen? ⟨w.heap.size + 1, 0, none⟩ = false := by go_simp
    have c2_1_1 : w2.cell? ⟨w.heap.size + 1, 1, none⟩ = some (.int .i64 (0)) := by go_simp
    have g2_1_1 : w2.frozen? ⟨w.heap.size + 1, 1, none⟩ = false := by go_simp
    have c2_2_0 : w2.cell? ⟨w1.heap.size, 0, none⟩ = some (.int .i64 (a)) := by go_simp
    have c2_2_1 : w2.cell? ⟨w1.heap.size, 1, none⟩ = some (.int .i64 (b)) := by go_simp
    clear hc2 hf2 c1_0_0 c1_0_1 c1_1_0 g1_1_0 c1_1_1 g1_1_1
    go_wp2
    refine bodyPost_ret (v := .tuple #[.agg #[.int .i64 (rl), .int .i64 (rh)], .int .i64 re]) (by simp only [results, Tryd.results20]; go_simp) rfl ⟨rfl, (by repeat (first | with_reducible exact Below.refl _ _ | with_reducible refine bdrew ?_ | ((with_reducible first | refine bset ?_ ?_ | refine ball ?_ ?_ | refine bth (by assumption) ?_ ?_); first | omega | (simp <;> omega))))⟩
end Go.Proofs.YtlcbcanlehackaaDoor
