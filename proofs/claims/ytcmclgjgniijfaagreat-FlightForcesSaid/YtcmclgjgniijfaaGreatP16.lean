/- Packed: Square TurnM Makes RTurn RDivM. -/
import Derived.Test.YtcmclgjgniijfaaGreatP9
import Derived.Test.YtcmclgjgniijfaaGreatP12
import Derived.Test.YtcmclgjgniijfaaGreatP13
import Derived.Test.YtcmclgjgniijfaaGreatP15
set_option linter.unusedVariables false
set_option linter.unusedSimpArgs false
section
namespace Go.Proofs.YtcmclgjgniijfaaGreat
open Go.RowKit
def sqL (a b : Int) : Int := mi (sL a a 4294967296) (sL b b 4294967296)
def sqH (a b : Int) : Int := mx (sH a a 4294967296) (sH b b 4294967296)
theorem abs_facts {al ah : Int} (i0 : I64 al) (i1 : I64 ah) (v : vB al ah = true) : 0 ≤ absL al ah ∧ absL al ah ≤ absH al ah ∧ absH al ah ≤ 9223372036854775807 := by
 obtain ⟨v1, v2⟩ := vB_tt v
 have := i1.2
 unfold absL absH mx
 split
 ·omega
 ·split
  ·omega
  ·split <;> omega
theorem sq_mono {a b : Int} (h0 : 0 ≤ a) (h1 : a ≤ b) : mi (mL a a b) (mL b a b) = sqL a b ∧ mx (mH a a b) (mH b a b) = sqH a b := by
 have p1 : a * a ≤ a * b := Int.mul_le_mul_of_nonneg_left h1 h0
 have p2 : a * b ≤ b * b := Int.mul_le_mul_of_nonneg_right h1 (by omega)
 unfold mL mH sqL sqH
 rw [(share_b a a).1, (share_b a b).1, (share_b b a).1, (share_b b b).1, (share_b a a).2, (share_b a b).2, (share_b b a).2, (share_b b b).2, Int.mul_comm b a]
 generalize a * a = p at *
 generalize a * b = q at *
 generalize b * b = r at *
 have d1 : p / 4294967296 ≤ q / 4294967296 := by omega
 have d2 : q / 4294967296 ≤ r / 4294967296 := by omega
 have d3 : cdiv p 4294967296 ≤ cdiv q 4294967296 := by unfold cdiv; omega
 have d4 : cdiv q 4294967296 ≤ cdiv r 4294967296 := by unfold cdiv; omega
 generalize cdiv p 4294967296 = p' at *
 generalize cdiv q 4294967296 = q' at *
 generalize cdiv r 4294967296 = r' at *
 generalize p / 4294967296 = p'' at *
 generalize q / 4294967296 = q'' at *
 generalize r / 4294967296 = r'' at *
 unfold mi mx
 constructor <;> (repeat split) <;> omega
theorem sq_at (x : Int) (ix : I64 x) : Answers (fun _ => True) 177 #[] x (oLo (sL x x 4294967296) (sH x x 4294967296)) (oHi (sL x x 4294967296) (sH x x 4294967296)) (oE (sL x x 4294967296) (sH x x 4294967296)) := by
 intro w _
 have SH := hide (product_any x x ix ix)
 clear ix
 generalize sL x x 4294967296 = LO at *
 generalize sH x x 4294967296 = HI at *
 change Calls Tryz.prog 177 #[.int .i64 x] w _
 go_enter Tryz.func177, Tryz.ntmps177
 go_wp2_with fail
 refine (SH.out _).mono ?_
 rintro e w1 ⟨rfl, hb1⟩
 obtain ⟨hc1, hf1⟩ := bcell hb1
 have hz1 := hb1.size
 try simp only [World.size_alloc, World.size_setCell] at hz1
 try have : w.heap.size < w1.heap.size := by omega
 try have : w.heap.size ≤ w1.heap.size := by omega
 have c1_0_0 : w1.cell? ⟨w.heap.size, 0, none⟩ = some (.int .i64 (0)) := by go_simp
 have g1_0_0 : w1.frozen? ⟨w.heap.size, 0, none⟩ = false := by go_simp
 have c1_0_1 : w1.cell? ⟨w.heap.size, 1, none⟩ = some (.int .i64 (0)) := by go_simp
 have g1_0_1 : w1.frozen? ⟨w.heap.size, 1, none⟩ = false := by go_simp
 clear hc1 hf1
 go_wp2
 refine bodyPost_ret (v := .tuple #[.agg #[.int .i64 (oLo LO HI), .int .i64 (oHi LO HI)], .int .i64 (oE LO HI)]) (by simp only [results, Tryz.results177]; go_simp) rfl ⟨rfl, blw_⟩
theorem square_any (al ah : Int) (i0 : I64 al) (i1 : I64 ah) (w : World) :
  Calls Tryz.prog 133 #[.agg #[.int .i64 (al), .int .i64 (ah)]] w fun e w' => e = .returned (.tuple #[.agg #[.int .i64 (okI (vB al ah) (oLo (sqL (absL al ah) (absH al ah)) (sqH (absL al ah) (absH al ah)))), .int .i64 (okI (vB al ah) (oHi (sqL (absL al ah) (absH al ah)) (sqH (absL al ah) (absH al ah))))], .int .i64 (errE (vB al ah) (oE (sqL (absL al ah) (absH al ah)) (sqH (absL al ah) (absH al ah))))]) ∧ Below w.heap.size w w' := by
 have AB := abs_any al ah i0 i1
 cases hv : vB al ah
 ·rw [hv] at AB
  simp only [ok_f, err_f] at AB ⊢
  have AB' := hide AB
  clear AB hv i0 i1
  go_enter Tryz.func133, Tryz.ntmps133
  go_wp2_with fail
  refine (AB'.out _).mono ?_
  rintro e w1 ⟨rfl, hb1⟩
  obtain ⟨hc1, hf1⟩ := bcell hb1
  have hz1 := hb1.size
  try simp only [World.size_alloc, World.size_setCell] at hz1
  try have : w.heap.size < w1.heap.size := by omega
  try have : w.heap.size ≤ w1.heap.size := by omega
  try have : w.heap.size + 1 < w1.heap.size := by omega
  try have : w.heap.size + 1 ≤ w1.heap.size := by omega
  have c1_0_0 : w1.cell? ⟨w.heap.size, 0, none⟩ = some (.int .i64 (al)) := by go_simp
  have c1_0_1 : w1.cell? ⟨w.heap.size, 1, none⟩ = some (.int .i64 (ah)) := by go_simp
  have c1_1_0 : w1.cell? ⟨w.heap.size + 1, 0, none⟩ = some (.int .i64 (0)) := by go_simp
  have g1_1_0 : w1.frozen? ⟨w.heap.size + 1, 0, none⟩ = false := by go_simp
  have c1_1_1 : w1.cell? ⟨w.heap.size + 1, 1, none⟩ = some (.int .i64 (0)) := by go_simp
  have g1_1_1 : w1.frozen? ⟨w.heap.size + 1, 1, none⟩ = false := by go_simp
  clear hc1 hf1
  go_wp2
  refine bodyPost_ret (v := .tuple #[.agg #[.int .i64 (0), .int .i64 (0)], .int .i64 2]) (by simp only [results, Tryz.results133]; go_simp) rfl ⟨rfl, blw_⟩
 ·obtain ⟨f0, f1, f2⟩ := abs_facts i0 i1 hv
  rw [hv] at AB
  simp only [ok_t, err_t] at AB ⊢
  have AB' := hide AB
  clear AB hv i0 i1
  generalize absL al ah = a at *
  generalize absH al ah = b at *
  have E := hide (en_out2 (sL a a 4294967296) (sH a a 4294967296) (sL b b 4294967296) (sH b b 4294967296) (a == b) (share_le _ _ _ (by omega)) (share_le _ _ _ (by omega)) (fun h => by rw [eq_of_beq h]; exact ⟨rfl, rfl⟩))
  have hent : ∀ args w, (callFunc 177 args).run Tryz.prog w = .ok (.enter 177 args) w := enters_of Tryz.func177 (by kernel_rfl) rfl
  have EN := hide (fun w => ends_0 (fun _ => True) ⟨fun _ _ => trivial⟩ 177 hent a b _ _ _ _ _ _ (sq_at a ⟨by omega, by omega⟩) (sq_at b ⟨by omega, by omega⟩) w trivial)
  unfold sqL sqH
  rw [← E.out.1, ← E.out.2.1, ← E.out.2.2]
  clear hent E f0 f1 f2
  generalize enL (oLo (sL a a 4294967296) (sH a a 4294967296)) (oE (sL a a 4294967296) (sH a a 4294967296)) (oLo (sL b b 4294967296) (sH b b 4294967296)) (oE (sL b b 4294967296) (sH b b 4294967296)) (a == b) = rl at *
  generalize enH (oHi (sL a a 4294967296) (sH a a 4294967296)) (oE (sL a a 4294967296) (sH a a 4294967296)) (oHi (sL b b 4294967296) (sH b b 4294967296)) (oE (sL b b 4294967296) (sH b b 4294967296)) (a == b) = rh at *
  generalize enE (oE (sL a a 4294967296) (sH a a 4294967296)) (oE (sL b b 4294967296) (sH b b 4294967296)) (a == b) = re at *
  go_enter Tryz.func133, Tryz.ntmps133
  go_wp2_with fail
  refine (AB'.out _).mono ?_
  rintro e w1 ⟨rfl, hb1⟩
  obtain ⟨hc1, hf1⟩ := bcell hb1
  have hz1 := hb1.size
  try simp only [World.size_alloc, World.size_setCell] at hz1
  try have : w.heap.size < w1.heap.size := by omega
  try have : w.heap.size < w1.heap.size + 1 := by omega
  try have : w.heap.size ≤ w1.heap.size := by omega
  try have : w.heap.size + 1 < w1.heap.size := by omega
  try have : w.heap.size + 1 < w1.heap.size + 1 := by omega
  try have : w.heap.size + 1 ≤ w1.heap.size := by omega
  have c1_0_0 : w1.cell? ⟨w.heap.size, 0, none⟩ = some (.int .i64 (al)) := by go_simp
  have c1_0_1 : w1.cell? ⟨w.heap.size, 1, none⟩ = some (.int .i64 (ah)) := by go_simp
  have c1_1_0 : w1.cell? ⟨w.heap.size + 1, 0, none⟩ = some (.int .i64 (0)) := by go_simp
  have g1_1_0 : w1.frozen? ⟨w.heap.size + 1, 0, none⟩ = false := by go_simp
  have c1_1_1 : w1.cell? ⟨w.heap.size + 1, 1, none⟩ = some (.int .i64 (0)) := by go_simp
  have g1_1_1 : w1.frozen? ⟨w.heap.size + 1, 1, none⟩ = false := by go_simp
  clear hc1 hf1
  go_wp2_with fail
  refine (EN.out _).mono ?_
  rintro e w2 ⟨rfl, hb2⟩
  obtain ⟨hc2, hf2⟩ := bcell hb2
  have hz2 := hb2.size
  try simp only [World.size_alloc, World.size_setCell] at hz2
  try have : w.heap.size < w2.heap.size := by omega
  try have : w.heap.size ≤ w2.heap.size := by omega
  try have : w.heap.size + 1 < w2.heap.size := by omega
  try have : w.heap.size + 1 ≤ w2.heap.size := by omega
  try have : w1.heap.size < w2.heap.size := by omega
  try have : w1.heap.size ≤ w2.heap.size := by omega
  have c2_0_0 : w2.cell? ⟨w.heap.size, 0, none⟩ = some (.int .i64 (al)) := by go_simp
  have c2_0_1 : w2.cell? ⟨w.heap.size, 1, none⟩ = some (.int .i64 (ah)) := by go_simp
  have c2_1_0 : w2.cell? ⟨w.heap.size + 1, 0, none⟩ = some (.int .i64 (0)) := by go_simp
  have g2_1_0 : w2.frozen? ⟨w.heap.size + 1, 0, none⟩ = false := by go_simp
  have c2_1_1 : w2.cell? ⟨w.heap.size + 1, 1, none⟩ = some (.int .i64 (0)) := by go_simp
  have g2_1_1 : w2.frozen? ⟨w.heap.size + 1, 1, none⟩ = false := by go_simp
  have c2_2_0 : w2.cell? ⟨w1.heap.size, 0, none⟩ = some (.int .i64 (a)) := by go_simp
  have c2_2_1 : w2.cell? ⟨w1.heap.size, 1, none⟩ = some (.int .i64 (b)) := by go_simp
  clear hc2 hf2 c1_0_0 c1_0_1 c1_1_0 g1_1_0 c1_1_1 g1_1_1
  go_wp2
  refine bodyPost_ret (v := .tuple #[.agg #[.int .i64 (rl), .int .i64 (rh)], .int .i64 re]) (by simp only [results, Tryz.results133]; go_simp) rfl ⟨rfl, blw_⟩
theorem rsquare_any (al ah : Int) (i0 : I64 al) (i1 : I64 ah) (w : World) :
  Calls Tryz.prog 137 #[.agg #[.int .i64 (al), .int .i64 (ah)]] w fun e w' => e = .returned (.tuple #[.agg #[.int .i64 (okI (vB al ah) (oLo (sqL (absL al ah) (absH al ah)) (sqH (absL al ah) (absH al ah)))), .int .i64 (okI (vB al ah) (oHi (sqL (absL al ah) (absH al ah)) (sqH (absL al ah) (absH al ah))))], .int .i64 (errE (vB al ah) (oE (sqL (absL al ah) (absH al ah)) (sqH (absL al ah) (absH al ah))))]) ∧ Below w.heap.size w w' := by
 have AB := rabs_any al ah i0 i1
 cases hv : vB al ah
 ·rw [hv] at AB
  simp only [ok_f, err_f] at AB ⊢
  have AB' := hide AB
  clear AB hv i0 i1
  go_enter Tryz.func137, Tryz.ntmps137
  go_wp2_with fail
  refine (AB'.out _).mono ?_
  rintro e w1 ⟨rfl, hb1⟩
  obtain ⟨hc1, hf1⟩ := bcell hb1
  have hz1 := hb1.size
  try simp only [World.size_alloc, World.size_setCell] at hz1
  try have : w.heap.size < w1.heap.size := by omega
  try have : w.heap.size ≤ w1.heap.size := by omega
  try have : w.heap.size + 1 < w1.heap.size := by omega
  try have : w.heap.size + 1 ≤ w1.heap.size := by omega
  have c1_0_0 : w1.cell? ⟨w.heap.size, 0, none⟩ = some (.int .i64 (al)) := by go_simp
  have c1_0_1 : w1.cell? ⟨w.heap.size, 1, none⟩ = some (.int .i64 (ah)) := by go_simp
  have c1_1_0 : w1.cell? ⟨w.heap.size + 1, 0, none⟩ = some (.int .i64 (0)) := by go_simp
  have g1_1_0 : w1.frozen? ⟨w.heap.size + 1, 0, none⟩ = false := by go_simp
  have c1_1_1 : w1.cell? ⟨w.heap.size + 1, 1, none⟩ = some (.int .i64 (0)) := by go_simp
  have g1_1_1 : w1.frozen? ⟨w.heap.size + 1, 1, none⟩ = false := by go_simp
  clear hc1 hf1
  go_wp2
  refine bodyPost_ret (v := .tuple #[.agg #[.int .i64 (0), .int .i64 (0)], .int .i64 2]) (by simp only [results, Tryz.results137]; go_simp) rfl ⟨rfl, blw_⟩
 ·obtain ⟨f0, f1, f2⟩ := abs_facts i0 i1 hv
  rw [hv] at AB
  simp only [ok_t, err_t] at AB ⊢
  have AB' := hide AB
  clear AB hv i0 i1
  generalize absL al ah = a at *
  generalize absH al ah = b at *
  have M := rmul_any a b a b ⟨by omega, by omega⟩ ⟨by omega, by omega⟩ ⟨by omega, by omega⟩ ⟨by omega, by omega⟩
  have hab : vB a b = true := vB_t (by omega) f1
  obtain ⟨m1, m2⟩ := sq_mono f0 f1
  rw [hab, m1, m2] at M
  simp only [Bool.and_self, ok_t, err_t] at M
  have M' := hide M
  clear M hab m1 m2 f0 f1 f2
  generalize sqL a b = LO at *
  generalize sqH a b = HI at *
  generalize oLo LO HI = rl at *
  generalize oHi LO HI = rh at *
  generalize oE LO HI = re at *
  go_enter Tryz.func137, Tryz.ntmps137
  go_wp2_with fail
  refine (AB'.out _).mono ?_
  rintro e w1 ⟨rfl, hb1⟩
  obtain ⟨hc1, hf1⟩ := bcell hb1
  have hz1 := hb1.size
  try simp only [World.size_alloc, World.size_setCell] at hz1
  try have : w.heap.size < w1.heap.size := by omega
  try have : w.heap.size < w1.heap.size + 1 := by omega
  try have : w.heap.size ≤ w1.heap.size := by omega
  try have : w.heap.size + 1 < w1.heap.size := by omega
  try have : w.heap.size + 1 < w1.heap.size + 1 := by omega
  try have : w.heap.size + 1 ≤ w1.heap.size := by omega
  have c1_0_0 : w1.cell? ⟨w.heap.size, 0, none⟩ = some (.int .i64 (al)) := by go_simp
  have c1_0_1 : w1.cell? ⟨w.heap.size, 1, none⟩ = some (.int .i64 (ah)) := by go_simp
  have c1_1_0 : w1.cell? ⟨w.heap.size + 1, 0, none⟩ = some (.int .i64 (0)) := by go_simp
  have g1_1_0 : w1.frozen? ⟨w.heap.size + 1, 0, none⟩ = false := by go_simp
  have c1_1_1 : w1.cell? ⟨w.heap.size + 1, 1, none⟩ = some (.int .i64 (0)) := by go_simp
  have g1_1_1 : w1.frozen? ⟨w.heap.size + 1, 1, none⟩ = false := by go_simp
  clear hc1 hf1
  go_wp2_with fail
  refine (M'.out _).mono ?_
  rintro e w2 ⟨rfl, hb2⟩
  obtain ⟨hc2, hf2⟩ := bcell hb2
  have hz2 := hb2.size
  try simp only [World.size_alloc, World.size_setCell] at hz2
  try have : w.heap.size < w2.heap.size := by omega
  try have : w.heap.size ≤ w2.heap.size := by omega
  try have : w.heap.size + 1 < w2.heap.size := by omega
  try have : w.heap.size + 1 ≤ w2.heap.size := by omega
  try have : w1.heap.size < w2.heap.size := by omega
  try have : w1.heap.size ≤ w2.heap.size := by omega
  have c2_0_0 : w2.cell? ⟨w.heap.size, 0, none⟩ = some (.int .i64 (al)) := by go_simp
  have c2_0_1 : w2.cell? ⟨w.heap.size, 1, none⟩ = some (.int .i64 (ah)) := by go_simp
  have c2_1_0 : w2.cell? ⟨w.heap.size + 1, 0, none⟩ = some (.int .i64 (0)) := by go_simp
  have g2_1_0 : w2.frozen? ⟨w.heap.size + 1, 0, none⟩ = false := by go_simp
  have c2_1_1 : w2.cell? ⟨w.heap.size + 1, 1, none⟩ = some (.int .i64 (0)) := by go_simp
  have g2_1_1 : w2.frozen? ⟨w.heap.size + 1, 1, none⟩ = false := by go_simp
  have c2_2_0 : w2.cell? ⟨w1.heap.size, 0, none⟩ = some (.int .i64 (a)) := by go_simp
  have c2_2_1 : w2.cell? ⟨w1.heap.size, 1, none⟩ = some (.int .i64 (b)) := by go_simp
  clear hc2 hf2 c1_0_0 c1_0_1 c1_1_0 g1_1_0 c1_1_1 g1_1_1
  go_wp2
  refine bodyPost_ret (v := .tuple #[.agg #[.int .i64 (rl), .int .i64 (rh)], .int .i64 re]) (by simp only [results, Tryz.results137]; go_simp) rfl ⟨rfl, blw_⟩
end Go.Proofs.YtcmclgjgniijfaaGreat
end
section
namespace Go.Proofs.YtcmclgjgniijfaaGreat
open Go.RowKit
end Go.Proofs.YtcmclgjgniijfaaGreat
end
section
namespace Go.Proofs.YtcmclgjgniijfaaGreat
open Go.RowKit
theorem rover (x y : Int) (hx : I64 x) (hy : I64 y) (h : ¬ y = 0) (w : World) :
  Calls Tryz.prog 189 #[.agg #[.int .i64 (wH (x)), .int .u64 (wL (x))], .agg #[.int .i64 (wH (y)), .int .u64 (wL (y))]] w fun e w' => e = .returned (.tuple #[.agg #[.int .i64 (wH (sL x 4294967296 y)), .int .u64 (wL (sL x 4294967296 y))], .agg #[.int .i64 (wH (sH x 4294967296 y)), .int .u64 (wL (sH x 4294967296 y))]]) ∧ Below w.heap.size w w' := by
 by_cases c : 0 < y
 ·have e1 : sL x 4294967296 y = x * 4294967296 / y := by unfold sL sN ab; rw [if_neg (by omega), if_neg (by omega)]
  have e2 : sH x 4294967296 y = cdiv (x * 4294967296) y := by unfold sH sN ab; rw [if_neg (by omega), if_neg (by omega)]
  rw [e1, e2]
  exact rover_p x y hx hy c w
 ·have e1 : sL x 4294967296 y = -x * 4294967296 / -y := by unfold sL sN ab; rw [if_pos (by omega), if_pos (by omega), Int.neg_mul]
  have e2 : sH x 4294967296 y = cdiv (-x * 4294967296) (-y) := by unfold sH sN ab; rw [if_pos (by omega), if_pos (by omega), Int.neg_mul]
  rw [e1, e2]
  exact rover_n x y hx hy (by omega) w
end Go.Proofs.YtcmclgjgniijfaaGreat
end
section
namespace Go.Proofs.YtcmclgjgniijfaaGreat
open Go.RowKit
theorem rceil (a b : Int) (ka : -85070591730234615865843651857942052864 < a ∧ a < 85070591730234615865843651857942052864) (kb : 0 < b) (kb2 : b < 85070591730234615865843651857942052864) (w : World) :
  Calls Tryz.prog 209 #[.agg #[.int .i64 (wH (a)), .int .u64 (wL (a))], .agg #[.int .i64 (wH (b)), .int .u64 (wL (b))]] w fun e w' => e = .returned (.agg #[.int .i64 (wH (cdiv a b)), .int .u64 (wL (cdiv a b))]) ∧ Below w.heap.size w w' := by
 go_enter Tryz.func209, Tryz.ntmps209
 go_wp2_with fail
 refine (rquot a b ka kb kb2 _).mono ?_
 rintro e w1 ⟨rfl, hb1⟩
 obtain ⟨hc1, hf1⟩ := bcell hb1
 have hz1 := hb1.size
 try simp only [World.size_alloc, World.size_setCell] at hz1
 try have : w.heap.size < w1.heap.size := by omega
 try have : w.heap.size < w1.heap.size + 1 := by omega
 try have : w.heap.size < w1.heap.size + 1 + 1 := by omega
 try have : w.heap.size ≤ w1.heap.size := by omega
 try have : w.heap.size + 1 < w1.heap.size := by omega
 try have : w.heap.size + 1 < w1.heap.size + 1 := by omega
 try have : w.heap.size + 1 < w1.heap.size + 1 + 1 := by omega
 try have : w.heap.size + 1 ≤ w1.heap.size := by omega
 try have : w.heap.size + 1 + 1 < w1.heap.size := by omega
 try have : w.heap.size + 1 + 1 < w1.heap.size + 1 := by omega
 try have : w.heap.size + 1 + 1 < w1.heap.size + 1 + 1 := by omega
 try have : w.heap.size + 1 + 1 ≤ w1.heap.size := by omega
 have c1_0_0 : w1.cell? ⟨w.heap.size + 1 + 1, 0, none⟩ = some (.int .i64 0) := by go_simp
 have g1_0_0 : w1.frozen? ⟨w.heap.size + 1 + 1, 0, none⟩ = false := by go_simp
 have c1_0_1 : w1.cell? ⟨w.heap.size + 1 + 1, 1, none⟩ = some (.int .u64 0) := by go_simp
 have g1_0_1 : w1.frozen? ⟨w.heap.size + 1 + 1, 1, none⟩ = false := by go_simp
 clear hc1 hf1
 go_wp2
 refine bodyPost_ret (v := .agg #[.int .i64 (wH (cdiv a b)), .int .u64 (wL (cdiv a b))]) (by simp only [results, Tryz.results209]; go_simp) rfl ⟨rfl, blw_⟩
end Go.Proofs.YtcmclgjgniijfaaGreat
end
section
namespace Go.Proofs.YtcmclgjgniijfaaGreat
open Go.RowKit
def RunD (p0 p1 p2 p3 q0 q1 q2 q3 k l h : Int) : Prop :=
 (k = 0 ∧ l = 0 ∧ h = 0) ∨ (k = 1 ∧ l = p0 ∧ h = q0) ∨ (k = 2 ∧ l = mi p0 p1 ∧ h = mx q0 q1) ∨ (k = 3 ∧ l = mi (mi p0 p1) p2 ∧ h = mx (mx q0 q1) q2) ∨ (k = 4 ∧ l = mi (mi (mi p0 p1) p2) p3 ∧ h = mx (mx (mx q0 q1) q2) q3)
end Go.Proofs.YtcmclgjgniijfaaGreat
end
