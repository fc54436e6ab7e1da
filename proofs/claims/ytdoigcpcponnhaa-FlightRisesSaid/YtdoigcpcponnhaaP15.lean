/- Packed: Square Great Root Root2. -/
import Derived.Test.YtdoigcpcponnhaaP8
import Derived.Test.YtdoigcpcponnhaaP10
import Derived.Test.YtdoigcpcponnhaaP13
import Derived.Test.YtdoigcpcponnhaaP14
set_option linter.unusedVariables false
set_option linter.unusedSimpArgs false
section
namespace Go.Proofs.Ytdoigcpcponnhaa
open Go.RowKit
def sqL (a b : Int) : Int := mi (sL a a 4294967296) (sL b b 4294967296)
def sqH (a b : Int) : Int := mx (sH a a 4294967296) (sH b b 4294967296)
theorem abs_facts {al ah : Int} (i0 : I64 al) (i1 : I64 ah) (v : vB al ah = true) : 0 ≤ absL al ah ∧ absL al ah ≤ absH al ah ∧ absH al ah ≤ 9223372036854775807 := by
 obtain ⟨v1, v2⟩ := vB_tt v
 have := i1.2
 unfold absL absH mx
 split
 ·omega
 ·split
  ·omega
  ·split <;> omega
theorem sq_mono {a b : Int} (h0 : 0 ≤ a) (h1 : a ≤ b) : mi (mL a a b) (mL b a b) = sqL a b ∧ mx (mH a a b) (mH b a b) = sqH a b := by
 have p1 : a * a ≤ a * b := Int.mul_le_mul_of_nonneg_left h1 h0
 have p2 : a * b ≤ b * b := Int.mul_le_mul_of_nonneg_right h1 (by omega)
 unfold mL mH sqL sqH
 rw [(share_b a a).1, (share_b a b).1, (share_b b a).1, (share_b b b).1, (share_b a a).2, (share_b a b).2, (share_b b a).2, (share_b b b).2, Int.mul_comm b a]
 generalize a * a = p at *
 generalize a * b = q at *
 generalize b * b = r at *
 have d1 : p / 4294967296 ≤ q / 4294967296 := by omega
 have d2 : q / 4294967296 ≤ r / 4294967296 := by omega
 have d3 : cdiv p 4294967296 ≤ cdiv q 4294967296 := by unfold cdiv; omega
 have d4 : cdiv q 4294967296 ≤ cdiv r 4294967296 := by unfold cdiv; omega
 generalize cdiv p 4294967296 = p' at *
 generalize cdiv q 4294967296 = q' at *
 generalize cdiv r 4294967296 = r' at *
 generalize p / 4294967296 = p'' at *
 generalize q / 4294967296 = q'' at *
 generalize r / 4294967296 = r'' at *
 unfold mi mx
 constructor <;> (repeat split) <;> omega
theorem sq_at (x : Int) (ix : I64 x) : Answers (fun _ => True) 73 #[] x (oLo (sL x x 4294967296) (sH x x 4294967296)) (oHi (sL x x 4294967296) (sH x x 4294967296)) (oE (sL x x 4294967296) (sH x x 4294967296)) := by
 intro w _
 have SH := hide (product_any x x ix ix)
 clear ix
 generalize sL x x 4294967296 = LO at *
 generalize sH x x 4294967296 = HI at *
 change Calls Try.prog 73 #[.int .i64 x] w _
 go_enter Try.func73, Try.ntmps73
 go_wp2_with fail
 refine (SH.out _).mono ?_
 rintro e w1 ⟨rfl, hb1⟩
 obtain ⟨hc1, hf1⟩ := bcell hb1
 have hz1 := hb1.size
 try simp only [World.size_alloc, World.size_setCell] at hz1
 try have : w.heap.size < w1.heap.size := by omega
 try have : w.heap.size ≤ w1.heap.size := by omega
 have c1_0_0 : w1.cell? ⟨w.heap.size, 0, none⟩ = some (.int .i64 (0)) := by go_simp
 have g1_0_0 : w1.frozen? ⟨w.heap.size, 0, none⟩ = false := by go_simp
 have c1_0_1 : w1.cell? ⟨w.heap.size, 1, none⟩ = some (.int .i64 (0)) := by go_simp
 have g1_0_1 : w1.frozen? ⟨w.heap.size, 1, none⟩ = false := by go_simp
 clear hc1 hf1
 go_wp2
 refine bodyPost_ret (v := .tuple #[.agg #[.int .i64 (oLo LO HI), .int .i64 (oHi LO HI)], .int .i64 (oE LO HI)]) (by simp only [results, Try.results73]; go_simp) rfl ⟨rfl, blw_⟩
theorem square_any (al ah : Int) (i0 : I64 al) (i1 : I64 ah) (w : World) :
  Calls Try.prog 58 #[.agg #[.int .i64 (al), .int .i64 (ah)]] w fun e w' => e = .returned (.tuple #[.agg #[.int .i64 (okI (vB al ah) (oLo (sqL (absL al ah) (absH al ah)) (sqH (absL al ah) (absH al ah)))), .int .i64 (okI (vB al ah) (oHi (sqL (absL al ah) (absH al ah)) (sqH (absL al ah) (absH al ah))))], .int .i64 (errE (vB al ah) (oE (sqL (absL al ah) (absH al ah)) (sqH (absL al ah) (absH al ah))))]) ∧ Below w.heap.size w w' := by
 have AB := abs_any al ah i0 i1
 cases hv : vB al ah
 ·rw [hv] at AB
  simp only [ok_f, err_f] at AB ⊢
  have AB' := hide AB
  clear AB hv i0 i1
  go_enter Try.func58, Try.ntmps58
  go_wp2_with fail
  refine (AB'.out _).mono ?_
  rintro e w1 ⟨rfl, hb1⟩
  obtain ⟨hc1, hf1⟩ := bcell hb1
  have hz1 := hb1.size
  try simp only [World.size_alloc, World.size_setCell] at hz1
  try have : w.heap.size < w1.heap.size := by omega
  try have : w.heap.size ≤ w1.heap.size := by omega
  try have : w.heap.size + 1 < w1.heap.size := by omega
  try have : w.heap.size + 1 ≤ w1.heap.size := by omega
  have c1_0_0 : w1.cell? ⟨w.heap.size, 0, none⟩ = some (.int .i64 (al)) := by go_simp
  have c1_0_1 : w1.cell? ⟨w.heap.size, 1, none⟩ = some (.int .i64 (ah)) := by go_simp
  have c1_1_0 : w1.cell? ⟨w.heap.size + 1, 0, none⟩ = some (.int .i64 (0)) := by go_simp
  have g1_1_0 : w1.frozen? ⟨w.heap.size + 1, 0, none⟩ = false := by go_simp
  have c1_1_1 : w1.cell? ⟨w.heap.size + 1, 1, none⟩ = some (.int .i64 (0)) := by go_simp
  have g1_1_1 : w1.frozen? ⟨w.heap.size + 1, 1, none⟩ = false := by go_simp
  clear hc1 hf1
  go_wp2
  refine bodyPost_ret (v := .tuple #[.agg #[.int .i64 (0), .int .i64 (0)], .int .i64 2]) (by simp only [results, Try.results58]; go_simp) rfl ⟨rfl, blw_⟩
 ·obtain ⟨f0, f1, f2⟩ := abs_facts i0 i1 hv
  rw [hv] at AB
  simp only [ok_t, err_t] at AB ⊢
  have AB' := hide AB
  clear AB hv i0 i1
  generalize absL al ah = a at *
  generalize absH al ah = b at *
  have E := hide (en_out2 (sL a a 4294967296) (sH a a 4294967296) (sL b b 4294967296) (sH b b 4294967296) (a == b) (share_le _ _ _ (by omega)) (share_le _ _ _ (by omega)) (fun h => by rw [eq_of_beq h]; exact ⟨rfl, rfl⟩))
  have hent : ∀ args w, (callFunc 73 args).run Try.prog w = .ok (.enter 73 args) w := enters_of Try.func73 (by kernel_rfl) rfl
  have EN := hide (fun w => ends_0 (fun _ => True) ⟨fun _ _ => trivial⟩ 73 hent a b _ _ _ _ _ _ (sq_at a ⟨by omega, by omega⟩) (sq_at b ⟨by omega, by omega⟩) w trivial)
  unfold sqL sqH
  rw [← E.out.1, ← E.out.2.1, ← E.out.2.2]
  clear hent E f0 f1 f2
  generalize enL (oLo (sL a a 4294967296) (sH a a 4294967296)) (oE (sL a a 4294967296) (sH a a 4294967296)) (oLo (sL b b 4294967296) (sH b b 4294967296)) (oE (sL b b 4294967296) (sH b b 4294967296)) (a == b) = rl at *
  generalize enH (oHi (sL a a 4294967296) (sH a a 4294967296)) (oE (sL a a 4294967296) (sH a a 4294967296)) (oHi (sL b b 4294967296) (sH b b 4294967296)) (oE (sL b b 4294967296) (sH b b 4294967296)) (a == b) = rh at *
  generalize enE (oE (sL a a 4294967296) (sH a a 4294967296)) (oE (sL b b 4294967296) (sH b b 4294967296)) (a == b) = re at *
  go_enter Try.func58, Try.ntmps58
  go_wp2_with fail
  refine (AB'.out _).mono ?_
  rintro e w1 ⟨rfl, hb1⟩
  obtain ⟨hc1, hf1⟩ := bcell hb1
  have hz1 := hb1.size
  try simp only [World.size_alloc, World.size_setCell] at hz1
  try have : w.heap.size < w1.heap.size := by omega
  try have : w.heap.size < w1.heap.size + 1 := by omega
  try have : w.heap.size ≤ w1.heap.size := by omega
  try have : w.heap.size + 1 < w1.heap.size := by omega
  try have : w.heap.size + 1 < w1.heap.size + 1 := by omega
  try have : w.heap.size + 1 ≤ w1.heap.size := by omega
  have c1_0_0 : w1.cell? ⟨w.heap.size, 0, none⟩ = some (.int .i64 (al)) := by go_simp
  have c1_0_1 : w1.cell? ⟨w.heap.size, 1, none⟩ = some (.int .i64 (ah)) := by go_simp
  have c1_1_0 : w1.cell? ⟨w.heap.size + 1, 0, none⟩ = some (.int .i64 (0)) := by go_simp
  have g1_1_0 : w1.frozen? ⟨w.heap.size + 1, 0, none⟩ = false := by go_simp
  have c1_1_1 : w1.cell? ⟨w.heap.size + 1, 1, none⟩ = some (.int .i64 (0)) := by go_simp
  have g1_1_1 : w1.frozen? ⟨w.heap.size + 1, 1, none⟩ = false := by go_simp
  clear hc1 hf1
  go_wp2_with fail
  refine (EN.out _).mono ?_
  rintro e w2 ⟨rfl, hb2⟩
  obtain ⟨hc2, hf2⟩ := bcell hb2
  have hz2 := hb2.size
  try simp only [World.size_alloc, World.size_setCell] at hz2
  try have : w.heap.size < w2.heap.size := by omega
  try have : w.heap.size ≤ w2.heap.size := by omega
  try have : w.heap.size + 1 < w2.heap.size := by omega
  try have : w.heap.size + 1 ≤ w2.heap.size := by omega
  try have : w1.heap.size < w2.heap.size := by omega
  try have : w1.heap.size ≤ w2.heap.size := by omega
  have c2_0_0 : w2.cell? ⟨w.heap.size, 0, none⟩ = some (.int .i64 (al)) := by go_simp
  have c2_0_1 : w2.cell? ⟨w.heap.size, 1, none⟩ = some (.int .i64 (ah)) := by go_simp
  have c2_1_0 : w2.cell? ⟨w.heap.size + 1, 0, none⟩ = some (.int .i64 (0)) := by go_simp
  have g2_1_0 : w2.frozen? ⟨w.heap.size + 1, 0, none⟩ = false := by go_simp
  have c2_1_1 : w2.cell? ⟨w.heap.size + 1, 1, none⟩ = some (.int .i64 (0)) := by go_simp
  have g2_1_1 : w2.frozen? ⟨w.heap.size + 1, 1, none⟩ = false := by go_simp
  have c2_2_0 : w2.cell? ⟨w1.heap.size, 0, none⟩ = some (.int .i64 (a)) := by go_simp
  have c2_2_1 : w2.cell? ⟨w1.heap.size, 1, none⟩ = some (.int .i64 (b)) := by go_simp
  clear hc2 hf2 c1_0_0 c1_0_1 c1_1_0 g1_1_0 c1_1_1 g1_1_1
  go_wp2
  refine bodyPost_ret (v := .tuple #[.agg #[.int .i64 (rl), .int .i64 (rh)], .int .i64 re]) (by simp only [results, Try.results58]; go_simp) rfl ⟨rfl, blw_⟩
theorem rsquare_any (al ah : Int) (i0 : I64 al) (i1 : I64 ah) (w : World) :
  Calls Try.prog 51 #[.agg #[.int .i64 (al), .int .i64 (ah)]] w fun e w' => e = .returned (.tuple #[.agg #[.int .i64 (okI (vB al ah) (oLo (sqL (absL al ah) (absH al ah)) (sqH (absL al ah) (absH al ah)))), .int .i64 (okI (vB al ah) (oHi (sqL (absL al ah) (absH al ah)) (sqH (absL al ah) (absH al ah))))], .int .i64 (errE (vB al ah) (oE (sqL (absL al ah) (absH al ah)) (sqH (absL al ah) (absH al ah))))]) ∧ Below w.heap.size w w' := by
 have AB := rabs_any al ah i0 i1
 cases hv : vB al ah
 ·rw [hv] at AB
  simp only [ok_f, err_f] at AB ⊢
  have AB' := hide AB
  clear AB hv i0 i1
  go_enter Try.func51, Try.ntmps51
  go_wp2_with fail
  refine (AB'.out _).mono ?_
  rintro e w1 ⟨rfl, hb1⟩
  obtain ⟨hc1, hf1⟩ := bcell hb1
  have hz1 := hb1.size
  try simp only [World.size_alloc, World.size_setCell] at hz1
  try have : w.heap.size < w1.heap.size := by omega
  try have : w.heap.size ≤ w1.heap.size := by omega
  try have : w.heap.size + 1 < w1.heap.size := by omega
  try have : w.heap.size + 1 ≤ w1.heap.size := by omega
  have c1_0_0 : w1.cell? ⟨w.heap.size, 0, none⟩ = some (.int .i64 (al)) := by go_simp
  have c1_0_1 : w1.cell? ⟨w.heap.size, 1, none⟩ = some (.int .i64 (ah)) := by go_simp
  have c1_1_0 : w1.cell? ⟨w.heap.size + 1, 0, none⟩ = some (.int .i64 (0)) := by go_simp
  have g1_1_0 : w1.frozen? ⟨w.heap.size + 1, 0, none⟩ = false := by go_simp
  have c1_1_1 : w1.cell? ⟨w.heap.size + 1, 1, none⟩ = some (.int .i64 (0)) := by go_simp
  have g1_1_1 : w1.frozen? ⟨w.heap.size + 1, 1, none⟩ = false := by go_simp
  clear hc1 hf1
  go_wp2
  refine bodyPost_ret (v := .tuple #[.agg #[.int .i64 (0), .int .i64 (0)], .int .i64 2]) (by simp only [results, Try.results51]; go_simp) rfl ⟨rfl, blw_⟩
 ·obtain ⟨f0, f1, f2⟩ := abs_facts i0 i1 hv
  rw [hv] at AB
  simp only [ok_t, err_t] at AB ⊢
  have AB' := hide AB
  clear AB hv i0 i1
  generalize absL al ah = a at *
  generalize absH al ah = b at *
  have M := rmul_any a b a b ⟨by omega, by omega⟩ ⟨by omega, by omega⟩ ⟨by omega, by omega⟩ ⟨by omega, by omega⟩
  have hab : vB a b = true := vB_t (by omega) f1
  obtain ⟨m1, m2⟩ := sq_mono f0 f1
  rw [hab, m1, m2] at M
  simp only [Bool.and_self, ok_t, err_t] at M
  have M' := hide M
  clear M hab m1 m2 f0 f1 f2
  generalize sqL a b = LO at *
  generalize sqH a b = HI at *
  generalize oLo LO HI = rl at *
  generalize oHi LO HI = rh at *
  generalize oE LO HI = re at *
  go_enter Try.func51, Try.ntmps51
  go_wp2_with fail
  refine (AB'.out _).mono ?_
  rintro e w1 ⟨rfl, hb1⟩
  obtain ⟨hc1, hf1⟩ := bcell hb1
  have hz1 := hb1.size
  try simp only [World.size_alloc, World.size_setCell] at hz1
  try have : w.heap.size < w1.heap.size := by omega
  try have : w.heap.size < w1.heap.size + 1 := by omega
  try have : w.heap.size ≤ w1.heap.size := by omega
  try have : w.heap.size + 1 < w1.heap.size := by omega
  try have : w.heap.size + 1 < w1.heap.size + 1 := by omega
  try have : w.heap.size + 1 ≤ w1.heap.size := by omega
  have c1_0_0 : w1.cell? ⟨w.heap.size, 0, none⟩ = some (.int .i64 (al)) := by go_simp
  have c1_0_1 : w1.cell? ⟨w.heap.size, 1, none⟩ = some (.int .i64 (ah)) := by go_simp
  have c1_1_0 : w1.cell? ⟨w.heap.size + 1, 0, none⟩ = some (.int .i64 (0)) := by go_simp
  have g1_1_0 : w1.frozen? ⟨w.heap.size + 1, 0, none⟩ = false := by go_simp
  have c1_1_1 : w1.cell? ⟨w.heap.size + 1, 1, none⟩ = some (.int .i64 (0)) := by go_simp
  have g1_1_1 : w1.frozen? ⟨w.heap.size + 1, 1, none⟩ = false := by go_simp
  clear hc1 hf1
  go_wp2_with fail
  refine (M'.out _).mono ?_
  rintro e w2 ⟨rfl, hb2⟩
  obtain ⟨hc2, hf2⟩ := bcell hb2
  have hz2 := hb2.size
  try simp only [World.size_alloc, World.size_setCell] at hz2
  try have : w.heap.size < w2.heap.size := by omega
  try have : w.heap.size ≤ w2.heap.size := by omega
  try have : w.heap.size + 1 < w2.heap.size := by omega
  try have : w.heap.size + 1 ≤ w2.heap.size := by omega
  try have : w1.heap.size < w2.heap.size := by omega
  try have : w1.heap.size ≤ w2.heap.size := by omega
  have c2_0_0 : w2.cell? ⟨w.heap.size, 0, none⟩ = some (.int .i64 (al)) := by go_simp
  have c2_0_1 : w2.cell? ⟨w.heap.size, 1, none⟩ = some (.int .i64 (ah)) := by go_simp
  have c2_1_0 : w2.cell? ⟨w.heap.size + 1, 0, none⟩ = some (.int .i64 (0)) := by go_simp
  have g2_1_0 : w2.frozen? ⟨w.heap.size + 1, 0, none⟩ = false := by go_simp
  have c2_1_1 : w2.cell? ⟨w.heap.size + 1, 1, none⟩ = some (.int .i64 (0)) := by go_simp
  have g2_1_1 : w2.frozen? ⟨w.heap.size + 1, 1, none⟩ = false := by go_simp
  have c2_2_0 : w2.cell? ⟨w1.heap.size, 0, none⟩ = some (.int .i64 (a)) := by go_simp
  have c2_2_1 : w2.cell? ⟨w1.heap.size, 1, none⟩ = some (.int .i64 (b)) := by go_simp
  clear hc2 hf2 c1_0_0 c1_0_1 c1_1_0 g1_1_0 c1_1_1 g1_1_1
  go_wp2
  refine bodyPost_ret (v := .tuple #[.agg #[.int .i64 (rl), .int .i64 (rh)], .int .i64 re]) (by simp only [results, Try.results51]; go_simp) rfl ⟨rfl, blw_⟩
end Go.Proofs.Ytdoigcpcponnhaa
end
section
namespace Go.Proofs.Ytdoigcpcponnhaa
open Go.RowKit
def AnswersB (C : World → Prop) (g : FuncId) (caps : Array Value) (n : Int) (r : Bool) : Prop :=
 ∀ w, C w → Calls Try.prog g (#[.int .u64 n] ++ caps) w fun e w' => e = .returned (.bool r) ∧ Below w.heap.size w w'
structure GreatInv (r n c : Int) : Prop where
 pow : ∃ j h : Nat, j ≤ 48 ∧ c = 2 ^ j ∧ n = h * 2 ^ j
 le : n ≤ r
 lt : r < n + c
theorem GreatInv.half {r n c : Int} (h : GreatInv r n c) (hr : r < 281474976710656) (hc : ¬ c = 1) :
  ∃ d, c = 2 * d ∧ 1 ≤ d ∧ d ≤ 140737488355328 ∧ 0 ≤ n ∧ n + d < 562949953421312 ∧ bits .or .u64 n d = n + d ∧ (n ≤ r → r < n + d → GreatInv r n d) ∧ (n + d ≤ r → GreatInv r (n + d) d) := by
 obtain ⟨j, k, hj, rfl, rfl⟩ := h.pow
 have hle := h.le
 have hlt := h.lt
 cases j with
 | zero => exact absurd rfl hc
 | succ j =>
  have p0 : 0 < (2 : Int) ^ j := Int.pow_pos (by omega)
  have h1 : (2 : Nat) ^ j ≤ 2 ^ 47 := Nat.pow_le_pow_right (by omega) (by omega)
  have h2 : (((2 : Nat) ^ j : Nat) : Int) ≤ ((2 ^ 47 : Nat) : Int) := by exact_mod_cast h1
  rw [Int.natCast_pow] at h2
  have h2' : (2 : Int) ^ j ≤ 140737488355328 := h2
  have e : (2 : Int) ^ (j + 1) = 2 * 2 ^ j := by rw [Int.pow_succ]; omega
  have en : (k : Int) * 2 ^ (j + 1) = ((2 * k : Nat) : Int) * 2 ^ j := by
   rw [e, Int.natCast_mul, ← Int.mul_assoc, Int.mul_comm (k : Int) 2]; rfl
  have k0 : 0 ≤ (k : Int) * 2 ^ (j + 1) := Int.mul_nonneg (by omega) (by omega)
  refine ⟨2 ^ j, e, by omega, h2', k0, by omega, ?_, ?_, ?_⟩
  ·have q : k * 2 ^ (j + 1) < 281474976710656 := by
    have : ((k * 2 ^ (j + 1) : Nat) : Int) < 281474976710656 := by rw [Int.natCast_mul, Int.natCast_pow]; show (k : Int) * 2 ^ (j + 1) < _; omega
    omega
   have o := orP k (2 ^ j) (j + 1) (by rw [Nat.pow_succ]; have := Nat.two_pow_pos j; omega) (by omega)
   rw [Int.natCast_mul, Int.natCast_pow, Int.natCast_pow, Int.natCast_add, Int.natCast_mul, Int.natCast_pow, Int.natCast_pow] at o
   exact o
  ·intro _ hl
   exact ⟨⟨j, 2 * k, by omega, rfl, en⟩, hle, hl⟩
  ·intro hl
   refine ⟨⟨j, 2 * k + 1, by omega, rfl, ?_⟩, hl, by omega⟩
   rw [en, Int.natCast_add, Int.add_mul]
   omega
set_option maxHeartbeats 1000000 in
theorem great48 (C : World → Prop) (hC : Kept C) (g : FuncId) (p q : Value) (hent : ∀ args w, (callFunc g args).run Try.prog w = .ok (.enter g args) w)
  (r : Int) (hr : 0 ≤ r ∧ r < 281474976710656) (A1 : ∀ n, 0 ≤ n → n < 562949953421312 → AnswersB C g #[p, q] n (decide (n ≤ r))) (w : World) (hw : C w) :
  Calls Try.prog 84 #[.int .i64 48, .func (Fn.func g) #[] #[p, q]] w fun e w' => e = .returned (.int .u64 r) ∧ Below w.heap.size w w' := by
 have A1' : Hid (∀ n b, 0 ≤ n → n < 562949953421312 → decide (n ≤ r) = b → ∀ w, C w → Calls Try.prog g #[.int .u64 n, p, q] w fun e w' => e = .returned (.bool b) ∧ Below w.heap.size w w') := hide (fun n b h1 h2 h3 => h3 ▸ A1 n h1 h2)
 have HR := hide hr
 clear A1 hr
 go_enter Try.func84, Try.ntmps84
 go_wp2
 go_loopw [5, 6] (fun s5 s6 wr => ∃ n c : Int, s5 = .int .u64 n ∧ s6 = .int .u64 (c / 2) ∧ GreatInv r n c ∧ Below w.heap.size w wr) (fun _ s6 _ => (intOf s6).toNat)
 case atStart =>
  have := HR.out
  exact ⟨0, 281474976710656, rfl, by first | rfl | go_num, ⟨⟨48, 0, by omega, rfl, by simp⟩, by omega, by omega⟩, blw_⟩
 case round =>
  obtain ⟨n, c, rfl, rfl, hI, hB⟩ := hrel
  by_cases hc : c = 1
  ·subst hc
   have HL : Hid (n = r) := hide (by have := hI.le; have := hI.lt; omega)
   clear hI
   go_wp2
   go_ret
   exact ⟨by rw [HL.out]; rfl, hB⟩
  ·obtain ⟨d, rfl, d1, d2, n0, nd, hor, hlo, hhi⟩ := hI.half HR.out.2 hc
   have e0 : (2 * d) / 2 = d := by omega
   rw [e0]
   have nr := hI.le
   have HLO := hide hlo
   have HHI := hide hhi
   clear hI hlo hhi hc e0
   have hd0 : 0 < d := by omega
   by_cases cc : n + d ≤ r
   ·have AN := hide (A1'.out (n + d) true (by omega) nd (decide_eq_true cc))
    have HN := hide (HHI.out cc)
    clear cc
    go_wp2_with fail
    refine (AN.out _ (hC.below hw hB)).mono ?_
    rintro e w1 ⟨rfl, hb1⟩
    go_wp2
    go_roundw
    case rel => exact ⟨n + d, d, by first | rfl | go_num, by first | rfl | go_num, HN.out, hB.trans (hb1.mono hB.size)⟩
    case measure => simp [intOf]; omega
   ·have AN := hide (A1'.out (n + d) false (by omega) nd (decide_eq_false cc))
    have HN := hide (HLO.out nr (by omega))
    clear cc
    go_wp2_with fail
    refine (AN.out _ (hC.below hw hB)).mono ?_
    rintro e w1 ⟨rfl, hb1⟩
    go_wp2
    go_roundw
    case rel => exact ⟨n, d, by first | rfl | go_num, by first | rfl | go_num, HN.out, hB.trans (hb1.mono hB.size)⟩
    case measure => simp [intOf]; omega
end Go.Proofs.Ytdoigcpcponnhaa
end
section
namespace Go.Proofs.Ytdoigcpcponnhaa
open Go.RowKit
theorem sq_le {a b : Int} (h0 : 0 ≤ a) (h : a ≤ b) : a * a ≤ b * b := Int.mul_le_mul h h h0 (by omega)
theorem root_lt {a b : Int} (h0 : 0 ≤ b) (h : a * a < b * b) : a < b := by
 by_cases c : a < b
 ·exact c
 ·have := sq_le h0 (show b ≤ a by omega)
  omega
theorem root_one {a n m : Int} (hn : 0 ≤ n) (hm : 0 ≤ m) (h1 : n * n ≤ a) (h2 : a < (n + 1) * (n + 1)) (k1 : m * m ≤ a) (k2 : a < (m + 1) * (m + 1)) : n = m := by
 have a1 := root_lt (a := n) (b := m + 1) (by omega) (by omega)
 have a2 := root_lt (a := m) (b := n + 1) (by omega) (by omega)
 omega
theorem root_is (a : Nat) : ∃ n : Nat, n * n ≤ a ∧ a < (n + 1) * (n + 1) := by
 induction a with
 | zero => exact ⟨0, by omega, by omega⟩
 | succ a ih =>
  obtain ⟨n, h1, h2⟩ := ih
  by_cases c : a + 1 < (n + 1) * (n + 1)
  ·exact ⟨n, by omega, c⟩
  ·refine ⟨n + 1, by omega, ?_⟩
   have : (n + 1 + 1) * (n + 1 + 1) = (n + 1) * (n + 1) + 2 * (n + 1) + 1 := by
    rw [Nat.add_mul, Nat.mul_add, Nat.mul_add]; omega
   omega
theorem sq_128 : (0 : Int) ≤ 562949953421312 := by omega
structure RootInv (a n c : Int) : Prop where
 n0 : 0 ≤ n
 c1 : 1 ≤ c
 pow : ∃ j : Nat, j ≤ 49 ∧ c = 2 ^ j
 le : n * n ≤ a
 lt : a < (n + c) * (n + c)
theorem RootInv.half {a n c : Int} (h : RootInv a n c) (hc : ¬ c = 1) : ∃ d, c = 2 * d ∧ 1 ≤ d ∧ d ≤ 281474976710656 ∧ ∃ j : Nat, j ≤ 49 ∧ d = 2 ^ j := by
 obtain ⟨j, hj, rfl⟩ := h.pow
 cases j with
 | zero => exact absurd rfl hc
 | succ k =>
  refine ⟨2 ^ k, by rw [Int.pow_succ]; omega, ?_, ?_, k, by omega, rfl⟩
  ·have : 0 < (2 : Int) ^ k := Int.pow_pos (by omega)
   omega
  ·have h1 : (2 : Nat) ^ k ≤ 2 ^ 48 := Nat.pow_le_pow_right (by omega) (by omega)
   have h2 : (((2 : Nat) ^ k : Nat) : Int) ≤ ((2 ^ 48 : Nat) : Int) := by exact_mod_cast h1
   rw [Int.natCast_pow] at h2
   exact h2
set_option maxHeartbeats 1000000 in
theorem rroot (a r : Int) (ha : 0 ≤ a ∧ a < 79228162514264337593543950336) (hr : 0 ≤ r) (h1 : r * r ≤ a) (h2 : a < (r + 1) * (r + 1)) (w : World) :
  Calls Try.prog 66 #[.agg #[.int .i64 (wH (a)), .int .u64 (wL (a))]] w fun e w' => e = .returned (.int .i64 r) ∧ Below w.heap.size w w' := by
 have HU : Hid (∀ n, 0 ≤ n → n * n ≤ a → a < (n + 1) * (n + 1) → n = r) := hide (fun n hn k1 k2 => root_one hn hr k1 k2 h1 h2)
 have HA := hide ha
 clear ha hr h1 h2
 go_enter Try.func66, Try.ntmps66
 go_wp2
 go_loopw [3, 4, 5] (fun s3 s4 _ wr => ∃ n c : Int, s3 = .int .i64 n ∧ s4 = .int .i64 (c / 2) ∧ RootInv a n c ∧ Below w.heap.size w wr ∧ w.heap.size < wr.heap.size ∧ wr.cell? ⟨w.heap.size, 0, none⟩ = some (.int .i64 (wH a)) ∧ wr.cell? ⟨w.heap.size, 1, none⟩ = some (.int .u64 (wL a))) (fun _ s4 _ _ => (intOf s4).toNat)
 case atStart =>
  have := HA.out
  exact ⟨0, 562949953421312, rfl, rfl, ⟨by omega, by omega, ⟨49, by omega, rfl⟩, by omega, by omega⟩, blw_, by simp, by go_simp, by go_simp⟩
 case round =>
  obtain ⟨n, c, rfl, rfl, hI, hB, hsz, cl0, cl1⟩ := hrel
  have n0 := hI.n0
  have nb : n < 281474976710656 := root_lt (by omega) (by have := hI.le; have := HA.out; omega)
  by_cases hc : c = 1
  ·subst hc
   have HL := hide (HU.out n n0 hI.le hI.lt)
   clear hI
   go_wp2
   go_ret
   exact ⟨by rw [HL.out]; rfl, hB⟩
  ·obtain ⟨d, rfl, d1, d2, hd⟩ := hI.half hc
   have e0 : (2 * d) / 2 = d := by omega
   rw [e0]
   have HI := hide hI
   have HD := hide hd
   clear hI hd hc e0
   have TM := hide (rtimes (n + d) (n + d) ⟨by omega, by omega⟩ ⟨by omega, by omega⟩)
   have hbr : Below wr.heap.size wr wr := Below.refl _ _
   have hd0 : 0 < d := by omega
   have hdiv : d.tdiv 2 = d / 2 := Int.tdiv_eq_ediv_of_nonneg (by omega)
   have hdw : wrap64 (d / 2) = d / 2 := by unfold wrap64; omega
   by_cases cc : a < (n + d) * (n + d)
   ·have LS := hide (rless_r a ((n + d) * (n + d)) true (decide_eq_true cc))
    have HN : Hid (RootInv a n d) := hide ⟨n0, d1, HD.out, HI.out.le, cc⟩
    clear cc
    go_wp2_with fail
    refine QT.quiet_c hbr (by kernel_rfl) (by kernel_rfl) ?_
    repeat (first
     | go_big_quiet_skip
     | (go_big_quiet_want; go_big_quiet_op; first
      | go_big_quiet_on
      | (apply Exists.intro
         refine ⟨fun _ => ?_, ?_⟩
         ·first
          | rfl
          | (intro hC; obtain ⟨hcq, hfq⟩ := bcellB hC; go_simp; done)
          | (intro hC; obtain ⟨hcq, hfq⟩ := bcellB hC; go_simp; rfl)
          | (intro hC; have hcq := bcellG hC; go_simp; done)
          | (intro hC; have hcq := bcellG hC; go_simp; rfl)
          | (intro hC; go_at_call 68; (first | (with_reducible refine (TM.out _).mono ?_)); (intro e w2 hw; exact ⟨hw.1, qtrans (by simp) hC hw.2⟩))
          | (intro hC; go_at_call 67; (first | (with_reducible refine (LS.out _).mono ?_)); (intro e w2 hw; exact ⟨hw.1, qtrans (by simp) hC hw.2⟩))
         go_big_quiet_on)))
    refine wpQuiet_nil ?_
    intro w9 hC9
    obtain ⟨hc9, hf9⟩ := bcellB hC9
    have hz9 := hC9.size
    go_wp2
    go_roundw
    case rel => exact ⟨n, d, by first | rfl | go_num, by first | rfl | go_num, HN.out, hB.trans blw_, by omega, by go_simp, by go_simp⟩
    case measure => simp [intOf]; omega
   ·have LS := hide (rless_r a ((n + d) * (n + d)) false (decide_eq_false cc))
    have HN : Hid (RootInv a (n + d) d) := hide ⟨by omega, d1, HD.out, by omega, by have := HI.out.lt; rw [show n + d + d = n + 2 * d by omega]; exact this⟩
    clear cc
    go_wp2_with fail
    refine QT.quiet_c hbr (by kernel_rfl) (by kernel_rfl) ?_
    repeat (first
     | go_big_quiet_skip
     | (go_big_quiet_want; go_big_quiet_op; first
      | go_big_quiet_on
      | (apply Exists.intro
         refine ⟨fun _ => ?_, ?_⟩
         ·first
          | rfl
          | (intro hC; obtain ⟨hcq, hfq⟩ := bcellB hC; go_simp; done)
          | (intro hC; obtain ⟨hcq, hfq⟩ := bcellB hC; go_simp; rfl)
          | (intro hC; have hcq := bcellG hC; go_simp; done)
          | (intro hC; have hcq := bcellG hC; go_simp; rfl)
          | (intro hC; go_at_call 68; (first | (with_reducible refine (TM.out _).mono ?_)); (intro e w2 hw; exact ⟨hw.1, qtrans (by simp) hC hw.2⟩))
          | (intro hC; go_at_call 67; (first | (with_reducible refine (LS.out _).mono ?_)); (intro e w2 hw; exact ⟨hw.1, qtrans (by simp) hC hw.2⟩))
         go_big_quiet_on)))
    refine wpQuiet_nil ?_
    intro w9 hC9
    obtain ⟨hc9, hf9⟩ := bcellB hC9
    have hz9 := hC9.size
    go_wp2
    go_roundw
    case rel => exact ⟨n + d, d, by first | rfl | go_num, by first | rfl | go_num, HN.out, hB.trans blw_, by omega, by go_simp, by go_simp⟩
    case measure => simp [intOf]; omega
end Go.Proofs.Ytdoigcpcponnhaa
end
section
namespace Go.Proofs.Ytdoigcpcponnhaa
open Go.RowKit
noncomputable def isq (a : Int) : Int := ((Classical.choose (root_is a.toNat) : Nat) : Int)
theorem isq_spec {a : Int} (h : 0 ≤ a) : 0 ≤ isq a ∧ isq a * isq a ≤ a ∧ a < (isq a + 1) * (isq a + 1) := by
 have s := Classical.choose_spec (root_is a.toNat)
 unfold isq
 generalize Classical.choose (root_is a.toNat) = n at *
 obtain ⟨s1, s2⟩ := s
 refine ⟨by omega, ?_, ?_⟩
 ·have : ((n * n : Nat) : Int) ≤ (a.toNat : Int) := by exact_mod_cast s1
  rw [Int.natCast_mul] at this
  omega
 ·have : (a.toNat : Int) < (((n + 1) * (n + 1) : Nat) : Int) := by exact_mod_cast s2
  rw [Int.natCast_mul, Int.natCast_add] at this
  have e : ((1 : Nat) : Int) = 1 := rfl
  rw [e] at this
  omega
theorem isq_mono {a b : Int} (h0 : 0 ≤ a) (h : a ≤ b) : isq a ≤ isq b := by
 obtain ⟨a0, a1, a2⟩ := isq_spec h0
 obtain ⟨b0, b1, b2⟩ := isq_spec (a := b) (by omega)
 have := root_lt (a := isq a) (b := isq b + 1) (by omega) (by omega)
 omega
noncomputable def rtL (x : Int) : Int := isq (x * 4294967296)
noncomputable def rtR (x : Int) : Bool := !(rtL x * rtL x == x * 4294967296)
noncomputable def rtH (x : Int) : Int := rtL x + bI (rtR x)
theorem rt_spec {x : Int} (h : 0 ≤ x) : 0 ≤ rtL x ∧ rtL x * rtL x ≤ x * 4294967296 ∧ x * 4294967296 < (rtL x + 1) * (rtL x + 1) := isq_spec (by omega)
theorem rt_bd {x : Int} (h : 0 ≤ x) (k : x ≤ 9223372036854775807) : rtL x < 281474976710656 := by
 obtain ⟨a0, a1, a2⟩ := rt_spec h
 exact root_lt (by omega) (by omega)
theorem bI_bd (b : Bool) : 0 ≤ bI b ∧ bI b ≤ 1 := by cases b <;> simp [bI]
theorem rt_le (x : Int) : rtL x ≤ rtH x := by have := bI_bd (rtR x); unfold rtH; omega
theorem rt_monoL {x y : Int} (h0 : 0 ≤ x) (h : x ≤ y) : rtL x ≤ rtL y := isq_mono (by omega) (by omega)
theorem rt_monoH {x y : Int} (h0 : 0 ≤ x) (h : x ≤ y) : rtH x ≤ rtH y := by
 have m := rt_monoL h0 h
 obtain ⟨a0, a1, a2⟩ := rt_spec h0
 obtain ⟨b0, b1, b2⟩ := rt_spec (x := y) (by omega)
 have k1 := bI_bd (rtR x)
 have k2 := bI_bd (rtR y)
 by_cases c : rtL x = rtL y
 ·unfold rtH
  cases hy : rtR y
  ·have hx : rtR x = false := by
    unfold rtR at hy ⊢
    simp at hy ⊢
    rw [c] at a1 ⊢
    omega
   rw [hx, c]
   simp [bI]
  ·have : bI true = 1 := rfl
   omega
 ·unfold rtH; omega
def HasU (b c : Nat) (x y : Int) (w : World) : Prop := (w.cell? ⟨b, 0, none⟩ = some (.int .u64 x) ∧ b < w.heap.size) ∧ w.cell? ⟨c, 0, none⟩ = some (.int .u64 y) ∧ c < w.heap.size
theorem HasU.kept (b c : Nat) (x y : Int) : Kept (HasU b c x y) := ⟨fun h hb => ⟨⟨by rw [(bcell hb).1 b 0 h.1.2]; exact h.1.1, Nat.lt_of_lt_of_le h.1.2 hb.size⟩, by rw [(bcell hb).1 c 0 h.2.2]; exact h.2.1, Nat.lt_of_lt_of_le h.2.2 hb.size⟩⟩
theorem small_at (b c : Nat) (H L a r n : Int) (hH : a = H * 18446744073709551616 + L) (hL : 0 ≤ L ∧ L < 18446744073709551616) (hr : 0 ≤ r) (r1 : r * r ≤ a) (r2 : a < (r + 1) * (r + 1)) (n0 : 0 ≤ n) (n1 : n < 562949953421312) :
  AnswersB (HasU b c H L) 85 #[.pointer (some ⟨b, 0, none⟩), .pointer (some ⟨c, 0, none⟩)] n (decide (n ≤ r)) := by
 intro w hw
 obtain ⟨⟨hc, hb⟩, hc', hb'⟩ := hw
 have e : decide (n ≤ r) = decide (n * n ≤ a) := by
  apply decide_eq_decide.2
  constructor
  ·intro h; have := sq_le n0 h; omega
  ·intro h; have := root_lt (a := n) (b := r + 1) (by omega) (by omega); omega
 rw [e]
 have MU := hide (mul64 n n ⟨n0, by omega⟩ ⟨n0, by omega⟩)
 change Calls Try.prog 85 #[.int .u64 n, .pointer (some ⟨b, 0, none⟩), .pointer (some ⟨c, 0, none⟩)] w _
 generalize n * n = m at *
 clear e r1 r2 n0 n1 hr
 by_cases k1 : m / 18446744073709551616 < H
 ·rw [show decide (m ≤ a) = true from decide_eq_true (by omega)]
  clear hH hL
  go_enter Try.func85, Try.ntmps85
  go_wp2_with fail
  refine (MU.out _).mono ?_
  rintro e w ⟨rfl, rfl⟩
  go_wp2
  go_ret
  exact ⟨rfl, blw_⟩
 ·by_cases k2 : m / 18446744073709551616 = H
  ·by_cases k3 : m % 18446744073709551616 ≤ L
   ·rw [show decide (m ≤ a) = true from decide_eq_true (by omega)]
    clear hH hL
    go_enter Try.func85, Try.ntmps85
    go_wp2_with fail
    refine (MU.out _).mono ?_
    rintro e w ⟨rfl, rfl⟩
    go_wp2
    go_ret
    exact ⟨by first | rfl | exact congrArg (fun b => Ending.returned (.bool b)) (decide_eq_true k3), blw_⟩
   ·rw [show decide (m ≤ a) = false from decide_eq_false (by omega)]
    clear hH hL
    go_enter Try.func85, Try.ntmps85
    go_wp2_with fail
    refine (MU.out _).mono ?_
    rintro e w ⟨rfl, rfl⟩
    go_wp2
    go_ret
    exact ⟨congrArg (fun b => Ending.returned (.bool b)) (decide_eq_false (by omega)), blw_⟩
  ·rw [show decide (m ≤ a) = false from decide_eq_false (by omega)]
   clear hH hL
   go_enter Try.func85, Try.ntmps85
   go_wp2_with fail
   refine (MU.out _).mono ?_
   rintro e w ⟨rfl, rfl⟩
   go_wp2
   go_ret
   exact ⟨congrArg (fun b => Ending.returned (.bool b)) (decide_eq_false (by omega)), blw_⟩
theorem root_any (x : Int) (h0 : 0 ≤ x) (h1 : x ≤ 9223372036854775807) (w : World) :
  Calls Try.prog 75 #[.int .i64 x] w fun e w' => e = .returned (.tuple #[.agg #[.int .i64 (rtL x), .int .i64 (rtH x)], .int .i64 0]) ∧ Below w.heap.size w w' := by
 obtain ⟨a0, a1, a2⟩ := rt_spec h0
 have ab := rt_bd h0 h1
 have kb := bI_bd (rtR x)
 have hent : ∀ args w, (callFunc 85 args).run Try.prog w = .ok (.enter 85 args) w := enters_of Try.func85 (by kernel_rfl) rfl
 have wx : IntKind.u64.wrap x = x := by rw [IntKind.wrap_u64]; omega
 have wl : IntKind.u64.wrap (x * 4294967296) = x % 4294967296 * 4294967296 := by rw [IntKind.wrap_u64]; omega
 have GR := hide (fun b c w hw => great48 (HasU b c (x / 4294967296) (x % 4294967296 * 4294967296)) (HasU.kept b c _ _) 85 (.pointer (some ⟨b, 0, none⟩)) (.pointer (some ⟨c, 0, none⟩)) hent (rtL x) ⟨a0, ab⟩ (fun n n0 n1 => small_at b c _ _ (x * 4294967296) (rtL x) n (by omega) ⟨by omega, by omega⟩ a0 a1 a2 n0 n1) w hw)
 have MU := hide (mul64 (rtL x) (rtL x) ⟨a0, by omega⟩ ⟨a0, by omega⟩)
 have OW := outward_any false (rtR x) (rtL x) (rtL x) (rtH x) ⟨a0, by omega⟩ rfl rfl
 have ft := out_t (lo := rtL x) (hi := rtH x) (decide_eq_true (by unfold rtH; omega))
 rw [ft.1, ft.2.1, ft.2.2] at OW
 have hR : rtR x = !(rtL x * rtL x == x * 4294967296) := rfl
 have m0 : 0 ≤ rtL x * rtL x := Int.mul_nonneg a0 a0
 generalize rtH x = HI at *
 generalize hr : rtR x = RR at *
 generalize rtL x = r at *
 generalize r * r = m at *
 have hcase : (RR = false ∧ m / 18446744073709551616 = x / 4294967296 ∧ m % 18446744073709551616 = x % 4294967296 * 4294967296) ∨ (RR = true ∧ ¬ m / 18446744073709551616 = x / 4294967296) ∨ (RR = true ∧ m / 18446744073709551616 = x / 4294967296 ∧ ¬ m % 18446744073709551616 = x % 4294967296 * 4294967296) := by
  by_cases c : m = x * 4294967296
  ·left
   exact ⟨by rw [hR]; simp [c], by omega, by omega⟩
  ·have : RR = true := by rw [hR]; simp [c]
   by_cases c2 : m / 18446744073709551616 = x / 4294967296
   ·right; right; exact ⟨this, c2, by omega⟩
   ·right; left; exact ⟨this, c2⟩
 clear a0 a1 a2 ab kb hent ft m0 h0 h1 hr hR
 rcases hcase with ⟨rfl, k1, k2⟩ | ⟨rfl, k1⟩ | ⟨rfl, k1, k2⟩
 all_goals have OW' := hide OW
 all_goals clear OW
 ·go_enter Try.func75, Try.ntmps75
  go_wp2_with fail
  refine (GR.out (w.heap.size + 1) (w.heap.size + 1 + 1) _ ⟨⟨by go_simp, by simp <;> omega⟩, by go_simp, by simp <;> omega⟩).mono ?_
  rintro e w1 ⟨rfl, hb1⟩
  obtain ⟨hc1, hf1⟩ := bcell hb1
  have hz1 := hb1.size
  try simp only [World.size_alloc, World.size_setCell] at hz1
  try have : w.heap.size < w1.heap.size := by omega
  try have : w.heap.size ≤ w1.heap.size := by omega
  try have : w.heap.size + 1 < w1.heap.size := by omega
  try have : w.heap.size + 1 ≤ w1.heap.size := by omega
  try have : w.heap.size + 1 + 1 < w1.heap.size := by omega
  try have : w.heap.size + 1 + 1 ≤ w1.heap.size := by omega
  have c1_0_0 : w1.cell? ⟨w.heap.size, 0, none⟩ = some (.int .i64 (0)) := by go_simp
  have g1_0_0 : w1.frozen? ⟨w.heap.size, 0, none⟩ = false := by go_simp
  have c1_0_1 : w1.cell? ⟨w.heap.size, 1, none⟩ = some (.int .i64 (0)) := by go_simp
  have g1_0_1 : w1.frozen? ⟨w.heap.size, 1, none⟩ = false := by go_simp
  have c1_1_0 : w1.cell? ⟨w.heap.size + 1, 0, none⟩ = some (.int .u64 (x / 4294967296)) := by go_simp
  have c1_2_0 : w1.cell? ⟨w.heap.size + 1 + 1, 0, none⟩ = some (.int .u64 (x % 4294967296 * 4294967296)) := by go_simp
  clear hc1 hf1
  go_wp2_with fail
  refine (MU.out _).mono ?_
  rintro e w1 ⟨rfl, rfl⟩
  go_wp2_with fail
  refine (OW'.out _).mono ?_
  rintro e w2 ⟨rfl, hb2⟩
  obtain ⟨hc2, hf2⟩ := bcell hb2
  have hz2 := hb2.size
  try simp only [World.size_alloc, World.size_setCell] at hz2
  try have : w.heap.size < w2.heap.size := by omega
  try have : w.heap.size ≤ w2.heap.size := by omega
  try have : w.heap.size + 1 < w2.heap.size := by omega
  try have : w.heap.size + 1 ≤ w2.heap.size := by omega
  try have : w.heap.size + 1 + 1 < w2.heap.size := by omega
  try have : w.heap.size + 1 + 1 ≤ w2.heap.size := by omega
  have c2_0_0 : w2.cell? ⟨w.heap.size, 0, none⟩ = some (.int .i64 (0)) := by go_simp
  have g2_0_0 : w2.frozen? ⟨w.heap.size, 0, none⟩ = false := by go_simp
  have c2_0_1 : w2.cell? ⟨w.heap.size, 1, none⟩ = some (.int .i64 (0)) := by go_simp
  have g2_0_1 : w2.frozen? ⟨w.heap.size, 1, none⟩ = false := by go_simp
  clear hc2 hf2
  go_wp2
  refine bodyPost_ret (v := .tuple #[.agg #[.int .i64 (r), .int .i64 (HI)], .int .i64 0]) (by simp only [results, Try.results75]; go_simp) rfl ⟨rfl, blw_⟩
 ·go_enter Try.func75, Try.ntmps75
  go_wp2_with fail
  refine (GR.out (w.heap.size + 1) (w.heap.size + 1 + 1) _ ⟨⟨by go_simp, by simp <;> omega⟩, by go_simp, by simp <;> omega⟩).mono ?_
  rintro e w1 ⟨rfl, hb1⟩
  obtain ⟨hc1, hf1⟩ := bcell hb1
  have hz1 := hb1.size
  try simp only [World.size_alloc, World.size_setCell] at hz1
  try have : w.heap.size < w1.heap.size := by omega
  try have : w.heap.size ≤ w1.heap.size := by omega
  try have : w.heap.size + 1 < w1.heap.size := by omega
  try have : w.heap.size + 1 ≤ w1.heap.size := by omega
  try have : w.heap.size + 1 + 1 < w1.heap.size := by omega
  try have : w.heap.size + 1 + 1 ≤ w1.heap.size := by omega
  have c1_0_0 : w1.cell? ⟨w.heap.size, 0, none⟩ = some (.int .i64 (0)) := by go_simp
  have g1_0_0 : w1.frozen? ⟨w.heap.size, 0, none⟩ = false := by go_simp
  have c1_0_1 : w1.cell? ⟨w.heap.size, 1, none⟩ = some (.int .i64 (0)) := by go_simp
  have g1_0_1 : w1.frozen? ⟨w.heap.size, 1, none⟩ = false := by go_simp
  have c1_1_0 : w1.cell? ⟨w.heap.size + 1, 0, none⟩ = some (.int .u64 (x / 4294967296)) := by go_simp
  have c1_2_0 : w1.cell? ⟨w.heap.size + 1 + 1, 0, none⟩ = some (.int .u64 (x % 4294967296 * 4294967296)) := by go_simp
  clear hc1 hf1
  go_wp2_with fail
  refine (MU.out _).mono ?_
  rintro e w1 ⟨rfl, rfl⟩
  go_wp2_with fail
  refine (OW'.out _).mono ?_
  rintro e w2 ⟨rfl, hb2⟩
  obtain ⟨hc2, hf2⟩ := bcell hb2
  have hz2 := hb2.size
  try simp only [World.size_alloc, World.size_setCell] at hz2
  try have : w.heap.size < w2.heap.size := by omega
  try have : w.heap.size ≤ w2.heap.size := by omega
  try have : w.heap.size + 1 < w2.heap.size := by omega
  try have : w.heap.size + 1 ≤ w2.heap.size := by omega
  try have : w.heap.size + 1 + 1 < w2.heap.size := by omega
  try have : w.heap.size + 1 + 1 ≤ w2.heap.size := by omega
  have c2_0_0 : w2.cell? ⟨w.heap.size, 0, none⟩ = some (.int .i64 (0)) := by go_simp
  have g2_0_0 : w2.frozen? ⟨w.heap.size, 0, none⟩ = false := by go_simp
  have c2_0_1 : w2.cell? ⟨w.heap.size, 1, none⟩ = some (.int .i64 (0)) := by go_simp
  have g2_0_1 : w2.frozen? ⟨w.heap.size, 1, none⟩ = false := by go_simp
  clear hc2 hf2
  go_wp2
  refine bodyPost_ret (v := .tuple #[.agg #[.int .i64 (r), .int .i64 (HI)], .int .i64 0]) (by simp only [results, Try.results75]; go_simp) rfl ⟨rfl, blw_⟩
 ·have k3 : (m % 18446744073709551616 != x % 4294967296 * 4294967296) = true := bne_iff_ne.2 k2
  go_enter Try.func75, Try.ntmps75
  go_wp2_with fail
  refine (GR.out (w.heap.size + 1) (w.heap.size + 1 + 1) _ ⟨⟨by go_simp, by simp <;> omega⟩, by go_simp, by simp <;> omega⟩).mono ?_
  rintro e w1 ⟨rfl, hb1⟩
  obtain ⟨hc1, hf1⟩ := bcell hb1
  have hz1 := hb1.size
  try simp only [World.size_alloc, World.size_setCell] at hz1
  try have : w.heap.size < w1.heap.size := by omega
  try have : w.heap.size ≤ w1.heap.size := by omega
  try have : w.heap.size + 1 < w1.heap.size := by omega
  try have : w.heap.size + 1 ≤ w1.heap.size := by omega
  try have : w.heap.size + 1 + 1 < w1.heap.size := by omega
  try have : w.heap.size + 1 + 1 ≤ w1.heap.size := by omega
  have c1_0_0 : w1.cell? ⟨w.heap.size, 0, none⟩ = some (.int .i64 (0)) := by go_simp
  have g1_0_0 : w1.frozen? ⟨w.heap.size, 0, none⟩ = false := by go_simp
  have c1_0_1 : w1.cell? ⟨w.heap.size, 1, none⟩ = some (.int .i64 (0)) := by go_simp
  have g1_0_1 : w1.frozen? ⟨w.heap.size, 1, none⟩ = false := by go_simp
  have c1_1_0 : w1.cell? ⟨w.heap.size + 1, 0, none⟩ = some (.int .u64 (x / 4294967296)) := by go_simp
  have c1_2_0 : w1.cell? ⟨w.heap.size + 1 + 1, 0, none⟩ = some (.int .u64 (x % 4294967296 * 4294967296)) := by go_simp
  clear hc1 hf1
  go_wp2_with fail
  refine (MU.out _).mono ?_
  rintro e w1 ⟨rfl, rfl⟩
  go_wp2_with fail
  refine (OW'.out _).mono ?_
  rintro e w2 ⟨rfl, hb2⟩
  obtain ⟨hc2, hf2⟩ := bcell hb2
  have hz2 := hb2.size
  try simp only [World.size_alloc, World.size_setCell] at hz2
  try have : w.heap.size < w2.heap.size := by omega
  try have : w.heap.size ≤ w2.heap.size := by omega
  try have : w.heap.size + 1 < w2.heap.size := by omega
  try have : w.heap.size + 1 ≤ w2.heap.size := by omega
  try have : w.heap.size + 1 + 1 < w2.heap.size := by omega
  try have : w.heap.size + 1 + 1 ≤ w2.heap.size := by omega
  have c2_0_0 : w2.cell? ⟨w.heap.size, 0, none⟩ = some (.int .i64 (0)) := by go_simp
  have g2_0_0 : w2.frozen? ⟨w.heap.size, 0, none⟩ = false := by go_simp
  have c2_0_1 : w2.cell? ⟨w.heap.size, 1, none⟩ = some (.int .i64 (0)) := by go_simp
  have g2_0_1 : w2.frozen? ⟨w.heap.size, 1, none⟩ = false := by go_simp
  clear hc2 hf2
  go_wp2
  refine bodyPost_ret (v := .tuple #[.agg #[.int .i64 (r), .int .i64 (HI)], .int .i64 0]) (by simp only [results, Try.results75]; go_simp) rfl ⟨rfl, blw_⟩
noncomputable def roL (al ah : Int) : Int := if ah < 0 then 0 else rtL (mx al 0)
noncomputable def roH (ah : Int) : Int := if ah < 0 then 0 else rtH ah
def roE (ah : Int) : Int := if ah < 0 then 4 else 0
theorem ro_t {al ah : Int} (h : ah < 0) : roL al ah = 0 ∧ roH ah = 0 ∧ roE ah = 4 := by simp [roL, roH, roE, h]
theorem ro_f {al ah : Int} (h : ¬ ah < 0) : roL al ah = rtL (mx al 0) ∧ roH ah = rtH ah ∧ roE ah = 0 := by simp [roL, roH, roE, h]
theorem root_at (x : Int) (h0 : 0 ≤ x) (h1 : x ≤ 9223372036854775807) : Answers (fun _ => True) 75 #[] x (rtL x) (rtH x) 0 := fun w _ => root_any x h0 h1 w
theorem sroot_any (al ah : Int) (i0 : I64 al) (i1 : I64 ah) (w : World) :
  Calls Try.prog 59 #[.agg #[.int .i64 (al), .int .i64 (ah)]] w fun e w' => e = .returned (.tuple #[.agg #[.int .i64 (okI (vB al ah) (roL al ah)), .int .i64 (okI (vB al ah) (roH ah))], .int .i64 (errE (vB al ah) (roE ah))]) ∧ Below w.heap.size w w' := by
 have h0 := i0.1
 have b1 := i1.2
 cases hv : vB al ah
 ·rw [ok_f, ok_f, err_f]
  have HV := hide hv
  clear hv i0 i1
  go_enter Try.func59, Try.ntmps59
  go_wp2_with fail
  go_at_call 44
  refine (invalid1 al ah _ _ _ h0 (by go_simp) (by go_simp) (by go_simp) true (by simpa using HV.out)).mono ?_
  rintro e w1 ⟨rfl, hb1⟩
  obtain ⟨hc1, hf1⟩ := bcell hb1
  have hz1 := hb1.size
  try simp only [World.size_alloc, World.size_setCell] at hz1
  try have : w.heap.size < w1.heap.size := by omega
  try have : w.heap.size ≤ w1.heap.size := by omega
  try have : w.heap.size + 1 < w1.heap.size := by omega
  try have : w.heap.size + 1 ≤ w1.heap.size := by omega
  try have : w.heap.size + 1 + 1 < w1.heap.size := by omega
  try have : w.heap.size + 1 + 1 ≤ w1.heap.size := by omega
  go_wp2
  refine bodyPost_ret (v := .tuple #[.agg #[.int .i64 (0), .int .i64 (0)], .int .i64 2]) (by simp only [results, Try.results59]; go_simp) rfl ⟨rfl, blw_⟩
 ·rw [ok_t, ok_t, err_t]
  have HV := hide hv
  obtain ⟨v1, v2⟩ := vB_tt hv
  by_cases c : ah < 0
  ·obtain ⟨e1, e2, e3⟩ := ro_t (al := al) c
   rw [e1, e2, e3]
   clear hv i0 i1 e1 e2 e3
   go_enter Try.func59, Try.ntmps59
   go_wp2_with fail
   go_at_call 44
   refine (invalid1 al ah _ _ _ h0 (by go_simp) (by go_simp) (by go_simp) false (by simpa using HV.out)).mono ?_
   rintro e w1 ⟨rfl, hb1⟩
   obtain ⟨hc1, hf1⟩ := bcell hb1
   have hz1 := hb1.size
   try simp only [World.size_alloc, World.size_setCell] at hz1
   try have : w.heap.size < w1.heap.size := by omega
   try have : w.heap.size ≤ w1.heap.size := by omega
   try have : w.heap.size + 1 < w1.heap.size := by omega
   try have : w.heap.size + 1 ≤ w1.heap.size := by omega
   try have : w.heap.size + 1 + 1 < w1.heap.size := by omega
   try have : w.heap.size + 1 + 1 ≤ w1.heap.size := by omega
   go_wp2
   refine bodyPost_ret (v := .tuple #[.agg #[.int .i64 (0), .int .i64 (0)], .int .i64 4]) (by simp only [results, Try.results59]; go_simp) rfl ⟨rfl, blw_⟩
  ·obtain ⟨e1, e2, e3⟩ := ro_f (al := al) c
   rw [e1, e2, e3]
   have m1 : max al 0 = mx al 0 := by unfold mx; split <;> omega
   have mb : 0 ≤ mx al 0 ∧ mx al 0 ≤ ah := by unfold mx; split <;> omega
   obtain ⟨m, hm⟩ : ∃ v, mx al 0 = v := ⟨_, rfl⟩
   rw [hm] at m1 mb ⊢
   have hent : ∀ args w, (callFunc 75 args).run Try.prog w = .ok (.enter 75 args) w := enters_of Try.func75 (by kernel_rfl) rfl
   have EN := fun w => ends_0 (fun _ => True) ⟨fun _ _ => trivial⟩ 75 hent m ah _ _ _ _ _ _ (root_at m mb.1 (by omega)) (root_at ah (by omega) b1) w trivial
   have hE : enL (rtL m) 0 (rtL ah) 0 (m == ah) = rtL m ∧ enH (rtH m) 0 (rtH ah) 0 (m == ah) = rtH ah ∧ enE 0 0 (m == ah) = 0 := by
    have k1 := rt_monoL mb.1 mb.2
    have k2 := rt_monoH mb.1 mb.2
    by_cases q : m = ah
    ·subst q; simp [enL, enH, enE]
    ·have q' : (m == ah) = false := by simp [q]
     rw [q']
     have z1 : mi (rtL m) (rtL ah) = rtL m := by unfold mi; split <;> omega
     have z2 : mx (rtH m) (rtH ah) = rtH ah := by unfold mx; split <;> omega
     simp [enL, enH, enE, z1, z2]
   rw [hE.1, hE.2.1, hE.2.2] at EN
   have EN' := hide EN
   clear hv i0 i1 e1 e2 e3 EN hE hent mb hm
   generalize rtL m = rl at *
   generalize rtH ah = rh at *
   go_enter Try.func59, Try.ntmps59
   go_wp2_with fail
   go_at_call 44
   refine (invalid1 al ah _ _ _ h0 (by go_simp) (by go_simp) (by go_simp) false (by simpa using HV.out)).mono ?_
   rintro e w1 ⟨rfl, hb1⟩
   obtain ⟨hc1, hf1⟩ := bcell hb1
   have hz1 := hb1.size
   try simp only [World.size_alloc, World.size_setCell] at hz1
   try have : w.heap.size < w1.heap.size := by omega
   try have : w.heap.size ≤ w1.heap.size := by omega
   try have : w.heap.size + 1 < w1.heap.size := by omega
   try have : w.heap.size + 1 ≤ w1.heap.size := by omega
   have c1_0_0 : w1.cell? ⟨w.heap.size, 0, none⟩ = some (.int .i64 (al)) := by go_simp
   have c1_0_1 : w1.cell? ⟨w.heap.size, 1, none⟩ = some (.int .i64 (ah)) := by go_simp
   have c1_1_0 : w1.cell? ⟨w.heap.size + 1, 0, none⟩ = some (.int .i64 (0)) := by go_simp
   have g1_1_0 : w1.frozen? ⟨w.heap.size + 1, 0, none⟩ = false := by go_simp
   have c1_1_1 : w1.cell? ⟨w.heap.size + 1, 1, none⟩ = some (.int .i64 (0)) := by go_simp
   have g1_1_1 : w1.frozen? ⟨w.heap.size + 1, 1, none⟩ = false := by go_simp
   clear hc1 hf1
   go_wp2_with fail
   refine (EN'.out _).mono ?_
   rintro e w2 ⟨rfl, hb2⟩
   obtain ⟨hc2, hf2⟩ := bcell hb2
   have hz2 := hb2.size
   try simp only [World.size_alloc, World.size_setCell] at hz2
   try have : w.heap.size < w2.heap.size := by omega
   try have : w.heap.size ≤ w2.heap.size := by omega
   try have : w.heap.size + 1 < w2.heap.size := by omega
   try have : w.heap.size + 1 ≤ w2.heap.size := by omega
   have c2_0_0 : w2.cell? ⟨w.heap.size, 0, none⟩ = some (.int .i64 (al)) := by go_simp
   have c2_0_1 : w2.cell? ⟨w.heap.size, 1, none⟩ = some (.int .i64 (ah)) := by go_simp
   have c2_1_0 : w2.cell? ⟨w.heap.size + 1, 0, none⟩ = some (.int .i64 (0)) := by go_simp
   have g2_1_0 : w2.frozen? ⟨w.heap.size + 1, 0, none⟩ = false := by go_simp
   have c2_1_1 : w2.cell? ⟨w.heap.size + 1, 1, none⟩ = some (.int .i64 (0)) := by go_simp
   have g2_1_1 : w2.frozen? ⟨w.heap.size + 1, 1, none⟩ = false := by go_simp
   clear hc2 hf2 c1_0_0 c1_0_1 c1_1_0 g1_1_0 c1_1_1 g1_1_1
   go_wp2
   refine bodyPost_ret (v := .tuple #[.agg #[.int .i64 (rl), .int .i64 (rh)], .int .i64 0]) (by simp only [results, Try.results59]; go_simp) rfl ⟨rfl, blw_⟩
theorem rroot_x (x : Int) (h0 : 0 ≤ x) (h1 : x ≤ 9223372036854775807) (w : World) :
  Calls Try.prog 66 #[.agg #[.int .i64 (wH (x * 4294967296)), .int .u64 (wL (x * 4294967296))]] w fun e w' => e = .returned (.int .i64 (rtL x)) ∧ Below w.heap.size w w' := by
 obtain ⟨a0, a1, a2⟩ := rt_spec h0
 exact rroot (x * 4294967296) (rtL x) ⟨by omega, by omega⟩ a0 a1 a2 w
theorem rsroot_any (al ah : Int) (i0 : I64 al) (i1 : I64 ah) (w : World) :
  Calls Try.prog 52 #[.agg #[.int .i64 (al), .int .i64 (ah)]] w fun e w' => e = .returned (.tuple #[.agg #[.int .i64 (okI (vB al ah) (roL al ah)), .int .i64 (okI (vB al ah) (roH ah))], .int .i64 (errE (vB al ah) (roE ah))]) ∧ Below w.heap.size w w' := by
 have b1 := i1.2
 cases hv : vB al ah
 ·rw [ok_f, ok_f, err_f]
  have HV := hide (show chkI al ah = 2 by simp [chkI, hv])
  clear hv i0 i1
  go_enter Try.func52, Try.ntmps52
  go_wp2_with fail
  refine (rcheck al ah 2 HV.out _).mono ?_
  rintro e w1 ⟨rfl, hb1⟩
  obtain ⟨hc1, hf1⟩ := bcell hb1
  have hz1 := hb1.size
  try simp only [World.size_alloc, World.size_setCell] at hz1
  try have : w.heap.size < w1.heap.size := by omega
  try have : w.heap.size ≤ w1.heap.size := by omega
  try have : w.heap.size + 1 < w1.heap.size := by omega
  try have : w.heap.size + 1 ≤ w1.heap.size := by omega
  go_wp2
  refine bodyPost_ret (v := .tuple #[.agg #[.int .i64 (0), .int .i64 (0)], .int .i64 2]) (by simp only [results, Try.results52]; go_simp) rfl ⟨rfl, blw_⟩
 ·rw [ok_t, ok_t, err_t]
  have HV := hide (show chkI al ah = 0 by simp [chkI, hv])
  obtain ⟨v1, v2⟩ := vB_tt hv
  by_cases c : ah < 0
  ·obtain ⟨e1, e2, e3⟩ := ro_t (al := al) c
   rw [e1, e2, e3]
   clear hv i0 i1 e1 e2 e3
   go_enter Try.func52, Try.ntmps52
   go_wp2_with fail
   refine (rcheck al ah 0 HV.out _).mono ?_
   rintro e w1 ⟨rfl, hb1⟩
   obtain ⟨hc1, hf1⟩ := bcell hb1
   have hz1 := hb1.size
   try simp only [World.size_alloc, World.size_setCell] at hz1
   try have : w.heap.size < w1.heap.size := by omega
   try have : w.heap.size ≤ w1.heap.size := by omega
   try have : w.heap.size + 1 < w1.heap.size := by omega
   try have : w.heap.size + 1 ≤ w1.heap.size := by omega
   go_wp2
   refine bodyPost_ret (v := .tuple #[.agg #[.int .i64 (0), .int .i64 (0)], .int .i64 4]) (by simp only [results, Try.results52]; go_simp) rfl ⟨rfl, blw_⟩
  ·obtain ⟨e1, e2, e3⟩ := ro_f (al := al) c
   rw [e1, e2, e3]
   have m1 : max al 0 = mx al 0 := by unfold mx; split <;> omega
   have mb : 0 ≤ mx al 0 ∧ mx al 0 ≤ ah := by unfold mx; split <;> omega
   obtain ⟨m, hm⟩ : ∃ v, mx al 0 = v := ⟨_, rfl⟩
   rw [hm] at m1 mb ⊢
   have c0 : 0 ≤ ah := by omega
   obtain ⟨a0, a1, a2⟩ := rt_spec c0
   have ab := rt_bd c0 b1
   have RL := hide (rroot_x m mb.1 (by omega))
   have RH := hide (rroot_x ah c0 b1)
   have WM := hide (rwide m ⟨by omega, by omega⟩)
   have WH' := hide (rwide ah i1)
   have UM := hide (rup32 m ⟨by omega, by omega⟩)
   have UH := hide (rup32 ah ⟨by omega, by omega⟩)
   have TT := hide (rtimes (rtL ah) (rtL ah) ⟨by omega, by omega⟩ ⟨by omega, by omega⟩)
   have w1' : wrap64 (rtL ah + 1) = rtL ah + 1 := by unfold wrap64; omega
   have hH : rtH ah = rtL ah + bI (rtR ah) := rfl
   have hR : rtR ah = !(rtL ah * rtL ah == ah * 4294967296) := rfl
   clear hv i0 i1 e1 e2 e3 mb hm
   generalize rtL m = rl at *
   generalize rtH ah = rh at *
   generalize rtR ah = rr at *
   generalize rtL ah = r at *
   generalize m * 4294967296 = M at *
   generalize ah * 4294967296 = AH at *
   by_cases cc : r * r < AH
   ·have LS := hide (rless_r (r * r) AH true (decide_eq_true cc))
    have hx : rr = true := by rw [hR]; simp; omega
    have e1 : Hid (rh = r + 1) := hide (by rw [hH, hx]; simp [bI])
    rw [e1.out]
    clear cc hx hH hR a0 a1 a2 ab
    go_enter Try.func52, Try.ntmps52
    go_wp2_with fail
    refine (rcheck al ah 0 HV.out _).mono ?_
    rintro e w1 ⟨rfl, hb1⟩
    obtain ⟨hc1, hf1⟩ := bcell hb1
    have hz1 := hb1.size
    try simp only [World.size_alloc, World.size_setCell] at hz1
    try have : w.heap.size < w1.heap.size := by omega
    try have : w.heap.size ≤ w1.heap.size := by omega
    try have : w.heap.size + 1 < w1.heap.size := by omega
    try have : w.heap.size + 1 ≤ w1.heap.size := by omega
    have c1_0_0 : w1.cell? ⟨w.heap.size, 0, none⟩ = some (.int .i64 (al)) := by go_simp
    have c1_0_1 : w1.cell? ⟨w.heap.size, 1, none⟩ = some (.int .i64 (ah)) := by go_simp
    have c1_1_0 : w1.cell? ⟨w.heap.size + 1, 0, none⟩ = some (.int .i64 (0)) := by go_simp
    have g1_1_0 : w1.frozen? ⟨w.heap.size + 1, 0, none⟩ = false := by go_simp
    have c1_1_1 : w1.cell? ⟨w.heap.size + 1, 1, none⟩ = some (.int .i64 (0)) := by go_simp
    have g1_1_1 : w1.frozen? ⟨w.heap.size + 1, 1, none⟩ = false := by go_simp
    clear hc1 hf1
    go_wp2_with fail
    refine (WM.out _).mono ?_
    rintro e w2 ⟨rfl, hb2⟩
    obtain ⟨hc2, hf2⟩ := bcell hb2
    have hz2 := hb2.size
    try simp only [World.size_alloc, World.size_setCell] at hz2
    try have : w.heap.size < w2.heap.size := by omega
    try have : w.heap.size ≤ w2.heap.size := by omega
    try have : w.heap.size + 1 < w2.heap.size := by omega
    try have : w.heap.size + 1 ≤ w2.heap.size := by omega
    have c2_0_0 : w2.cell? ⟨w.heap.size, 0, none⟩ = some (.int .i64 (al)) := by go_simp
    have c2_0_1 : w2.cell? ⟨w.heap.size, 1, none⟩ = some (.int .i64 (ah)) := by go_simp
    have c2_1_0 : w2.cell? ⟨w.heap.size + 1, 0, none⟩ = some (.int .i64 (0)) := by go_simp
    have g2_1_0 : w2.frozen? ⟨w.heap.size + 1, 0, none⟩ = false := by go_simp
    have c2_1_1 : w2.cell? ⟨w.heap.size + 1, 1, none⟩ = some (.int .i64 (0)) := by go_simp
    have g2_1_1 : w2.frozen? ⟨w.heap.size + 1, 1, none⟩ = false := by go_simp
    clear hc2 hf2 c1_0_0 c1_0_1 c1_1_0 g1_1_0 c1_1_1 g1_1_1
    go_wp2_with fail
    refine (UM.out _).mono ?_
    rintro e w3 ⟨rfl, hb3⟩
    obtain ⟨hc3, hf3⟩ := bcell hb3
    have hz3 := hb3.size
    try simp only [World.size_alloc, World.size_setCell] at hz3
    try have : w.heap.size < w3.heap.size := by omega
    try have : w.heap.size < w3.heap.size + 1 := by omega
    try have : w.heap.size ≤ w3.heap.size := by omega
    try have : w.heap.size + 1 < w3.heap.size := by omega
    try have : w.heap.size + 1 < w3.heap.size + 1 := by omega
    try have : w.heap.size + 1 ≤ w3.heap.size := by omega
    have c3_0_0 : w3.cell? ⟨w.heap.size, 0, none⟩ = some (.int .i64 (al)) := by go_simp
    have c3_0_1 : w3.cell? ⟨w.heap.size, 1, none⟩ = some (.int .i64 (ah)) := by go_simp
    have c3_1_0 : w3.cell? ⟨w.heap.size + 1, 0, none⟩ = some (.int .i64 (0)) := by go_simp
    have g3_1_0 : w3.frozen? ⟨w.heap.size + 1, 0, none⟩ = false := by go_simp
    have c3_1_1 : w3.cell? ⟨w.heap.size + 1, 1, none⟩ = some (.int .i64 (0)) := by go_simp
    have g3_1_1 : w3.frozen? ⟨w.heap.size + 1, 1, none⟩ = false := by go_simp
    clear hc3 hf3 c2_0_0 c2_0_1 c2_1_0 g2_1_0 c2_1_1 g2_1_1
    go_wp2_with fail
    refine (WH'.out _).mono ?_
    rintro e w4 ⟨rfl, hb4⟩
    obtain ⟨hc4, hf4⟩ := bcell hb4
    have hz4 := hb4.size
    try simp only [World.size_alloc, World.size_setCell] at hz4
    try have : w.heap.size < w4.heap.size := by omega
    try have : w.heap.size ≤ w4.heap.size := by omega
    try have : w.heap.size + 1 < w4.heap.size := by omega
    try have : w.heap.size + 1 ≤ w4.heap.size := by omega
    try have : w3.heap.size < w4.heap.size := by omega
    try have : w3.heap.size ≤ w4.heap.size := by omega
    have c4_0_0 : w4.cell? ⟨w.heap.size, 0, none⟩ = some (.int .i64 (al)) := by go_simp
    have c4_0_1 : w4.cell? ⟨w.heap.size, 1, none⟩ = some (.int .i64 (ah)) := by go_simp
    have c4_1_0 : w4.cell? ⟨w.heap.size + 1, 0, none⟩ = some (.int .i64 (0)) := by go_simp
    have g4_1_0 : w4.frozen? ⟨w.heap.size + 1, 0, none⟩ = false := by go_simp
    have c4_1_1 : w4.cell? ⟨w.heap.size + 1, 1, none⟩ = some (.int .i64 (0)) := by go_simp
    have g4_1_1 : w4.frozen? ⟨w.heap.size + 1, 1, none⟩ = false := by go_simp
    have c4_2_0 : w4.cell? ⟨w3.heap.size, 0, none⟩ = some (.int .i64 (wH (M))) := by go_simp
    have c4_2_1 : w4.cell? ⟨w3.heap.size, 1, none⟩ = some (.int .u64 (wL (M))) := by go_simp
    clear hc4 hf4 c3_0_0 c3_0_1 c3_1_0 g3_1_0 c3_1_1 g3_1_1
    go_wp2_with fail
    refine (UH.out _).mono ?_
    rintro e w5 ⟨rfl, hb5⟩
    obtain ⟨hc5, hf5⟩ := bcell hb5
    have hz5 := hb5.size
    try simp only [World.size_alloc, World.size_setCell] at hz5
    try have : w.heap.size < w5.heap.size := by omega
    try have : w.heap.size < w5.heap.size + 1 := by omega
    try have : w.heap.size ≤ w5.heap.size := by omega
    try have : w.heap.size + 1 < w5.heap.size := by omega
    try have : w.heap.size + 1 < w5.heap.size + 1 := by omega
    try have : w.heap.size + 1 ≤ w5.heap.size := by omega
    try have : w3.heap.size < w5.heap.size := by omega
    try have : w3.heap.size < w5.heap.size + 1 := by omega
    try have : w3.heap.size ≤ w5.heap.size := by omega
    have c5_0_0 : w5.cell? ⟨w.heap.size, 0, none⟩ = some (.int .i64 (al)) := by go_simp
    have c5_0_1 : w5.cell? ⟨w.heap.size, 1, none⟩ = some (.int .i64 (ah)) := by go_simp
    have c5_1_0 : w5.cell? ⟨w.heap.size + 1, 0, none⟩ = some (.int .i64 (0)) := by go_simp
    have g5_1_0 : w5.frozen? ⟨w.heap.size + 1, 0, none⟩ = false := by go_simp
    have c5_1_1 : w5.cell? ⟨w.heap.size + 1, 1, none⟩ = some (.int .i64 (0)) := by go_simp
    have g5_1_1 : w5.frozen? ⟨w.heap.size + 1, 1, none⟩ = false := by go_simp
    have c5_2_0 : w5.cell? ⟨w3.heap.size, 0, none⟩ = some (.int .i64 (wH (M))) := by go_simp
    have c5_2_1 : w5.cell? ⟨w3.heap.size, 1, none⟩ = some (.int .u64 (wL (M))) := by go_simp
    clear hc5 hf5 c4_0_0 c4_0_1 c4_1_0 g4_1_0 c4_1_1 g4_1_1 c4_2_0 c4_2_1
    go_wp2_with fail
    refine (RH.out _).mono ?_
    rintro e w6 ⟨rfl, hb6⟩
    obtain ⟨hc6, hf6⟩ := bcell hb6
    have hz6 := hb6.size
    try simp only [World.size_alloc, World.size_setCell] at hz6
    try have : w.heap.size < w6.heap.size := by omega
    try have : w.heap.size ≤ w6.heap.size := by omega
    try have : w.heap.size + 1 < w6.heap.size := by omega
    try have : w.heap.size + 1 ≤ w6.heap.size := by omega
    try have : w3.heap.size < w6.heap.size := by omega
    try have : w3.heap.size ≤ w6.heap.size := by omega
    try have : w5.heap.size < w6.heap.size := by omega
    try have : w5.heap.size ≤ w6.heap.size := by omega
    have c6_0_0 : w6.cell? ⟨w.heap.size, 0, none⟩ = some (.int .i64 (al)) := by go_simp
    have c6_0_1 : w6.cell? ⟨w.heap.size, 1, none⟩ = some (.int .i64 (ah)) := by go_simp
    have c6_1_0 : w6.cell? ⟨w.heap.size + 1, 0, none⟩ = some (.int .i64 (0)) := by go_simp
    have g6_1_0 : w6.frozen? ⟨w.heap.size + 1, 0, none⟩ = false := by go_simp
    have c6_1_1 : w6.cell? ⟨w.heap.size + 1, 1, none⟩ = some (.int .i64 (0)) := by go_simp
    have g6_1_1 : w6.frozen? ⟨w.heap.size + 1, 1, none⟩ = false := by go_simp
    have c6_2_0 : w6.cell? ⟨w3.heap.size, 0, none⟩ = some (.int .i64 (wH (M))) := by go_simp
    have c6_2_1 : w6.cell? ⟨w3.heap.size, 1, none⟩ = some (.int .u64 (wL (M))) := by go_simp
    have c6_3_0 : w6.cell? ⟨w5.heap.size, 0, none⟩ = some (.int .i64 (wH (AH))) := by go_simp
    have c6_3_1 : w6.cell? ⟨w5.heap.size, 1, none⟩ = some (.int .u64 (wL (AH))) := by go_simp
    clear hc6 hf6 c5_0_0 c5_0_1 c5_1_0 g5_1_0 c5_1_1 g5_1_1 c5_2_0 c5_2_1
    go_wp2_with fail
    refine QT.quiet_b (by kernel_rfl) (by kernel_rfl) ?_
    repeat (first
     | go_big_quiet_skip
     | (go_big_quiet_want; go_big_quiet_op; first
      | go_big_quiet_on
      | (apply Exists.intro
         refine ⟨fun _ => ?_, ?_⟩
         ·first
          | rfl
          | (intro hC; obtain ⟨hcq, hfq⟩ := bcellB hC; go_simp; done)
          | (intro hC; obtain ⟨hcq, hfq⟩ := bcellB hC; go_simp; rfl)
          | (intro hC; have hcq := bcellG hC; go_simp; done)
          | (intro hC; have hcq := bcellG hC; go_simp; rfl)
          | (intro hC; go_at_call 68; (first | (with_reducible refine (TT.out _).mono ?_)); (intro e w2 hw; exact ⟨hw.1, qtrans (by simp) hC hw.2⟩))
          | (intro hC; go_at_call 67; (first | (with_reducible refine (LS.out _).mono ?_)); (intro e w2 hw; exact ⟨hw.1, qtrans (by simp) hC hw.2⟩))
         go_big_quiet_on)))
    refine wpQuiet_nil ?_
    intro w9 hC9
    obtain ⟨hc9, hf9⟩ := bcellB hC9
    have hz9 := hC9.size
    have q1 : w.heap.size < w9.heap.size ∧ w.heap.size + 1 < w9.heap.size ∧ w3.heap.size < w9.heap.size ∧ w5.heap.size < w9.heap.size := by omega
    obtain ⟨q1, q2, q3, q4⟩ := q1
    have c9_0 : w9.cell? ⟨w.heap.size + 1, 0, none⟩ = some (.int .i64 0) := by go_simp
    have c9_1 : w9.cell? ⟨w.heap.size + 1, 1, none⟩ = some (.int .i64 0) := by go_simp
    have f9_0 : w9.frozen? ⟨w.heap.size + 1, 0, none⟩ = false := by go_simp
    have f9_1 : w9.frozen? ⟨w.heap.size + 1, 1, none⟩ = false := by go_simp
    have d9_0 : w9.cell? ⟨w3.heap.size, 0, none⟩ = some (.int .i64 (wH M)) := by go_simp
    have d9_1 : w9.cell? ⟨w3.heap.size, 1, none⟩ = some (.int .u64 (wL M)) := by go_simp
    clear hc9 hf9
    go_wp2_with fail
    refine (RL.out _).mono ?_
    rintro e w20 ⟨rfl, hb20⟩
    obtain ⟨hc20, hf20⟩ := bcell hb20
    have hz20 := hb20.size
    try simp only [World.size_alloc, World.size_setCell] at hz20
    try have : w.heap.size < w20.heap.size := by omega
    try have : w.heap.size ≤ w20.heap.size := by omega
    try have : w.heap.size + 1 < w20.heap.size := by omega
    try have : w.heap.size + 1 ≤ w20.heap.size := by omega
    try have : w3.heap.size < w20.heap.size := by omega
    try have : w3.heap.size ≤ w20.heap.size := by omega
    try have : w5.heap.size < w20.heap.size := by omega
    try have : w5.heap.size ≤ w20.heap.size := by omega
    have c20_0_0 : w20.cell? ⟨w.heap.size + 1, 0, none⟩ = some (.int .i64 (0)) := by go_simp
    have g20_0_0 : w20.frozen? ⟨w.heap.size + 1, 0, none⟩ = false := by go_simp
    have c20_0_1 : w20.cell? ⟨w.heap.size + 1, 1, none⟩ = some (.int .i64 (0)) := by go_simp
    have g20_0_1 : w20.frozen? ⟨w.heap.size + 1, 1, none⟩ = false := by go_simp
    clear hc20 hf20
    go_wp2
    refine bodyPost_ret (v := .tuple #[.agg #[.int .i64 (rl), .int .i64 (r + 1)], .int .i64 0]) (by simp only [results, Try.results52]; go_simp) rfl ⟨rfl, blw_⟩
   ·have LS := hide (rless_r (r * r) AH false (decide_eq_false cc))
    have hx : rr = false := by rw [hR]; simp; omega
    have e1 : Hid (rh = r) := hide (by rw [hH, hx]; simp [bI])
    rw [e1.out]
    clear cc hx hH hR a0 a1 a2 ab
    go_enter Try.func52, Try.ntmps52
    go_wp2_with fail
    refine (rcheck al ah 0 HV.out _).mono ?_
    rintro e w1 ⟨rfl, hb1⟩
    obtain ⟨hc1, hf1⟩ := bcell hb1
    have hz1 := hb1.size
    try simp only [World.size_alloc, World.size_setCell] at hz1
    try have : w.heap.size < w1.heap.size := by omega
    try have : w.heap.size ≤ w1.heap.size := by omega
    try have : w.heap.size + 1 < w1.heap.size := by omega
    try have : w.heap.size + 1 ≤ w1.heap.size := by omega
    have c1_0_0 : w1.cell? ⟨w.heap.size, 0, none⟩ = some (.int .i64 (al)) := by go_simp
    have c1_0_1 : w1.cell? ⟨w.heap.size, 1, none⟩ = some (.int .i64 (ah)) := by go_simp
    have c1_1_0 : w1.cell? ⟨w.heap.size + 1, 0, none⟩ = some (.int .i64 (0)) := by go_simp
    have g1_1_0 : w1.frozen? ⟨w.heap.size + 1, 0, none⟩ = false := by go_simp
    have c1_1_1 : w1.cell? ⟨w.heap.size + 1, 1, none⟩ = some (.int .i64 (0)) := by go_simp
    have g1_1_1 : w1.frozen? ⟨w.heap.size + 1, 1, none⟩ = false := by go_simp
    clear hc1 hf1
    go_wp2_with fail
    refine (WM.out _).mono ?_
    rintro e w2 ⟨rfl, hb2⟩
    obtain ⟨hc2, hf2⟩ := bcell hb2
    have hz2 := hb2.size
    try simp only [World.size_alloc, World.size_setCell] at hz2
    try have : w.heap.size < w2.heap.size := by omega
    try have : w.heap.size ≤ w2.heap.size := by omega
    try have : w.heap.size + 1 < w2.heap.size := by omega
    try have : w.heap.size + 1 ≤ w2.heap.size := by omega
    have c2_0_0 : w2.cell? ⟨w.heap.size, 0, none⟩ = some (.int .i64 (al)) := by go_simp
    have c2_0_1 : w2.cell? ⟨w.heap.size, 1, none⟩ = some (.int .i64 (ah)) := by go_simp
    have c2_1_0 : w2.cell? ⟨w.heap.size + 1, 0, none⟩ = some (.int .i64 (0)) := by go_simp
    have g2_1_0 : w2.frozen? ⟨w.heap.size + 1, 0, none⟩ = false := by go_simp
    have c2_1_1 : w2.cell? ⟨w.heap.size + 1, 1, none⟩ = some (.int .i64 (0)) := by go_simp
    have g2_1_1 : w2.frozen? ⟨w.heap.size + 1, 1, none⟩ = false := by go_simp
    clear hc2 hf2 c1_0_0 c1_0_1 c1_1_0 g1_1_0 c1_1_1 g1_1_1
    go_wp2_with fail
    refine (UM.out _).mono ?_
    rintro e w3 ⟨rfl, hb3⟩
    obtain ⟨hc3, hf3⟩ := bcell hb3
    have hz3 := hb3.size
    try simp only [World.size_alloc, World.size_setCell] at hz3
    try have : w.heap.size < w3.heap.size := by omega
    try have : w.heap.size < w3.heap.size + 1 := by omega
    try have : w.heap.size ≤ w3.heap.size := by omega
    try have : w.heap.size + 1 < w3.heap.size := by omega
    try have : w.heap.size + 1 < w3.heap.size + 1 := by omega
    try have : w.heap.size + 1 ≤ w3.heap.size := by omega
    have c3_0_0 : w3.cell? ⟨w.heap.size, 0, none⟩ = some (.int .i64 (al)) := by go_simp
    have c3_0_1 : w3.cell? ⟨w.heap.size, 1, none⟩ = some (.int .i64 (ah)) := by go_simp
    have c3_1_0 : w3.cell? ⟨w.heap.size + 1, 0, none⟩ = some (.int .i64 (0)) := by go_simp
    have g3_1_0 : w3.frozen? ⟨w.heap.size + 1, 0, none⟩ = false := by go_simp
    have c3_1_1 : w3.cell? ⟨w.heap.size + 1, 1, none⟩ = some (.int .i64 (0)) := by go_simp
    have g3_1_1 : w3.frozen? ⟨w.heap.size + 1, 1, none⟩ = false := by go_simp
    clear hc3 hf3 c2_0_0 c2_0_1 c2_1_0 g2_1_0 c2_1_1 g2_1_1
    go_wp2_with fail
    refine (WH'.out _).mono ?_
    rintro e w4 ⟨rfl, hb4⟩
    obtain ⟨hc4, hf4⟩ := bcell hb4
    have hz4 := hb4.size
    try simp only [World.size_alloc, World.size_setCell] at hz4
    try have : w.heap.size < w4.heap.size := by omega
    try have : w.heap.size ≤ w4.heap.size := by omega
    try have : w.heap.size + 1 < w4.heap.size := by omega
    try have : w.heap.size + 1 ≤ w4.heap.size := by omega
    try have : w3.heap.size < w4.heap.size := by omega
    try have : w3.heap.size ≤ w4.heap.size := by omega
    have c4_0_0 : w4.cell? ⟨w.heap.size, 0, none⟩ = some (.int .i64 (al)) := by go_simp
    have c4_0_1 : w4.cell? ⟨w.heap.size, 1, none⟩ = some (.int .i64 (ah)) := by go_simp
    have c4_1_0 : w4.cell? ⟨w.heap.size + 1, 0, none⟩ = some (.int .i64 (0)) := by go_simp
    have g4_1_0 : w4.frozen? ⟨w.heap.size + 1, 0, none⟩ = false := by go_simp
    have c4_1_1 : w4.cell? ⟨w.heap.size + 1, 1, none⟩ = some (.int .i64 (0)) := by go_simp
    have g4_1_1 : w4.frozen? ⟨w.heap.size + 1, 1, none⟩ = false := by go_simp
    have c4_2_0 : w4.cell? ⟨w3.heap.size, 0, none⟩ = some (.int .i64 (wH (M))) := by go_simp
    have c4_2_1 : w4.cell? ⟨w3.heap.size, 1, none⟩ = some (.int .u64 (wL (M))) := by go_simp
    clear hc4 hf4 c3_0_0 c3_0_1 c3_1_0 g3_1_0 c3_1_1 g3_1_1
    go_wp2_with fail
    refine (UH.out _).mono ?_
    rintro e w5 ⟨rfl, hb5⟩
    obtain ⟨hc5, hf5⟩ := bcell hb5
    have hz5 := hb5.size
    try simp only [World.size_alloc, World.size_setCell] at hz5
    try have : w.heap.size < w5.heap.size := by omega
    try have : w.heap.size < w5.heap.size + 1 := by omega
    try have : w.heap.size ≤ w5.heap.size := by omega
    try have : w.heap.size + 1 < w5.heap.size := by omega
    try have : w.heap.size + 1 < w5.heap.size + 1 := by omega
    try have : w.heap.size + 1 ≤ w5.heap.size := by omega
    try have : w3.heap.size < w5.heap.size := by omega
    try have : w3.heap.size < w5.heap.size + 1 := by omega
    try have : w3.heap.size ≤ w5.heap.size := by omega
    have c5_0_0 : w5.cell? ⟨w.heap.size, 0, none⟩ = some (.int .i64 (al)) := by go_simp
    have c5_0_1 : w5.cell? ⟨w.heap.size, 1, none⟩ = some (.int .i64 (ah)) := by go_simp
    have c5_1_0 : w5.cell? ⟨w.heap.size + 1, 0, none⟩ = some (.int .i64 (0)) := by go_simp
    have g5_1_0 : w5.frozen? ⟨w.heap.size + 1, 0, none⟩ = false := by go_simp
    have c5_1_1 : w5.cell? ⟨w.heap.size + 1, 1, none⟩ = some (.int .i64 (0)) := by go_simp
    have g5_1_1 : w5.frozen? ⟨w.heap.size + 1, 1, none⟩ = false := by go_simp
    have c5_2_0 : w5.cell? ⟨w3.heap.size, 0, none⟩ = some (.int .i64 (wH (M))) := by go_simp
    have c5_2_1 : w5.cell? ⟨w3.heap.size, 1, none⟩ = some (.int .u64 (wL (M))) := by go_simp
    clear hc5 hf5 c4_0_0 c4_0_1 c4_1_0 g4_1_0 c4_1_1 g4_1_1 c4_2_0 c4_2_1
    go_wp2_with fail
    refine (RH.out _).mono ?_
    rintro e w6 ⟨rfl, hb6⟩
    obtain ⟨hc6, hf6⟩ := bcell hb6
    have hz6 := hb6.size
    try simp only [World.size_alloc, World.size_setCell] at hz6
    try have : w.heap.size < w6.heap.size := by omega
    try have : w.heap.size ≤ w6.heap.size := by omega
    try have : w.heap.size + 1 < w6.heap.size := by omega
    try have : w.heap.size + 1 ≤ w6.heap.size := by omega
    try have : w3.heap.size < w6.heap.size := by omega
    try have : w3.heap.size ≤ w6.heap.size := by omega
    try have : w5.heap.size < w6.heap.size := by omega
    try have : w5.heap.size ≤ w6.heap.size := by omega
    have c6_0_0 : w6.cell? ⟨w.heap.size, 0, none⟩ = some (.int .i64 (al)) := by go_simp
    have c6_0_1 : w6.cell? ⟨w.heap.size, 1, none⟩ = some (.int .i64 (ah)) := by go_simp
    have c6_1_0 : w6.cell? ⟨w.heap.size + 1, 0, none⟩ = some (.int .i64 (0)) := by go_simp
    have g6_1_0 : w6.frozen? ⟨w.heap.size + 1, 0, none⟩ = false := by go_simp
    have c6_1_1 : w6.cell? ⟨w.heap.size + 1, 1, none⟩ = some (.int .i64 (0)) := by go_simp
    have g6_1_1 : w6.frozen? ⟨w.heap.size + 1, 1, none⟩ = false := by go_simp
    have c6_2_0 : w6.cell? ⟨w3.heap.size, 0, none⟩ = some (.int .i64 (wH (M))) := by go_simp
    have c6_2_1 : w6.cell? ⟨w3.heap.size, 1, none⟩ = some (.int .u64 (wL (M))) := by go_simp
    have c6_3_0 : w6.cell? ⟨w5.heap.size, 0, none⟩ = some (.int .i64 (wH (AH))) := by go_simp
    have c6_3_1 : w6.cell? ⟨w5.heap.size, 1, none⟩ = some (.int .u64 (wL (AH))) := by go_simp
    clear hc6 hf6 c5_0_0 c5_0_1 c5_1_0 g5_1_0 c5_1_1 g5_1_1 c5_2_0 c5_2_1
    go_wp2_with fail
    refine QT.quiet_b (by kernel_rfl) (by kernel_rfl) ?_
    repeat (first
     | go_big_quiet_skip
     | (go_big_quiet_want; go_big_quiet_op; first
      | go_big_quiet_on
      | (apply Exists.intro
         refine ⟨fun _ => ?_, ?_⟩
         ·first
          | rfl
          | (intro hC; obtain ⟨hcq, hfq⟩ := bcellB hC; go_simp; done)
          | (intro hC; obtain ⟨hcq, hfq⟩ := bcellB hC; go_simp; rfl)
          | (intro hC; have hcq := bcellG hC; go_simp; done)
          | (intro hC; have hcq := bcellG hC; go_simp; rfl)
          | (intro hC; go_at_call 68; (first | (with_reducible refine (TT.out _).mono ?_)); (intro e w2 hw; exact ⟨hw.1, qtrans (by simp) hC hw.2⟩))
          | (intro hC; go_at_call 67; (first | (with_reducible refine (LS.out _).mono ?_)); (intro e w2 hw; exact ⟨hw.1, qtrans (by simp) hC hw.2⟩))
         go_big_quiet_on)))
    refine wpQuiet_nil ?_
    intro w9 hC9
    obtain ⟨hc9, hf9⟩ := bcellB hC9
    have hz9 := hC9.size
    have q1 : w.heap.size < w9.heap.size ∧ w.heap.size + 1 < w9.heap.size ∧ w3.heap.size < w9.heap.size ∧ w5.heap.size < w9.heap.size := by omega
    obtain ⟨q1, q2, q3, q4⟩ := q1
    have c9_0 : w9.cell? ⟨w.heap.size + 1, 0, none⟩ = some (.int .i64 0) := by go_simp
    have c9_1 : w9.cell? ⟨w.heap.size + 1, 1, none⟩ = some (.int .i64 0) := by go_simp
    have f9_0 : w9.frozen? ⟨w.heap.size + 1, 0, none⟩ = false := by go_simp
    have f9_1 : w9.frozen? ⟨w.heap.size + 1, 1, none⟩ = false := by go_simp
    have d9_0 : w9.cell? ⟨w3.heap.size, 0, none⟩ = some (.int .i64 (wH M)) := by go_simp
    have d9_1 : w9.cell? ⟨w3.heap.size, 1, none⟩ = some (.int .u64 (wL M)) := by go_simp
    clear hc9 hf9
    go_wp2_with fail
    refine (RL.out _).mono ?_
    rintro e w20 ⟨rfl, hb20⟩
    obtain ⟨hc20, hf20⟩ := bcell hb20
    have hz20 := hb20.size
    try simp only [World.size_alloc, World.size_setCell] at hz20
    try have : w.heap.size < w20.heap.size := by omega
    try have : w.heap.size ≤ w20.heap.size := by omega
    try have : w.heap.size + 1 < w20.heap.size := by omega
    try have : w.heap.size + 1 ≤ w20.heap.size := by omega
    try have : w3.heap.size < w20.heap.size := by omega
    try have : w3.heap.size ≤ w20.heap.size := by omega
    try have : w5.heap.size < w20.heap.size := by omega
    try have : w5.heap.size ≤ w20.heap.size := by omega
    have c20_0_0 : w20.cell? ⟨w.heap.size + 1, 0, none⟩ = some (.int .i64 (0)) := by go_simp
    have g20_0_0 : w20.frozen? ⟨w.heap.size + 1, 0, none⟩ = false := by go_simp
    have c20_0_1 : w20.cell? ⟨w.heap.size + 1, 1, none⟩ = some (.int .i64 (0)) := by go_simp
    have g20_0_1 : w20.frozen? ⟨w.heap.size + 1, 1, none⟩ = false := by go_simp
    clear hc20 hf20
    go_wp2
    refine bodyPost_ret (v := .tuple #[.agg #[.int .i64 (rl), .int .i64 (r)], .int .i64 0]) (by simp only [results, Try.results52]; go_simp) rfl ⟨rfl, blw_⟩
end Go.Proofs.Ytdoigcpcponnhaa
end
