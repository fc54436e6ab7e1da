/- The document's product of two numbers. -/
import Derived.Test.YtlcbcanlehackaaDoorShare
import Derived.Test.YtlcbcanlehackaaDoorMid2
set_option linter.unusedVariables false
set_option linter.unusedSimpArgs false
namespace Go.Proofs.YtlcbcanlehackaaDoor
open Go.RowKit
theorem rsize_any (x : Int) (h : I64 x) (w : World) :
    Calls Tryd.prog 65 #[.int .i64 x] w fun e w' => e = .returned (.int .u64 (ab x)) ∧ Below w.heap.size w w' := by
  obtain ⟨h0, h1⟩ := h
  by_cases c : x < 0
  · have E := hide (ab_n c)
    have e1 : IntKind.u64.wrap (-IntKind.u64.wrap x) = -x := by rw [IntKind.wrap_u64, IntKind.wrap_u64]; omega
    go_enter Tryd.func65, Tryd.ntmps65
    go_wp2
    go_ret
    exact ⟨by rw [E.out]; rfl, (by repeat (first | with_reducible exact Below.refl _ _ | with_reducible refine bdrew ?_ | ((with_reducible first | refine bset ?_ ?_ | refine ball ?_ ?_ | refine bth (by assumption) ?_ ?_); first | omega | (simp <;> omega))))⟩
  · have E := hide (ab_p (x := x) (by omega))
    have e1 : IntKind.u64.wrap x = x := by rw [IntKind.wrap_u64]; omega
    go_enter Tryd.func65, Tryd.ntmps65
    go_wp2
    go_ret
    exact ⟨by rw [E.out]; rfl, (by repeat (first | with_reducible exact Below.refl _ _ | with_reducible refine bdrew ?_ | ((with_reducible first | refine bset ?_ ?_ | refine ball ?_ ?_ | refine bth (by assumption) ?_ ?_); first | omega | (simp <;> omega))))⟩
theorem u64_wp {p : Int} (h0 : 0 ≤ p) (h1 : p < 18446744073709551616) : IntKind.u64.wrap p = p := by rw [IntKind.wrap_u64]; omega
theorem four_parts (a b : Int) : a * b = (a / 4294967296 * (b / 4294967296)) * 18446744073709551616 + (a / 4294967296 * (b % 4294967296) + a % 4294967296 * (b / 4294967296)) * 4294967296 + a % 4294967296 * (b % 4294967296) := by
  have ha : a = a / 4294967296 * 4294967296 + a % 4294967296 := by omega
  have hb : b = b / 4294967296 * 4294967296 + b % 4294967296 := by omega
  generalize a / 4294967296 = a1 at *
  generalize a % 4294967296 = a0 at *
  generalize b / 4294967296 = b1 at *
  generalize b % 4294967296 = b0 at *
  subst ha hb
  have e1 : (a1 * 4294967296 + a0) * (b1 * 4294967296 + b0) = a1 * b1 * 18446744073709551616 + a1 * b0 * 4294967296 + (a0 * b1 * 4294967296 + a0 * b0) := by
    rw [Int.add_mul, Int.mul_add, Int.mul_add]
    rw [show a1 * 4294967296 * (b1 * 4294967296) = a1 * b1 * 18446744073709551616 by rw [Int.mul_assoc, Int.mul_comm 4294967296, Int.mul_assoc b1, ← Int.mul_assoc]; rfl]
    rw [Int.mul_right_comm a1 4294967296 b0, Int.mul_comm a0 (b1 * 4294967296), Int.mul_right_comm b1, Int.mul_comm b1 a0]
  rw [e1]
  omega
theorem rtimes_core (x y a b : Int) (sg : Bool) (hs : ((decide (x < 0) != decide (y < 0))) = sg) (ha : 0 ≤ a ∧ a ≤ 9223372036854775808) (hb : 0 ≤ b ∧ b ≤ 9223372036854775808)
    (hA : ∀ w, Calls Tryd.prog 65 #[.int .i64 x] w fun e w' => e = .returned (.int .u64 a) ∧ Below w.heap.size w w')
    (hB : ∀ w, Calls Tryd.prog 65 #[.int .i64 y] w fun e w' => e = .returned (.int .u64 b) ∧ Below w.heap.size w w') (w : World) :
    Calls Tryd.prog 25 #[.int .i64 x, .int .i64 y] w fun e w' => e = .returned (.agg #[.int .i64 (wH (if sg then -(a * b) else a * b)), .int .u64 (wL (if sg then -(a * b) else a * b))]) ∧ Below w.heap.size w w' := by
  have fp := four_parts a b
  obtain ⟨qa1, qa2⟩ := quo_u64 (a := a) (b := 4294967296) (by omega) (by omega)
  obtain ⟨qb1, qb2⟩ := quo_u64 (a := b) (b := 4294967296) (by omega) (by omega)
  have a10 : 0 ≤ a / 4294967296 := by omega
  have a11 : a / 4294967296 ≤ 2147483648 := by omega
  have a00 : 0 ≤ a % 4294967296 := by omega
  have a01 : a % 4294967296 ≤ 4294967295 := by omega
  have b10 : 0 ≤ b / 4294967296 := by omega
  have b11 : b / 4294967296 ≤ 2147483648 := by omega
  have b00 : 0 ≤ b % 4294967296 := by omega
  have b01 : b % 4294967296 ≤ 4294967295 := by omega
  have M1 := Int.mul_le_mul a11 b11 b10 (by omega)
  have M2 := Int.mul_le_mul a11 b01 b00 (by omega)
  have M3 := Int.mul_le_mul a01 b11 b10 (by omega)
  have M4 := Int.mul_le_mul a01 b01 b00 (by omega)
  have M5 := Int.mul_le_mul ha.2 hb.2 hb.1 (by omega)
  have N5 := Int.mul_nonneg ha.1 hb.1
  have N1 := Int.mul_nonneg a10 b10
  have N2 := Int.mul_nonneg a10 b00
  have N3 := Int.mul_nonneg a00 b10
  have N4 := Int.mul_nonneg a00 b00
  generalize a / 4294967296 = a1 at *
  generalize a % 4294967296 = a0 at *
  generalize b / 4294967296 = b1 at *
  generalize b % 4294967296 = b0 at *
  have k1 := u64_wp (p := a0 * b0) N4 (by omega)
  have k2 := u64_wp (p := a1 * b0) N2 (by omega)
  have k3 := u64_wp (p := a0 * b1) N3 (by omega)
  have k4 := u64_wp (p := a1 * b1) N1 (by omega)
  have k5 := u64_wp (p := a1 * b0 + a0 * b1) (by omega) (by omega)
  have z0 : 0 ≤ a1 * b0 + a0 * b1 := by omega
  have z1 : (a1 * b0 + a0 * b1) * 4294967296 + a0 * b0 < 85070591730234615865843651857942052864 * 2 := by omega
  have PL := rplus ((a1 * b0 + a0 * b1) * 4294967296) (a0 * b0) ⟨by omega, by omega⟩ ⟨by omega, by omega⟩ ⟨by omega, by omega⟩
  rw [show wH ((a1 * b0 + a0 * b1) * 4294967296) = (a1 * b0 + a0 * b1) / 4294967296 by unfold wH; omega, show wL ((a1 * b0 + a0 * b1) * 4294967296) = (a1 * b0 + a0 * b1) % 4294967296 * 4294967296 by unfold wL; omega, show wH (a0 * b0) = 0 by unfold wH; omega, show wL (a0 * b0) = a0 * b0 by unfold wL; omega] at PL
  obtain ⟨AB, hAB⟩ : ∃ v, a * b = v := ⟨_, rfl⟩
  have M5' := M5
  rw [hAB] at fp M5' N5 ⊢
  have ehi : wrap64 (wH ((a1 * b0 + a0 * b1) * 4294967296 + a0 * b0) + a1 * b1) = wH AB := by rw [fp]; unfold wrap64 wH; omega
  have elo : wL ((a1 * b0 + a0 * b1) * 4294967296 + a0 * b0) = wL AB := by rw [fp]; unfold wL; omega
  have MI := hide (rminus AB ⟨by omega, by omega⟩)
  have PL' := hide PL
  have HS := hide hs
  clear hs hAB M5' PL fp
  generalize (a1 * b0 + a0 * b1) * 4294967296 + a0 * b0 = S1 at *
  cases sg
  · simp only [Bool.false_eq_true, if_false]
    go_enter Tryd.func25, Tryd.ntmps25
    go_wp2_with fail
    refine (hA _).mono ?_
    rintro e w1 ⟨rfl, hb1⟩
    obtain ⟨hc1, hf1⟩ := bcell hb1
    have hz1 := hb1.size
    try simp only [World.size_alloc, World.size_setCell] at hz1
    try have : w.heap.size < w1.heap.size := by omega
    try have : w.heap.size ≤ w1.heap.size := by omega
    have c1_0_0 : w1.cell? ⟨w.heap.size, 0, none⟩ = some (.int .i64 0) := by go_simp
    have g1_0_0 : w1.frozen? ⟨w.heap.size, 0, none⟩ = false := by go_simp
    have c1_0_1 : w1.cell? ⟨w.heap.size, 1, none⟩ = some (.int .u64 0) := by go_simp
    have g1_0_1 : w1.frozen? ⟨w.heap.size, 1, none⟩ = false := by go_simp
    clear hc1 hf1
    go_wp2_with fail
    refine (hB _).mono ?_
    rintro e w2 ⟨rfl, hb2⟩
    obtain ⟨hc2, hf2⟩ := bcell hb2
    have hz2 := hb2.size
    try simp only [World.size_alloc, World.size_setCell] at hz2
    try have : w.heap.size < w2.heap.size := by omega
    try have : w.heap.size ≤ w2.heap.size := by omega
    have c2_0_0 : w2.cell? ⟨w.heap.size, 0, none⟩ = some (.int .i64 0) := by go_simp
    have g2_0_0 : w2.frozen? ⟨w.heap.size, 0, none⟩ = false := by go_simp
    have c2_0_1 : w2.cell? ⟨w.heap.size, 1, none⟩ = some (.int .u64 0) := by go_simp
    have g2_0_1 : w2.frozen? ⟨w.heap.size, 1, none⟩ = false := by go_simp
    clear hc2 hf2 c1_0_0 g1_0_0 c1_0_1 g1_0_1
    go_wp2_with fail
    refine (PL'.out _).mono ?_
    rintro e w3 ⟨rfl, hb3⟩
    obtain ⟨hc3, hf3⟩ := bcell hb3
    have hz3 := hb3.size
    try simp only [World.size_alloc, World.size_setCell] at hz3
    try have : w.heap.size < w3.heap.size := by omega
    try have : w.heap.size < w3.heap.size + 1 := by omega
    try have : w.heap.size ≤ w3.heap.size := by omega
    have c3_0_0 : w3.cell? ⟨w.heap.size, 0, none⟩ = some (.int .i64 0) := by go_simp
    have g3_0_0 : w3.frozen? ⟨w.heap.size, 0, none⟩ = false := by go_simp
    have c3_0_1 : w3.cell? ⟨w.heap.size, 1, none⟩ = some (.int .u64 0) := by go_simp
    have g3_0_1 : w3.frozen? ⟨w.heap.size, 1, none⟩ = false := by go_simp
    clear hc3 hf3 c2_0_0 g2_0_0 c2_0_1 g2_0_1
    have hs2 : (!(decide (x < 0) == decide (y < 0))) = false := HS.out
    go_wp2
    refine bodyPost_ret (v := .agg #[.int .i64 (wH (AB)), .int .u64 (wL (AB))]) (by simp only [results, Tryd.results25]; go_simp) rfl ⟨rfl, (by repeat (first | with_reducible exact Below.refl _ _ | with_reducible refine bdrew ?_ | ((with_reducible first | refine bset ?_ ?_ | refine ball ?_ ?_ | refine bth (by assumption) ?_ ?_); first | omega | (simp <;> omega))))⟩
  · simp only [if_true]
    go_enter Tryd.func25, Tryd.ntmps25
    go_wp2_with fail
    refine (hA _).mono ?_
    rintro e w1 ⟨rfl, hb1⟩
    obtain ⟨hc1, hf1⟩ := bcell hb1
    have hz1 := hb1.size
    try simp only [World.size_alloc, World.size_setCell] at hz1
    try have : w.heap.size < w1.heap.size := by omega
    try have : w.heap.size ≤ w1.heap.size := by omega
    have c1_0_0 : w1.cell? ⟨w.heap.size, 0, none⟩ = some (.int .i64 0) := by go_simp
    have g1_0_0 : w1.frozen? ⟨w.heap.size, 0, none⟩ = false := by go_simp
    have c1_0_1 : w1.cell? ⟨w.heap.size, 1, none⟩ = some (.int .u64 0) := by go_simp
    have g1_0_1 : w1.frozen? ⟨w.heap.size, 1, none⟩ = false := by go_simp
    clear hc1 hf1
    go_wp2_with fail
    refine (hB _).mono ?_
    rintro e w2 ⟨rfl, hb2⟩
    obtain ⟨hc2, hf2⟩ := bcell hb2
    have hz2 := hb2.size
    try simp only [World.size_alloc, World.size_setCell] at hz2
    try have : w.heap.size < w2.heap.size := by omega
    try have : w.heap.size ≤ w2.heap.size := by omega
    have c2_0_0 : w2.cell? ⟨w.heap.size, 0, none⟩ = some (.int .i64 0) := by go_simp
    have g2_0_0 : w2.frozen? ⟨w.heap.size, 0, none⟩ = false := by go_simp
    have c2_0_1 : w2.cell? ⟨w.heap.size, 1, none⟩ = some (.int .u64 0) := by go_simp
    have g2_0_1 : w2.frozen? ⟨w.heap.size, 1, none⟩ = false := by go_simp
    clear hc2 hf2 c1_0_0 g1_0_0 c1_0_1 g1_0_1
    go_wp2_with fail
    refine (PL'.out _).mono ?_
    rintro e w3 ⟨rfl, hb3⟩
    obtain ⟨hc3, hf3⟩ := bcell hb3
    have hz3 := hb3.size
    try simp only [World.size_alloc, World.size_setCell] at hz3
    try have : w.heap.size < w3.heap.size := by omega
    try have : w.heap.size < w3.heap.size + 1 := by omega
    try have : w.heap.size ≤ w3.heap.size := by omega
    have c3_0_0 : w3.cell? ⟨w.heap.size, 0, none⟩ = some (.int .i64 0) := by go_simp
    have g3_0_0 : w3.frozen? ⟨w.heap.size, 0, none⟩ = false := by go_simp
    have c3_0_1 : w3.cell? ⟨w.heap.size, 1, none⟩ = some (.int .u64 0) := by go_simp
    have g3_0_1 : w3.frozen? ⟨w.heap.size, 1, none⟩ = false := by go_simp
    clear hc3 hf3 c2_0_0 g2_0_0 c2_0_1 g2_0_1
    have hs2 : (!(decide (x < 0) == decide (y < 0))) = true := HS.out
    go_wp2_with fail
    refine (MI.out _).mono ?_
    rintro e w4 ⟨rfl, hb4⟩
    obtain ⟨hc4, hf4⟩ := bcell hb4
    have hz4 := hb4.size
    try simp only [World.size_alloc, World.size_setCell] at hz4
    try have : w.heap.size < w4.heap.size := by omega
    try have : w.heap.size ≤ w4.heap.size := by omega
    try have : w3.heap.size < w4.heap.size := by omega
    try have : w3.heap.size ≤ w4.heap.size := by omega
    have c4_0_0 : w4.cell? ⟨w.heap.size, 0, none⟩ = some (.int .i64 0) := by go_simp
    have g4_0_0 : w4.frozen? ⟨w.heap.size, 0, none⟩ = false := by go_simp
    have c4_0_1 : w4.cell? ⟨w.heap.size, 1, none⟩ = some (.int .u64 0) := by go_simp
    have g4_0_1 : w4.frozen? ⟨w.heap.size, 1, none⟩ = false := by go_simp
    clear hc4 hf4
    go_wp2
    refine bodyPost_ret (v := .agg #[.int .i64 (wH (-AB)), .int .u64 (wL (-AB))]) (by simp only [results, Tryd.results25]; go_simp) rfl ⟨rfl, (by repeat (first | with_reducible exact Below.refl _ _ | with_reducible refine bdrew ?_ | ((with_reducible first | refine bset ?_ ?_ | refine ball ?_ ?_ | refine bth (by assumption) ?_ ?_); first | omega | (simp <;> omega))))⟩
/-- The product, as the document has it. -/
theorem rtimes (x y : Int) (ix : I64 x) (iy : I64 y) (w : World) :
    Calls Tryd.prog 25 #[.int .i64 x, .int .i64 y] w fun e w' => e = .returned (.agg #[.int .i64 (wH (x * y)), .int .u64 (wL (x * y))]) ∧ Below w.heap.size w w' := by
  have h := rtimes_core x y (ab x) (ab y) _ rfl (ab_bd ix) (ab_bd iy) (rsize_any x ix) (rsize_any y iy) w
  have e : (if (decide (x < 0) != decide (y < 0)) then -(ab x * ab y) else ab x * ab y) = x * y := by
    rw [ab_mul]
    cases (decide (x < 0) != decide (y < 0)) <;> simp
  rw [e] at h
  exact h
end Go.Proofs.YtlcbcanlehackaaDoor
