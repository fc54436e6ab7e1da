/- Roots of spans, on both sides. -/
import Derived.Test.YtlcbcanlehackaaDoorGreat
import Derived.Test.YtlcbcanlehackaaDoorRoot
import Derived.Test.YtlcbcanlehackaaDoorMul
set_option linter.unusedVariables false
set_option linter.unusedSimpArgs false
namespace Go.Proofs.YtlcbcanlehackaaDoor
open Go.RowKit
noncomputable def isq (a : Int) : Int := ((Classical.choose (root_is a.toNat) : Nat) : Int)
theorem isq_spec {a : Int} (h : 0 ≤ a) : 0 ≤ isq a ∧ isq a * isq a ≤ a ∧ a < (isq a + 1) * (isq a + 1) := by
  have s := Classical.choose_spec (root_is a.toNat)
  unfold isq
  generalize Classical.choose (root_is a.toNat) = n at *
  obtain ⟨s1, s2⟩ := s
  refine ⟨by omega, ?_, ?_⟩
  · have : ((n * n : Nat) : Int) ≤ (a.toNat : Int) := by exact_mod_cast s1
    rw [Int.natCast_mul] at this
    omega
  · have : (a.toNat : Int) < (((n + 1) * (n + 1) : Nat) : Int) := by exact_mod_cast s2
    rw [Int.natCast_mul, Int.natCast_add] at this
    have e : ((1 : Nat) : Int) = 1 := rfl
    rw [e] at this
    omega
theorem isq_mono {a b : Int} (h0 : 0 ≤ a) (h : a ≤ b) : isq a ≤ isq b := by
  obtain ⟨a0, a1, a2⟩ := isq_spec h0
  obtain ⟨b0, b1, b2⟩ := isq_spec (a := b) (by omega)
  have := root_lt (a := isq a) (b := isq b + 1) (by omega) (by omega)
  omega
noncomputable def rtL (x : Int) : Int := isq (x * 4294967296)
noncomputable def rtR (x : Int) : Bool := !(rtL x * rtL x == x * 4294967296)
noncomputable def rtH (x : Int) : Int := rtL x + bI (rtR x)
theorem rt_spec {x : Int} (h : 0 ≤ x) : 0 ≤ rtL x ∧ rtL x * rtL x ≤ x * 4294967296 ∧ x * 4294967296 < (rtL x + 1) * (rtL x + 1) := isq_spec (by omega)
theorem rt_bd {x : Int} (h : 0 ≤ x) (k : x ≤ 9223372036854775807) : rtL x < 281474976710656 := by
  obtain ⟨a0, a1, a2⟩ := rt_spec h
  exact root_lt (by omega) (by omega)
theorem bI_bd (b : Bool) : 0 ≤ bI b ∧ bI b ≤ 1 := by cases b <;> simp [bI]
theorem rt_le (x : Int) : rtL x ≤ rtH x := by have := bI_bd (rtR x); unfold rtH; omega
theorem rt_monoL {x y : Int} (h0 : 0 ≤ x) (h : x ≤ y) : rtL x ≤ rtL y := isq_mono (by omega) (by omega)
theorem rt_monoH {x y : Int} (h0 : 0 ≤ x) (h : x ≤ y) : rtH x ≤ rtH y := by
  have m := rt_monoL h0 h
  obtain ⟨a0, a1, a2⟩ := rt_spec h0
  obtain ⟨b0, b1, b2⟩ := rt_spec (x := y) (by omega)
  have k1 := bI_bd (rtR x)
  have k2 := bI_bd (rtR y)
  by_cases c : rtL x = rtL y
  · unfold rtH
    cases hy : rtR y
    · have hx : rtR x = false := by
        unfold rtR at hy ⊢
        simp at hy ⊢
        rw [c] at a1 ⊢
        omega
      rw [hx, c]
      simp [bI]
    · have : bI true = 1 := rfl
      omega
  · unfold rtH; omega
/-- The cells of two captured halves. -/
def HasU (b c : Nat) (x y : Int) (w : World) : Prop := (w.cell? ⟨b, 0, none⟩ = some (.int .u64 x) ∧ b < w.heap.size) ∧ w.cell? ⟨c, 0, none⟩ = some (.int .u64 y) ∧ c < w.heap.size
theorem HasU.kept (b c : Nat) (x y : Int) : Kept (HasU b c x y) := ⟨fun h hb => ⟨⟨by rw [(bcell hb).1 b 0 h.1.2]; exact h.1.1, Nat.lt_of_lt_of_le h.1.2 hb.size⟩, by rw [(bcell hb).1 c 0 h.2.2]; exact h.2.1, Nat.lt_of_lt_of_le h.2.2 hb.size⟩⟩
theorem small_at (b c : Nat) (H L a r n : Int) (hH : a = H * 18446744073709551616 + L) (hL : 0 ≤ L ∧ L < 18446744073709551616) (hr : 0 ≤ r) (r1 : r * r ≤ a) (r2 : a < (r + 1) * (r + 1)) (n0 : 0 ≤ n) (n1 : n < 562949953421312) :
    AnswersB (HasU b c H L) 79 #[.pointer (some ⟨b, 0, none⟩), .pointer (some ⟨c, 0, none⟩)] n (decide (n ≤ r)) := by
  intro w hw
  obtain ⟨⟨hc, hb⟩, hc', hb'⟩ := hw
  have e : decide (n ≤ r) = decide (n * n ≤ a) := by
    apply decide_eq_decide.2
    constructor
    · intro h; have := sq_le n0 h; omega
    · intro h; have := root_lt (a := n) (b := r + 1) (by omega) (by omega); omega
  rw [e]
  have MU := hide (mul64 n n ⟨n0, by omega⟩ ⟨n0, by omega⟩)
  change Calls Tryd.prog 79 #[.int .u64 n, .pointer (some ⟨b, 0, none⟩), .pointer (some ⟨c, 0, none⟩)] w _
  generalize n * n = m at *
  clear e r1 r2 n0 n1 hr
  by_cases k1 : m / 18446744073709551616 < H
  · rw [show decide (m ≤ a) = true from decide_eq_true (by omega)]
    clear hH hL
    go_enter Tryd.func79, Tryd.ntmps79
    go_wp2_with fail
    refine (MU.out _).mono ?_
    rintro e w ⟨rfl, rfl⟩
    go_wp2
    go_ret
    exact ⟨rfl, (by repeat (first | with_reducible exact Below.refl _ _ | with_reducible refine bdrew ?_ | ((with_reducible first | refine bset ?_ ?_ | refine ball ?_ ?_ | refine bth (by assumption) ?_ ?_); first | omega | (simp <;> omega))))⟩
  · by_cases k2 : m / 18446744073709551616 = H
    · by_cases k3 : m % 18446744073709551616 ≤ L
      · rw [show decide (m ≤ a) = true from decide_eq_true (by omega)]
        clear hH hL
        go_enter Tryd.func79, Tryd.ntmps79
        go_wp2_with fail
        refine (MU.out _).mono ?_
        rintro e w ⟨rfl, rfl⟩
        go_wp2
        go_ret
        exact ⟨by first | rfl | exact congrArg (fun b => Ending.returned (.bool b)) (decide_eq_true k3), (by repeat (first | with_reducible exact Below.refl _ _ | with_reducible refine bdrew ?_ | ((with_reducible first | refine bset ?_ ?_ | refine ball ?_ ?_ | refine bth (by assumption) ?_ ?_); first | omega | (simp <;> omega))))⟩
      · rw [show decide (m ≤ a) = false from decide_eq_false (by omega)]
        clear hH hL
        go_enter Tryd.func79, Tryd.ntmps79
        go_wp2_with fail
        refine (MU.out _).mono ?_
        rintro e w ⟨rfl, rfl⟩
        go_wp2
        go_ret
        exact ⟨congrArg (fun b => Ending.returned (.bool b)) (decide_eq_false (by omega)), (by repeat (first | with_reducible exact Below.refl _ _ | with_reducible refine bdrew ?_ | ((with_reducible first | refine bset ?_ ?_ | refine ball ?_ ?_ | refine bth (by assumption) ?_ ?_); first | omega | (simp <;> omega))))⟩
    · rw [show decide (m ≤ a) = false from decide_eq_false (by omega)]
      clear hH hL
      go_enter Tryd.func79, Tryd.ntmps79
      go_wp2_with fail
      refine (MU.out _).mono ?_
      rintro e w ⟨rfl, rfl⟩
      go_wp2
      go_ret
      exact ⟨congrArg (fun b => Ending.returned (.bool b)) (decide_eq_false (by omega)), (by repeat (first | with_reducible exact Below.refl _ _ | with_reducible refine bdrew ?_ | ((with_reducible first | refine bset ?_ ?_ | refine ball ?_ ?_ | refine bth (by assumption) ?_ ?_); first | omega | (simp <;> omega))))⟩
theorem root_any (x : Int) (h0 : 0 ≤ x) (h1 : x ≤ 9223372036854775807) (w : World) :
    Calls Tryd.prog 64 #[.int .i64 x] w fun e w' => e = .returned (.tuple #[.agg #[.int .i64 (rtL x), .int .i64 (rtH x)], .int .i64 0]) ∧ Below w.heap.size w w' := by
  obtain ⟨a0, a1, a2⟩ := rt_spec h0
  have ab := rt_bd h0 h1
  have kb := bI_bd (rtR x)
  have hent : ∀ args w, (callFunc 79 args).run Tryd.prog w = .ok (.enter 79 args) w := enters_of Tryd.func79 (by kernel_rfl) rfl
  have wx : IntKind.u64.wrap x = x := by rw [IntKind.wrap_u64]; omega
  have wl : IntKind.u64.wrap (x * 4294967296) = x % 4294967296 * 4294967296 := by rw [IntKind.wrap_u64]; omega
  have GR := hide (fun b c w hw => great48 (HasU b c (x / 4294967296) (x % 4294967296 * 4294967296)) (HasU.kept b c _ _) 79 (.pointer (some ⟨b, 0, none⟩)) (.pointer (some ⟨c, 0, none⟩)) hent (rtL x) ⟨a0, ab⟩ (fun n n0 n1 => small_at b c _ _ (x * 4294967296) (rtL x) n (by omega) ⟨by omega, by omega⟩ a0 a1 a2 n0 n1) w hw)
  have MU := hide (mul64 (rtL x) (rtL x) ⟨a0, by omega⟩ ⟨a0, by omega⟩)
  have OW := outward_any false (rtR x) (rtL x) (rtL x) (rtH x) ⟨a0, by omega⟩ rfl rfl
  have ft := out_t (lo := rtL x) (hi := rtH x) (decide_eq_true (by unfold rtH; omega))
  rw [ft.1, ft.2.1, ft.2.2] at OW
  have hR : rtR x = !(rtL x * rtL x == x * 4294967296) := rfl
  have m0 : 0 ≤ rtL x * rtL x := Int.mul_nonneg a0 a0
  generalize rtH x = HI at *
  generalize hr : rtR x = RR at *
  generalize rtL x = r at *
  generalize r * r = m at *
  have hcase : (RR = false ∧ m / 18446744073709551616 = x / 4294967296 ∧ m % 18446744073709551616 = x % 4294967296 * 4294967296) ∨ (RR = true ∧ ¬ m / 18446744073709551616 = x / 4294967296) ∨ (RR = true ∧ m / 18446744073709551616 = x / 4294967296 ∧ ¬ m % 18446744073709551616 = x % 4294967296 * 4294967296) := by
    by_cases c : m = x * 4294967296
    · left
      exact ⟨by rw [hR]; simp [c], by omega, by omega⟩
    · have : RR = true := by rw [hR]; simp [c]
      by_cases c2 : m / 18446744073709551616 = x / 4294967296
      · right; right; exact ⟨this, c2, by omega⟩
      · right; left; exact ⟨this, c2⟩
  clear a0 a1 a2 ab kb hent ft m0 h0 h1 hr hR
  rcases hcase with ⟨rfl, k1, k2⟩ | ⟨rfl, k1⟩ | ⟨rfl, k1, k2⟩
  all_goals have OW' := hide OW
  all_goals clear OW
  · go_enter Tryd.func64, Tryd.ntmps64
    go_wp2_with fail
    refine (GR.out (w.heap.size + 1) (w.heap.size + 1 + 1) _ ⟨⟨by go_simp, by simp <;> omega⟩, by go_simp, by simp <;> omega⟩).mono ?_
    rintro e w1 ⟨rfl, hb1⟩
    obtain ⟨hc1, hf1⟩ := bcell hb1
    have hz1 := hb1.size
    try simp only [World.size_alloc, World.size_setCell] at hz1
    try have : w.heap.size < w1.heap.size := by omega
    try have : w.heap.size ≤ w1.heap.size := by omega
    try have : w.heap.size + 1 < w1.heap.size := by omega
    try have : w.heap.size + 1 ≤ w1.heap.size := by omega
    try have : w.heap.size + 1 + 1 < w1.heap.size := by omega
    try have : w.heap.size + 1 + 1 ≤ w1.heap.size := by omega
    have c1_0_0 : w1.cell? ⟨w.heap.size, 0, none⟩ = some (.int .i64 (0)) := by go_simp
    have g1_0_0 : w1.frozen? ⟨w.heap.size, 0, none⟩ = false := by go_simp
    have c1_0_1 : w1.cell? ⟨w.heap.size, 1, none⟩ = some (.int .i64 (0)) := by go_simp
    have g1_0_1 : w1.frozen? ⟨w.heap.size, 1, none⟩ = false := by go_simp
    have c1_1_0 : w1.cell? ⟨w.heap.size + 1, 0, none⟩ = some (.int .u64 (x / 4294967296)) := by go_simp
    have c1_2_0 : w1.cell? ⟨w.heap.size + 1 + 1, 0, none⟩ = some (.int .u64 (x % 4294967296 * 4294967296)) := by go_simp
    clear hc1 hf1
    go_wp2_with fail
    refine (MU.out _).mono ?_
    rintro e w1 ⟨rfl, rfl⟩
    go_wp2_with fail
    refine (OW'.out _).mono ?_
    rintro e w2 ⟨rfl, hb2⟩
    obtain ⟨hc2, hf2⟩ := bcell hb2
    have hz2 := hb2.size
    try simp only [World.size_alloc, World.size_setCell] at hz2
    try have : w.heap.size < w2.heap.size := by omega
    try have : w.heap.size ≤ w2.heap.size := by omega
    try have : w.heap.size + 1 < w2.heap.size := by omega
    try have : w.heap.size + 1 ≤ w2.heap.size := by omega
    try have : w.heap.size + 1 + 1 < w2.heap.size := by omega
    try have : w.heap.size + 1 + 1 ≤ w2.heap.size := by omega
    have c2_0_0 : w2.cell? ⟨w.heap.size, 0, none⟩ = some (.int .i64 (0)) := by go_simp
    have g2_0_0 : w2.frozen? ⟨w.heap.size, 0, none⟩ = false := by go_simp
    have c2_0_1 : w2.cell? ⟨w.heap.size, 1, none⟩ = some (.int .i64 (0)) := by go_simp
    have g2_0_1 : w2.frozen? ⟨w.heap.size, 1, none⟩ = false := by go_simp
    clear hc2 hf2
    go_wp2
    refine bodyPost_ret (v := .tuple #[.agg #[.int .i64 (r), .int .i64 (HI)], .int .i64 0]) (by simp only [results, Tryd.results64]; go_simp) rfl ⟨rfl, (by repeat (first | with_reducible exact Below.refl _ _ | with_reducible refine bdrew ?_ | ((with_reducible first | refine bset ?_ ?_ | refine ball ?_ ?_ | refine bth (by assumption) ?_ ?_); first | omega | (simp <;> omega))))⟩
  · go_enter Tryd.func64, Tryd.ntmps64
    go_wp2_with fail
    refine (GR.out (w.heap.size + 1) (w.heap.size + 1 + 1) _ ⟨⟨by go_simp, by simp <;> omega⟩, by go_simp, by simp <;> omega⟩).mono ?_
    rintro e w1 ⟨rfl, hb1⟩
    obtain ⟨hc1, hf1⟩ := bcell hb1
    have hz1 := hb1.size
    try simp only [World.size_alloc, World.size_setCell] at hz1
    try have : w.heap.size < w1.heap.size := by omega
    try have : w.heap.size ≤ w1.heap.size := by omega
    try have : w.heap.size + 1 < w1.heap.size := by omega
    try have : w.heap.size + 1 ≤ w1.heap.size := by omega
    try have : w.heap.size + 1 + 1 < w1.heap.size := by omega
    try have : w.heap.size + 1 + 1 ≤ w1.heap.size := by omega
    have c1_0_0 : w1.cell? ⟨w.heap.size, 0, none⟩ = some (.int .i64 (0)) := by go_simp
    have g1_0_0 : w1.frozen? ⟨w.heap.size, 0, none⟩ = false := by go_simp
    have c1_0_1 : w1.cell? ⟨w.heap.size, 1, none⟩ = some (.int .i64 (0)) := by go_simp
    have g1_0_1 : w1.frozen? ⟨w.heap.size, 1, none⟩ = false := by go_simp
    have c1_1_0 : w1.cell? ⟨w.heap.size + 1, 0, none⟩ = some (.int .u64 (x / 4294967296)) := by go_simp
    have c1_2_0 : w1.cell? ⟨w.heap.size + 1 + 1, 0, none⟩ = some (.int .u64 (x % 4294967296 * 4294967296)) := by go_simp
    clear hc1 hf1
    go_wp2_with fail
    refine (MU.out _).mono ?_
    rintro e w1 ⟨rfl, rfl⟩
    go_wp2_with fail
    refine (OW'.out _).mono ?_
    rintro e w2 ⟨rfl, hb2⟩
    obtain ⟨hc2, hf2⟩ := bcell hb2
    have hz2 := hb2.size
    try simp only [World.size_alloc, World.size_setCell] at hz2
    try have : w.heap.size < w2.heap.size := by omega
    try have : w.heap.size ≤ w2.heap.size := by omega
    try have : w.heap.size + 1 < w2.heap.size := by omega
    try have : w.heap.size + 1 ≤ w2.heap.size := by omega
    try have : w.heap.size + 1 + 1 < w2.heap.size := by omega
    try have : w.heap.size + 1 + 1 ≤ w2.heap.size := by omega
    have c2_0_0 : w2.cell? ⟨w.heap.size, 0, none⟩ = some (.int .i64 (0)) := by go_simp
    have g2_0_0 : w2.frozen? ⟨w.heap.size, 0, none⟩ = false := by go_simp
    have c2_0_1 : w2.cell? ⟨w.heap.size, 1, none⟩ = some (.int .i64 (0)) := by go_simp
    have g2_0_1 : w2.frozen? ⟨w.heap.size, 1, none⟩ = false := by go_simp
    clear hc2 hf2
    go_wp2
    refine bodyPost_ret (v := .tuple #[.agg #[.int .i64 (r), .int .i64 (HI)], .int .i64 0]) (by simp only [results, Tryd.results64]; go_simp) rfl ⟨rfl, (by repeat (first | with_reducible exact Below.refl _ _ | with_reducible refine bdrew ?_ | ((with_reducible first | refine bset ?_ ?_ | refine ball ?_ ?_ | refine bth (by assumption) ?_ ?_); first | omega | (simp <;> omega))))⟩
  · have k3 : (m % 18446744073709551616 != x % 4294967296 * 4294967296) = true := bne_iff_ne.2 k2
    go_enter Tryd.func64, Tryd.ntmps64
    go_wp2_with fail
    refine (GR.out (w.heap.size + 1) (w.heap.size + 1 + 1) _ ⟨⟨by go_simp, by simp <;> omega⟩, by go_simp, by simp <;> omega⟩).mono ?_
    rintro e w1 ⟨rfl, hb1⟩
    obtain ⟨hc1, hf1⟩ := bcell hb1
    have hz1 := hb1.size
    try simp only [World.size_alloc, World.size_setCell] at hz1
    try have : w.heap.size < w1.heap.size := by omega
    try have : w.heap.size ≤ w1.heap.size := by omega
    try have : w.heap.size + 1 < w1.heap.size := by omega
    try have : w.heap.size + 1 ≤ w1.heap.size := by omega
    try have : w.heap.size + 1 + 1 < w1.heap.size := by omega
    try have : w.heap.size + 1 + 1 ≤ w1.heap.size := by omega
    have c1_0_0 : w1.cell? ⟨w.heap.size, 0, none⟩ = some (.int .i64 (0)) := by go_simp
    have g1_0_0 : w1.frozen? ⟨w.heap.size, 0, none⟩ = false := by go_simp
    have c1_0_1 : w1.cell? ⟨w.heap.size, 1, none⟩ = some (.int .i64 (0)) := by go_simp
    have g1_0_1 : w1.frozen? ⟨w.heap.size, 1, none⟩ = false := by go_simp
    have c1_1_0 : w1.cell? ⟨w.heap.size + 1, 0, none⟩ = some (.int .u64 (x / 4294967296)) := by go_simp
    have c1_2_0 : w1.cell? ⟨w.heap.size + 1 + 1, 0, none⟩ = some (.int .u64 (x % 4294967296 * 4294967296)) := by go_simp
    clear hc1 hf1
    go_wp2_with fail
    refine (MU.out _).mono ?_
    rintro e w1 ⟨rfl, rfl⟩
    go_wp2_with fail
    refine (OW'.out _).mono ?_
    rintro e w2 ⟨rfl, hb2⟩
    obtain ⟨hc2, hf2⟩ := bcell hb2
    have hz2 := hb2.size
    try simp only [World.size_alloc, World.size_setCell] at hz2
    try have : w.heap.size < w2.heap.size := by omega
    try have : w.heap.size ≤ w2.heap.size := by omega
    try have : w.heap.size + 1 < w2.heap.size := by omega
    try have : w.heap.size + 1 ≤ w2.heap.size := by omega
    try have : w.heap.size + 1 + 1 < w2.heap.size := by omega
    try have : w.heap.size + 1 + 1 ≤ w2.heap.size := by omega
    have c2_0_0 : w2.cell? ⟨w.heap.size, 0, none⟩ = some (.int .i64 (0)) := by go_simp
    have g2_0_0 : w2.frozen? ⟨w.heap.size, 0, none⟩ = false := by go_simp
    have c2_0_1 : w2.cell? ⟨w.heap.size, 1, none⟩ = some (.int .i64 (0)) := by go_simp
    have g2_0_1 : w2.frozen? ⟨w.heap.size, 1, none⟩ = false := by go_simp
    clear hc2 hf2
    go_wp2
    refine bodyPost_ret (v := .tuple #[.agg #[.int .i64 (r), .int .i64 (HI)], .int .i64 0]) (by simp only [results, Tryd.results64]; go_simp) rfl ⟨rfl, (by repeat (first | with_reducible exact Below.refl _ _ | with_reducible refine bdrew ?_ | ((with_reducible first | refine bset ?_ ?_ | refine ball ?_ ?_ | refine bth (by assumption) ?_ ?_); first | omega | (simp <;> omega))))⟩
/-- The root's bounds and error, of a valid span. -/
noncomputable def roL (al ah : Int) : Int := if ah < 0 then 0 else rtL (mx al 0)
noncomputable def roH (ah : Int) : Int := if ah < 0 then 0 else rtH ah
def roE (ah : Int) : Int := if ah < 0 then 4 else 0
theorem ro_t {al ah : Int} (h : ah < 0) : roL al ah = 0 ∧ roH ah = 0 ∧ roE ah = 4 := by simp [roL, roH, roE, h]
theorem ro_f {al ah : Int} (h : ¬ ah < 0) : roL al ah = rtL (mx al 0) ∧ roH ah = rtH ah ∧ roE ah = 0 := by simp [roL, roH, roE, h]
theorem root_at (x : Int) (h0 : 0 ≤ x) (h1 : x ≤ 9223372036854775807) : Answers (fun _ => True) 64 #[] x (rtL x) (rtH x) 0 := fun w _ => root_any x h0 h1 w
theorem sroot_any (al ah : Int) (i0 : I64 al) (i1 : I64 ah) (w : World) :
    Calls Tryd.prog 21 #[.agg #[.int .i64 (al), .int .i64 (ah)]] w fun e w' => e = .returned (.tuple #[.agg #[.int .i64 (okI (vB al ah) (roL al ah)), .int .i64 (okI (vB al ah) (roH ah))], .int .i64 (errE (vB al ah) (roE ah))]) ∧ Below w.heap.size w w' := by
  have h0 := i0.1
  have b1 := i1.2
  cases hv : vB al ah
  · rw [ok_f, ok_f, err_f]
    have HV := hide hv
    clear hv i0 i1
    go_enter Tryd.func21, Tryd.ntmps21
    go_wp2_with fail
    go_at_call 53
    refine (invalid1 al ah _ _ _ h0 (by go_simp) (by go_simp) (by go_simp) true (by simpa using HV.out)).mono ?_
    rintro e w1 ⟨rfl, hb1⟩
    obtain ⟨hc1, hf1⟩ := bcell hb1
    have hz1 := hb1.size
    try simp only [World.size_alloc, World.size_setCell] at hz1
    try have : w.heap.size < w1.heap.size := by omega
    try have : w.heap.size ≤ w1.heap.size := by omega
    try have : w.heap.size + 1 < w1.heap.size := by omega
    try have : w.heap.size + 1 ≤ w1.heap.size := by omega
    try have : w.heap.size + 1 + 1 < w1.heap.size := by omega
    try have : w.heap.size + 1 + 1 ≤ w1.heap.size := by omega
    go_wp2
    refine bodyPost_ret (v := .tuple #[.agg #[.int .i64 (0), .int .i64 (0)], .int .i64 2]) (by simp only [results, Tryd.results21]; go_simp) rfl ⟨rfl, (by repeat (first | with_reducible exact Below.refl _ _ | with_reducible refine bdrew ?_ | ((with_reducible first | refine bset ?_ ?_ | refine ball ?_ ?_ | refine bth (by assumption) ?_ ?_); first | omega | (simp <;> omega))))⟩
  · rw [ok_t, ok_t, err_t]
    have HV := hide hv
    obtain ⟨v1, v2⟩ := vB_tt hv
    by_cases c : ah < 0
    · obtain ⟨e1, e2, e3⟩ := ro_t (al := al) c
      rw [e1, e2, e3]
      clear hv i0 i1 e1 e2 e3
      go_enter Tryd.func21, Tryd.ntmps21
      go_wp2_with fail
      go_at_call 53
      refine (invalid1 al ah _ _ _ h0 (by go_simp) (by go_simp) (by go_simp) false (by simpa using HV.out)).mono ?_
      rintro e w1 ⟨rfl, hb1⟩
      obtain ⟨hc1, hf1⟩ := bcell hb1
      have hz1 := hb1.size
      try simp only [World.size_alloc, World.size_setCell] at hz1
      try have : w.heap.size < w1.heap.size := by omega
      try have : w.heap.size ≤ w1.heap.size := by omega
      try have : w.heap.size + 1 < w1.heap.size := by omega
      try have : w.heap.size + 1 ≤ w1.heap.size := by omega
      try have : w.heap.size + 1 + 1 < w1.heap.size := by omega
      try have : w.heap.size + 1 + 1 ≤ w1.heap.size := by omega
      go_wp2
      refine bodyPost_ret (v := .tuple #[.agg #[.int .i64 (0), .int .i64 (0)], .int .i64 4]) (by simp only [results, Tryd.results21]; go_simp) rfl ⟨rfl, (by repeat (first | with_reducible exact Below.refl _ _ | with_reducible refine bdrew ?_ | ((with_reducible first | refine bset ?_ ?_ | refine ball ?_ ?_ | refine bth (by assumption) ?_ ?_); first | omega | (simp <;> omega))))⟩
    · obtain ⟨e1, e2, e3⟩ := ro_f (al := al) c
      rw [e1, e2, e3]
      have m1 : max al 0 = mx al 0 := by unfold mx; split <;> omega
      have mb : 0 ≤ mx al 0 ∧ mx al 0 ≤ ah := by unfold mx; split <;> omega
      obtain ⟨m, hm⟩ : ∃ v, mx al 0 = v := ⟨_, rfl⟩
      rw [hm] at m1 mb ⊢
      have hent : ∀ args w, (callFunc 64 args).run Tryd.prog w = .ok (.enter 64 args) w := enters_of Tryd.func64 (by kernel_rfl) rfl
      have EN := fun w => ends_0 (fun _ => True) ⟨fun _ _ => trivial⟩ 64 hent m ah _ _ _ _ _ _ (root_at m mb.1 (by omega)) (root_at ah (by omega) b1) w trivial
      have hE : enL (rtL m) 0 (rtL ah) 0 (m == ah) = rtL m ∧ enH (rtH m) 0 (rtH ah) 0 (m == ah) = rtH ah ∧ enE 0 0 (m == ah) = 0 := by
        have k1 := rt_monoL mb.1 mb.2
        have k2 := rt_monoH mb.1 mb.2
        by_cases q : m = ah
        · subst q; simp [enL, enH, enE]
        · have q' : (m == ah) = false := by simp [q]
          rw [q']
          have z1 : mi (rtL m) (rtL ah) = rtL m := by unfold mi; split <;> omega
          have z2 : mx (rtH m) (rtH ah) = rtH ah := by unfold mx; split <;> omega
          simp [enL, enH, enE, z1, z2]
      rw [hE.1, hE.2.1, hE.2.2] at EN
      have EN' := hide EN
      clear hv i0 i1 e1 e2 e3 EN hE hent mb hm
      generalize rtL m = rl at *
      generalize rtH ah = rh at *
      go_enter Tryd.func21, Tryd.ntmps21
      go_wp2_with fail
      go_at_call 53
      refine (invalid1 al ah _ _ _ h0 (by go_simp) (by go_simp) (by go_simp) false (by simpa using HV.out)).mono ?_
      rintro e w1 ⟨rfl, hb1⟩
      obtain ⟨hc1, hf1⟩ := bcell hb1
      have hz1 := hb1.size
      try simp only [World.size_alloc, World.size_setCell] at hz1
      try have : w.heap.size < w1.heap.size := by omega
      try have : w.heap.size ≤ w1.heap.size := by omega
      try have : w.heap.size + 1 < w1.heap.size := by omega
      try have : w.heap.size + 1 ≤ w1.heap.size := by omega
      have c1_0_0 : w1.cell? ⟨w.heap.size, 0, none⟩ = some (.int .i64 (al)) := by go_simp
      have c1_0_1 : w1.cell? ⟨w.heap.size, 1, none⟩ = some (.int .i64 (ah)) := by go_simp
      have c1_1_0 : w1.cell? ⟨w.heap.size + 1, 0, none⟩ = some (.int .i64 (0)) := by go_simp
      have g1_1_0 : w1.frozen? ⟨w.heap.size + 1, 0, none⟩ = false := by go_simp
      have c1_1_1 : w1.cell? ⟨w.heap.size + 1, 1, none⟩ = some (.int .i64 (0)) := by go_simp
      have g1_1_1 : w1.frozen? ⟨w.heap.size + 1, 1, none⟩ = false := by go_simp
      clear hc1 hf1
      go_wp2_with fail
      refine (EN'.out _).mono ?_
      rintro e w2 ⟨rfl, hb2⟩
      obtain ⟨hc2, hf2⟩ := bcell hb2
      have hz2 := hb2.size
      try simp only [World.size_alloc, World.size_setCell] at hz2
      try have : w.heap.size < w2.heap.size := by omega
      try have : w.heap.size ≤ w2.heap.size := by omega
      try have : w.heap.size + 1 < w2.heap.size := by omega
      try have : w.heap.size + 1 ≤ w2.heap.size := by omega
      have c2_0_0 : w2.cell? ⟨w.heap.size, 0, none⟩ = some (.int .i64 (al)) := by go_simp
      have c2_0_1 : w2.cell? ⟨w.heap.size, 1, none⟩ = some (.int .i64 (ah)) := by go_simp
      have c2_1_0 : w2.cell? ⟨w.heap.size + 1, 0, none⟩ = some (.int .i64 (0)) := by go_simp
      have g2_1_0 : w2.frozen? ⟨w.heap.size + 1, 0, none⟩ = false := by go_simp
      have c2_1_1 : w2.cell? ⟨w.heap.size + 1, 1, none⟩ = some (.int .i64 (0)) := by go_simp
      have g2_1_1 : w2.frozen? ⟨w.heap.size + 1, 1, none⟩ = false := by go_simp
      clear hc2 hf2 c1_0_0 c1_0_1 c1_1_0 g1_1_0 c1_1_1 g1_1_1
      go_wp2
      refine bodyPost_ret (v := .tuple #[.agg #[.int .i64 (rl), .int .i64 (rh)], .int .i64 0]) (by simp only [results, Tryd.results21]; go_simp) rfl ⟨rfl, (by repeat (first | with_reducible exact Below.refl _ _ | with_reducible refine bdrew ?_ | ((with_reducible first | refine bset ?_ ?_ | refine ball ?_ ?_ | refine bth (by assumption) ?_ ?_); first | omega | (simp <;> omega))))⟩
end Go.Proofs.YtlcbcanlehackaaDoor
