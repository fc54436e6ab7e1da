/- Directions: the program's turned, cosine, sine, Turn. -/
import Derived.Test.YtlcbcanlehackaaDoorTurn
import Derived.Laws.EntriesVeiled
set_option linter.unusedVariables false
set_option linter.unusedSimpArgs false
namespace Go.Proofs.YtlcbcanlehackaaDoor
open Go.RowKit
theorem small34_at (lo hi tm dd : Nat) (q dbl r n : Int) (hq : 0 ≤ q ∧ q ≤ 18446744073709551616) (hd : 0 ≤ dbl ∧ dbl ≤ 8589934592) (hr : r = dbl * 18446744073709551616 / (18446744073709551616 + q)) (n0 : 0 ≤ n) (n1 : n < 562949953421312) :
    AnswersB (HasT lo hi tm dd q dbl) 91 #[.pointer (some ⟨tm, 0, none⟩), .pointer (some ⟨dd, 0, none⟩)] n (decide (n ≤ r)) := by
  intro w hw
  obtain ⟨cl, ch, ct, cd, l1, l2, l3, l4⟩ := hw
  have TM := hide (times_at lo hi q n w hq n0 n1 cl ch)
  have e : decide (n ≤ r) = decide (n * (18446744073709551616 + q) ≤ dbl * 18446744073709551616) := by
    apply decide_eq_decide.2
    rw [hr]
    exact Int.le_ediv_iff_mul_le (by omega)
  rw [e, tm_eq]
  have hL : 0 ≤ tmL n q ∧ tmL n q < 18446744073709551616 := by unfold tmL; omega
  change Calls Tryd.prog 91 #[.int .u64 n, .pointer (some ⟨tm, 0, none⟩), .pointer (some ⟨dd, 0, none⟩)] w _
  generalize tmH n q = H at *
  generalize tmL n q = L at *
  have hent : ∀ args w, (callFunc 90 args).run Tryd.prog w = .ok (.enter 90 args) w := enters_of Tryd.func90 (by kernel_rfl) rfl
  clear e hr cl ch hq n0 n1
  by_cases k1 : H < dbl
  · rw [show decide (H * 18446744073709551616 + L ≤ dbl * 18446744073709551616) = true from decide_eq_true (by omega)]
    clear hd
    go_enter Tryd.func91, Tryd.ntmps91
    go_wp2_with fail
    refine (TM.out).mono ?_
    rintro e w ⟨rfl, rfl⟩
    go_wp2
    go_ret
    exact ⟨rfl, (by repeat (first | with_reducible exact Below.refl _ _ | with_reducible refine bdrew ?_ | ((with_reducible first | refine bset ?_ ?_ | refine ball ?_ ?_ | refine bth (by assumption) ?_ ?_); first | omega | (simp <;> omega))))⟩
  · by_cases k2 : H = dbl
    · subst k2
      by_cases k3 : L = 0
      · subst k3
        rw [show decide (H * 18446744073709551616 + 0 ≤ H * 18446744073709551616) = true from decide_eq_true (by omega)]
        clear hd
        go_enter Tryd.func91, Tryd.ntmps91
        go_wp2_with fail
        refine (TM.out).mono ?_
        rintro e w ⟨rfl, rfl⟩
        go_wp2
        go_ret
        exact ⟨rfl, (by repeat (first | with_reducible exact Below.refl _ _ | with_reducible refine bdrew ?_ | ((with_reducible first | refine bset ?_ ?_ | refine ball ?_ ?_ | refine bth (by assumption) ?_ ?_); first | omega | (simp <;> omega))))⟩
      · rw [show decide (H * 18446744073709551616 + L ≤ H * 18446744073709551616) = false from decide_eq_false (by omega)]
        have k4 : (L == 0) = false := beq_eq_false_iff_ne.2 k3
        clear hd
        go_enter Tryd.func91, Tryd.ntmps91
        go_wp2_with fail
        refine (TM.out).mono ?_
        rintro e w ⟨rfl, rfl⟩
        go_wp2
        go_ret
        exact ⟨by first | rfl | (simp; done), (by repeat (first | with_reducible exact Below.refl _ _ | with_reducible refine bdrew ?_ | ((with_reducible first | refine bset ?_ ?_ | refine ball ?_ ?_ | refine bth (by assumption) ?_ ?_); first | omega | (simp <;> omega))))⟩
    · rw [show decide (H * 18446744073709551616 + L ≤ dbl * 18446744073709551616) = false from decide_eq_false (by omega)]
      have k0 : dbl ≤ H := by omega
      have k4 : (H == dbl) = false := beq_eq_false_iff_ne.2 k2
      clear hd
      go_enter Tryd.func91, Tryd.ntmps91
      go_wp2_with fail
      refine (TM.out).mono ?_
      rintro e w ⟨rfl, rfl⟩
      go_wp2
      go_ret
      exact ⟨by first | rfl | (simp; done) | (simp; omega), (by repeat (first | with_reducible exact Below.refl _ _ | with_reducible refine bdrew ?_ | ((with_reducible first | refine bset ?_ ?_ | refine ball ?_ ?_ | refine bth (by assumption) ?_ ?_); first | omega | (simp <;> omega))))⟩
set_option maxHeartbeats 4000000 in
theorem turned_any (x t : Int) (hx : Unit1 x) (ht : Unit1 t) (w : World) :
    Calls Tryd.prog 80 #[.int .i64 x, .int .i64 t] w fun e w' => e = .returned (.tuple #[.agg #[.int .i64 (tuL x t), .int .i64 (tuH x t)], .int .i64 0]) ∧ Below w.heap.size w w' := by
  have ix : I64 x := by obtain ⟨_, _⟩ := hx; constructor <;> omega
  have it : I64 t := by obtain ⟨_, _⟩ := ht; constructor <;> omega
  have SX := hide (size_any x ix)
  have ST := hide (size_any t it)
  have tb := tu_bd hx ht
  have qb := sq_bd ht
  have xa : 0 ≤ ab x ∧ ab x ≤ 4294967296 := by obtain ⟨_, _⟩ := hx; unfold ab; split <;> omega
  have ta : 0 ≤ ab t ∧ ab t ≤ 4294967296 := by obtain ⟨_, _⟩ := ht; unfold ab; split <;> omega
  have qe : ab t * ab t = t * t := by unfold ab; split <;> simp [Int.neg_mul_neg]
  have MU := mul64 (ab t) (ab t) ⟨ta.1, by omega⟩ ⟨ta.1, by omega⟩
  rw [qe] at MU
  have MU' := hide MU
  have hent1 : ∀ args w, (callFunc 90 args).run Tryd.prog w = .ok (.enter 90 args) w := enters_of Tryd.func90 (by kernel_rfl) rfl
  have hent2 : ∀ args w, (callFunc 91 args).run Tryd.prog w = .ok (.enter 91 args) w := enters_of Tryd.func91 (by kernel_rfl) rfl
  have hr0 : 0 ≤ 2 * ab x * 18446744073709551616 / (18446744073709551616 + t * t) := Int.ediv_nonneg (by omega) (by omega)
  have hr1 : 2 * ab x * 18446744073709551616 / (18446744073709551616 + t * t) ≤ 8589934592 := by
    have : 2 * ab x * 18446744073709551616 / (18446744073709551616 + t * t) < 8589934593 := Int.ediv_lt_of_lt_mul (by omega) (by omega)
    omega
  have GR := hide (fun lo hi tm dd w hw => great34 (HasT lo hi tm dd (t * t) (2 * ab x)) (HasT.kept lo hi tm dd _ _) 91 (.pointer (some ⟨tm, 0, none⟩)) (.pointer (some ⟨dd, 0, none⟩)) hent2 (2 * ab x * 18446744073709551616 / (18446744073709551616 + t * t)) ⟨hr0, by omega⟩ (fun n n0 n1 => small34_at lo hi tm dd (t * t) (2 * ab x) _ n qb ⟨by omega, by omega⟩ rfl n0 n1) w hw)
  have TM := hide (fun lo hi w cl ch => times_at lo hi (t * t) (2 * ab x * 18446744073709551616 / (18446744073709551616 + t * t)) w qb hr0 (by omega) cl ch)
  have hte := tm_eq (2 * ab x * 18446744073709551616 / (18446744073709551616 + t * t)) (t * t)
  have hL : 0 ≤ tmL (2 * ab x * 18446744073709551616 / (18446744073709551616 + t * t)) (t * t) ∧ tmL (2 * ab x * 18446744073709551616 / (18446744073709551616 + t * t)) (t * t) < 18446744073709551616 := by unfold tmL; omega
  have hmod := Int.emod_add_mul_ediv (2 * ab x * 18446744073709551616) (18446744073709551616 + t * t)
  have hS : x * 36893488147419103232 = if decide (x < 0) then -(2 * ab x * 18446744073709551616) else 2 * ab x * 18446744073709551616 := by
    unfold ab; by_cases c : x < 0 <;> simp [c] <;> omega
  have se := share_ends (2 * ab x * 18446744073709551616) (18446744073709551616 + t * t) (x * 36893488147419103232) (decide (x < 0)) (by omega) hS
  have OW := outward_any (decide (x < 0)) (!(2 * ab x * 18446744073709551616 % (18446744073709551616 + t * t) == 0)) (2 * ab x * 18446744073709551616 / (18446744073709551616 + t * t)) (tuL x t) (tuH x t) ⟨hr0, by omega⟩ se.1 se.2
  have ft := out_t (lo := tuL x t) (hi := tuH x t) (decide_eq_true (by omega))
  rw [ft.1, ft.2.1, ft.2.2] at OW
  rw [Int.mul_comm (18446744073709551616 + t * t)] at hmod
  clear se ft hS tb hent1 hent2 ix it qe MU hx ht
  generalize tuL x t = LO at *
  generalize tuH x t = HI at *
  generalize tmH (2 * ab x * 18446744073709551616 / (18446744073709551616 + t * t)) (t * t) = H at *
  generalize tmL (2 * ab x * 18446744073709551616 / (18446744073709551616 + t * t)) (t * t) = L at *
  rw [hte] at hmod
  clear hte
  generalize 2 * ab x * 18446744073709551616 / (18446744073709551616 + t * t) = r at *
  obtain ⟨RR, hRR⟩ : ∃ b, (!(2 * ab x * 18446744073709551616 % (18446744073709551616 + t * t) == 0)) = b := ⟨_, rfl⟩
  rw [hRR] at OW
  generalize 2 * ab x * 18446744073709551616 % (18446744073709551616 + t * t) = m at *
  have hcase : (RR = false ∧ H = 2 * ab x ∧ L = 0) ∨ (RR = true ∧ H = 2 * ab x ∧ ¬ L = 0) ∨ (RR = true ∧ ¬ H = 2 * ab x) := by
    by_cases c : m = 0
    · left; exact ⟨by rw [← hRR]; simp [c], by omega, by omega⟩
    · have : RR = true := by rw [← hRR]; simp [c]
      by_cases c2 : H = 2 * ab x
      · right; left; exact ⟨this, c2, by omega⟩
      · right; right; exact ⟨this, c2⟩
  clear hRR hmod hL hr1
  generalize ab x = X at *
  generalize ab t = T at *
  generalize t * t = q at *
  rcases hcase with ⟨rfl, k1, k2⟩ | ⟨rfl, k1, k2⟩ | ⟨rfl, k1⟩
  · subst k2
    have KH : Hid (H = 2 * X) := hide k1
    have OW' := hide OW
    clear OW k1
    go_enter Tryd.func80, Tryd.ntmps80
    go_wp2_with fail
    refine (SX.out _).mono ?_
    rintro e w1 ⟨rfl, hb1⟩
    obtain ⟨hc1, hf1⟩ := bcell hb1
    have hz1 := hb1.size
    try simp only [World.size_alloc, World.size_setCell] at hz1
    try have : w.heap.size < w1.heap.size := by omega
    try have : w.heap.size < w1.heap.size + 1 := by omega
    try have : w.heap.size ≤ w1.heap.size := by omega
    have c1_0_0 : w1.cell? ⟨w.heap.size, 0, none⟩ = some (.int .i64 (0)) := by go_simp
    have g1_0_0 : w1.frozen? ⟨w.heap.size, 0, none⟩ = false := by go_simp
    have c1_0_1 : w1.cell? ⟨w.heap.size, 1, none⟩ = some (.int .i64 (0)) := by go_simp
    have g1_0_1 : w1.frozen? ⟨w.heap.size, 1, none⟩ = false := by go_simp
    clear hc1 hf1
    go_wp2_with fail
    refine (ST.out _).mono ?_
    rintro e w2 ⟨rfl, hb2⟩
    obtain ⟨hc2, hf2⟩ := bcell hb2
    have hz2 := hb2.size
    try simp only [World.size_alloc, World.size_setCell] at hz2
    try have : w.heap.size < w2.heap.size := by omega
    try have : w.heap.size ≤ w2.heap.size := by omega
    try have : w1.heap.size < w2.heap.size := by omega
    try have : w1.heap.size ≤ w2.heap.size := by omega
    have c2_0_0 : w2.cell? ⟨w.heap.size, 0, none⟩ = some (.int .i64 (0)) := by go_simp
    have g2_0_0 : w2.frozen? ⟨w.heap.size, 0, none⟩ = false := by go_simp
    have c2_0_1 : w2.cell? ⟨w.heap.size, 1, none⟩ = some (.int .i64 (0)) := by go_simp
    have g2_0_1 : w2.frozen? ⟨w.heap.size, 1, none⟩ = false := by go_simp
    have c2_1_0 : w2.cell? ⟨w1.heap.size, 0, none⟩ = some (.int .u64 (2 * X)) := by go_simp
    clear hc2 hf2 c1_0_0 g1_0_0 c1_0_1 g1_0_1
    go_wp2_with fail
    refine (ST.out _).mono ?_
    rintro e w3 ⟨rfl, hb3⟩
    obtain ⟨hc3, hf3⟩ := bcell hb3
    have hz3 := hb3.size
    try simp only [World.size_alloc, World.size_setCell] at hz3
    try have : w.heap.size < w3.heap.size := by omega
    try have : w.heap.size ≤ w3.heap.size := by omega
    try have : w1.heap.size < w3.heap.size := by omega
    try have : w1.heap.size ≤ w3.heap.size := by omega
    have c3_0_0 : w3.cell? ⟨w.heap.size, 0, none⟩ = some (.int .i64 (0)) := by go_simp
    have g3_0_0 : w3.frozen? ⟨w.heap.size, 0, none⟩ = false := by go_simp
    have c3_0_1 : w3.cell? ⟨w.heap.size, 1, none⟩ = some (.int .i64 (0)) := by go_simp
    have g3_0_1 : w3.frozen? ⟨w.heap.size, 1, none⟩ = false := by go_simp
    have c3_1_0 : w3.cell? ⟨w1.heap.size, 0, none⟩ = some (.int .u64 (2 * X)) := by go_simp
    clear hc3 hf3 c2_0_0 g2_0_0 c2_0_1 g2_0_1 c2_1_0
    go_wp2_with fail
    refine (MU'.out _).mono ?_
    rintro e w3 ⟨rfl, rfl⟩
    go_wp2_with fail
    have : w.heap.size < w3.heap.size := by omega
    have : w.heap.size < w3.heap.size + 1 := by omega
    have : w.heap.size < w3.heap.size + 1 + 1 := by omega
    have : w.heap.size < w3.heap.size + 1 + 1 + 1 := by omega
    have : w1.heap.size < w3.heap.size := by omega
    have : w1.heap.size < w3.heap.size + 1 := by omega
    have : w1.heap.size < w3.heap.size + 1 + 1 := by omega
    have : w1.heap.size < w3.heap.size + 1 + 1 + 1 := by omega
    refine (GR.out (w3.heap.size + 1) w3.heap.size (w3.heap.size + 1 + 1) w1.heap.size _ ⟨by go_simp, by go_simp, by go_simp, by go_simp, by simp <;> omega, by simp <;> omega, by simp <;> omega, by simp <;> omega⟩).mono ?_
    rintro e w4 ⟨rfl, hb4⟩
    obtain ⟨hc4, hf4⟩ := bcell hb4
    have hz4 := hb4.size
    simp only [World.size_alloc, World.size_setCell] at hz4
    have zz : w.heap.size < w4.heap.size ∧ w1.heap.size < w4.heap.size ∧ w3.heap.size < w4.heap.size ∧ w3.heap.size + 1 < w4.heap.size ∧ w3.heap.size + 1 + 1 < w4.heap.size := by omega
    obtain ⟨zz1, zz2, zz3, zz4, zz5⟩ := zz
    have c4a : w4.cell? ⟨w.heap.size, 0, none⟩ = some (.int .i64 0) := by go_simp
    have c4b : w4.cell? ⟨w.heap.size, 1, none⟩ = some (.int .i64 0) := by go_simp
    have g4a : w4.frozen? ⟨w.heap.size, 0, none⟩ = false := by go_simp
    have g4b : w4.frozen? ⟨w.heap.size, 1, none⟩ = false := by go_simp
    have c4c : w4.cell? ⟨w1.heap.size, 0, none⟩ = some (.int .u64 (2 * X)) := by go_simp
    have c4d : w4.cell? ⟨w3.heap.size, 0, none⟩ = some (.int .u64 (q / 18446744073709551616)) := by go_simp
    have c4e : w4.cell? ⟨w3.heap.size + 1, 0, none⟩ = some (.int .u64 (q % 18446744073709551616)) := by go_simp
    have c4f : w4.cell? ⟨w3.heap.size + 1 + 1, 0, none⟩ = some (.func (Fn.func 90) #[] #[.pointer (some ⟨w3.heap.size + 1, 0, none⟩), .pointer (some ⟨w3.heap.size, 0, none⟩)]) := by go_simp
    clear hc4 hf4
    go_wp2_with fail
    refine (TM.out (w3.heap.size + 1) w3.heap.size _ (by go_simp) (by go_simp)).mono ?_
    rintro e w4' ⟨rfl, rfl⟩
    try rw [KH.out]
    go_wp2_with fail
    refine (OW'.out _).mono ?_
    rintro e w5 ⟨rfl, hb5⟩
    obtain ⟨hc5, hf5⟩ := bcell hb5
    have hz5 := hb5.size
    try simp only [World.size_alloc, World.size_setCell] at hz5
    try have : w.heap.size < w5.heap.size := by omega
    try have : w.heap.size ≤ w5.heap.size := by omega
    have c5_0_0 : w5.cell? ⟨w.heap.size, 0, none⟩ = some (.int .i64 (0)) := by go_simp
    have g5_0_0 : w5.frozen? ⟨w.heap.size, 0, none⟩ = false := by go_simp
    have c5_0_1 : w5.cell? ⟨w.heap.size, 1, none⟩ = some (.int .i64 (0)) := by go_simp
    have g5_0_1 : w5.frozen? ⟨w.heap.size, 1, none⟩ = false := by go_simp
    clear hc5 hf5
    go_wp2
    refine bodyPost_ret (v := .tuple #[.agg #[.int .i64 (LO), .int .i64 (HI)], .int .i64 0]) (by simp only [results, Tryd.results80]; go_simp) rfl ⟨rfl, (by repeat (first | with_reducible exact Below.refl _ _ | with_reducible refine bdrew ?_ | ((with_reducible first | refine bset ?_ ?_ | refine ball ?_ ?_ | refine bth (by assumption) ?_ ?_); first | omega | (simp <;> omega))))⟩
  · have k3 : (L != 0) = true := bne_iff_ne.2 k2
    have KH : Hid (H = 2 * X) := hide k1
    have OW' := hide OW
    clear OW k1 k2
    go_enter Tryd.func80, Tryd.ntmps80
    go_wp2_with fail
    refine (SX.out _).mono ?_
    rintro e w1 ⟨rfl, hb1⟩
    obtain ⟨hc1, hf1⟩ := bcell hb1
    have hz1 := hb1.size
    try simp only [World.size_alloc, World.size_setCell] at hz1
    try have : w.heap.size < w1.heap.size := by omega
    try have : w.heap.size < w1.heap.size + 1 := by omega
    try have : w.heap.size ≤ w1.heap.size := by omega
    have c1_0_0 : w1.cell? ⟨w.heap.size, 0, none⟩ = some (.int .i64 (0)) := by go_simp
    have g1_0_0 : w1.frozen? ⟨w.heap.size, 0, none⟩ = false := by go_simp
    have c1_0_1 : w1.cell? ⟨w.heap.size, 1, none⟩ = some (.int .i64 (0)) := by go_simp
    have g1_0_1 : w1.frozen? ⟨w.heap.size, 1, none⟩ = false := by go_simp
    clear hc1 hf1
    go_wp2_with fail
    refine (ST.out _).mono ?_
    rintro e w2 ⟨rfl, hb2⟩
    obtain ⟨hc2, hf2⟩ := bcell hb2
    have hz2 := hb2.size
    try simp only [World.size_alloc, World.size_setCell] at hz2
    try have : w.heap.size < w2.heap.size := by omega
    try have : w.heap.size ≤ w2.heap.size := by omega
    try have : w1.heap.size < w2.heap.size := by omega
    try have : w1.heap.size ≤ w2.heap.size := by omega
    have c2_0_0 : w2.cell? ⟨w.heap.size, 0, none⟩ = some (.int .i64 (0)) := by go_simp
    have g2_0_0 : w2.frozen? ⟨w.heap.size, 0, none⟩ = false := by go_simp
    have c2_0_1 : w2.cell? ⟨w.heap.size, 1, none⟩ = some (.int .i64 (0)) := by go_simp
    have g2_0_1 : w2.frozen? ⟨w.heap.size, 1, none⟩ = false := by go_simp
    have c2_1_0 : w2.cell? ⟨w1.heap.size, 0, none⟩ = some (.int .u64 (2 * X)) := by go_simp
    clear hc2 hf2 c1_0_0 g1_0_0 c1_0_1 g1_0_1
    go_wp2_with fail
    refine (ST.out _).mono ?_
    rintro e w3 ⟨rfl, hb3⟩
    obtain ⟨hc3, hf3⟩ := bcell hb3
    have hz3 := hb3.size
    try simp only [World.size_alloc, World.size_setCell] at hz3
    try have : w.heap.size < w3.heap.size := by omega
    try have : w.heap.size ≤ w3.heap.size := by omega
    try have : w1.heap.size < w3.heap.size := by omega
    try have : w1.heap.size ≤ w3.heap.size := by omega
    have c3_0_0 : w3.cell? ⟨w.heap.size, 0, none⟩ = some (.int .i64 (0)) := by go_simp
    have g3_0_0 : w3.frozen? ⟨w.heap.size, 0, none⟩ = false := by go_simp
    have c3_0_1 : w3.cell? ⟨w.heap.size, 1, none⟩ = some (.int .i64 (0)) := by go_simp
    have g3_0_1 : w3.frozen? ⟨w.heap.size, 1, none⟩ = false := by go_simp
    have c3_1_0 : w3.cell? ⟨w1.heap.size, 0, none⟩ = some (.int .u64 (2 * X)) := by go_simp
    clear hc3 hf3 c2_0_0 g2_0_0 c2_0_1 g2_0_1 c2_1_0
    go_wp2_with fail
    refine (MU'.out _).mono ?_
    rintro e w3 ⟨rfl, rfl⟩
    go_wp2_with fail
    have : w.heap.size < w3.heap.size := by omega
    have : w.heap.size < w3.heap.size + 1 := by omega
    have : w.heap.size < w3.heap.size + 1 + 1 := by omega
    have : w.heap.size < w3.heap.size + 1 + 1 + 1 := by omega
    have : w1.heap.size < w3.heap.size := by omega
    have : w1.heap.size < w3.heap.size + 1 := by omega
    have : w1.heap.size < w3.heap.size + 1 + 1 := by omega
    have : w1.heap.size < w3.heap.size + 1 + 1 + 1 := by omega
    refine (GR.out (w3.heap.size + 1) w3.heap.size (w3.heap.size + 1 + 1) w1.heap.size _ ⟨by go_simp, by go_simp, by go_simp, by go_simp, by simp <;> omega, by simp <;> omega, by simp <;> omega, by simp <;> omega⟩).mono ?_
    rintro e w4 ⟨rfl, hb4⟩
    obtain ⟨hc4, hf4⟩ := bcell hb4
    have hz4 := hb4.size
    simp only [World.size_alloc, World.size_setCell] at hz4
    have zz : w.heap.size < w4.heap.size ∧ w1.heap.size < w4.heap.size ∧ w3.heap.size < w4.heap.size ∧ w3.heap.size + 1 < w4.heap.size ∧ w3.heap.size + 1 + 1 < w4.heap.size := by omega
    obtain ⟨zz1, zz2, zz3, zz4, zz5⟩ := zz
    have c4a : w4.cell? ⟨w.heap.size, 0, none⟩ = some (.int .i64 0) := by go_simp
    have c4b : w4.cell? ⟨w.heap.size, 1, none⟩ = some (.int .i64 0) := by go_simp
    have g4a : w4.frozen? ⟨w.heap.size, 0, none⟩ = false := by go_simp
    have g4b : w4.frozen? ⟨w.heap.size, 1, none⟩ = false := by go_simp
    have c4c : w4.cell? ⟨w1.heap.size, 0, none⟩ = some (.int .u64 (2 * X)) := by go_simp
    have c4d : w4.cell? ⟨w3.heap.size, 0, none⟩ = some (.int .u64 (q / 18446744073709551616)) := by go_simp
    have c4e : w4.cell? ⟨w3.heap.size + 1, 0, none⟩ = some (.int .u64 (q % 18446744073709551616)) := by go_simp
    have c4f : w4.cell? ⟨w3.heap.size + 1 + 1, 0, none⟩ = some (.func (Fn.func 90) #[] #[.pointer (some ⟨w3.heap.size + 1, 0, none⟩), .pointer (some ⟨w3.heap.size, 0, none⟩)]) := by go_simp
    clear hc4 hf4
    go_wp2_with fail
    refine (TM.out (w3.heap.size + 1) w3.heap.size _ (by go_simp) (by go_simp)).mono ?_
    rintro e w4' ⟨rfl, rfl⟩
    try rw [KH.out]
    go_wp2_with fail
    refine (OW'.out _).mono ?_
    rintro e w5 ⟨rfl, hb5⟩
    obtain ⟨hc5, hf5⟩ := bcell hb5
    have hz5 := hb5.size
    try simp only [World.size_alloc, World.size_setCell] at hz5
    try have : w.heap.size < w5.heap.size := by omega
    try have : w.heap.size ≤ w5.heap.size := by omega
    have c5_0_0 : w5.cell? ⟨w.heap.size, 0, none⟩ = some (.int .i64 (0)) := by go_simp
    have g5_0_0 : w5.frozen? ⟨w.heap.size, 0, none⟩ = false := by go_simp
    have c5_0_1 : w5.cell? ⟨w.heap.size, 1, none⟩ = some (.int .i64 (0)) := by go_simp
    have g5_0_1 : w5.frozen? ⟨w.heap.size, 1, none⟩ = false := by go_simp
    clear hc5 hf5
    go_wp2
    refine bodyPost_ret (v := .tuple #[.agg #[.int .i64 (LO), .int .i64 (HI)], .int .i64 0]) (by simp only [results, Tryd.results80]; go_simp) rfl ⟨rfl, (by repeat (first | with_reducible exact Below.refl _ _ | with_reducible refine bdrew ?_ | ((with_reducible first | refine bset ?_ ?_ | refine ball ?_ ?_ | refine bth (by assumption) ?_ ?_); first | omega | (simp <;> omega))))⟩
  · have k3 : (H != 2 * X) = true := bne_iff_ne.2 k1
    have KH : Hid (H = H) := hide rfl
    have OW' := hide OW
    clear OW k1
    go_enter Tryd.func80, Tryd.ntmps80
    go_wp2_with fail
    refine (SX.out _).mono ?_
    rintro e w1 ⟨rfl, hb1⟩
    obtain ⟨hc1, hf1⟩ := bcell hb1
    have hz1 := hb1.size
    try simp only [World.size_alloc, World.size_setCell] at hz1
    try have : w.heap.size < w1.heap.size := by omega
    try have : w.heap.size < w1.heap.size + 1 := by omega
    try have : w.heap.size ≤ w1.heap.size := by omega
    have c1_0_0 : w1.cell? ⟨w.heap.size, 0, none⟩ = some (.int .i64 (0)) := by go_simp
    have g1_0_0 : w1.frozen? ⟨w.heap.size, 0, none⟩ = false := by go_simp
    have c1_0_1 : w1.cell? ⟨w.heap.size, 1, none⟩ = some (.int .i64 (0)) := by go_simp
    have g1_0_1 : w1.frozen? ⟨w.heap.size, 1, none⟩ = false := by go_simp
    clear hc1 hf1
    go_wp2_with fail
    refine (ST.out _).mono ?_
    rintro e w2 ⟨rfl, hb2⟩
    obtain ⟨hc2, hf2⟩ := bcell hb2
    have hz2 := hb2.size
    try simp only [World.size_alloc, World.size_setCell] at hz2
    try have : w.heap.size < w2.heap.size := by omega
    try have : w.heap.size ≤ w2.heap.size := by omega
    try have : w1.heap.size < w2.heap.size := by omega
    try have : w1.heap.size ≤ w2.heap.size := by omega
    have c2_0_0 : w2.cell? ⟨w.heap.size, 0, none⟩ = some (.int .i64 (0)) := by go_simp
    have g2_0_0 : w2.frozen? ⟨w.heap.size, 0, none⟩ = false := by go_simp
    have c2_0_1 : w2.cell? ⟨w.heap.size, 1, none⟩ = some (.int .i64 (0)) := by go_simp
    have g2_0_1 : w2.frozen? ⟨w.heap.size, 1, none⟩ = false := by go_simp
    have c2_1_0 : w2.cell? ⟨w1.heap.size, 0, none⟩ = some (.int .u64 (2 * X)) := by go_simp
    clear hc2 hf2 c1_0_0 g1_0_0 c1_0_1 g1_0_1
    go_wp2_with fail
    refine (ST.out _).mono ?_
    rintro e w3 ⟨rfl, hb3⟩
    obtain ⟨hc3, hf3⟩ := bcell hb3
    have hz3 := hb3.size
    try simp only [World.size_alloc, World.size_setCell] at hz3
    try have : w.heap.size < w3.heap.size := by omega
    try have : w.heap.size ≤ w3.heap.size := by omega
    try have : w1.heap.size < w3.heap.size := by omega
    try have : w1.heap.size ≤ w3.heap.size := by omega
    have c3_0_0 : w3.cell? ⟨w.heap.size, 0, none⟩ = some (.int .i64 (0)) := by go_simp
    have g3_0_0 : w3.frozen? ⟨w.heap.size, 0, none⟩ = false := by go_simp
    have c3_0_1 : w3.cell? ⟨w.heap.size, 1, none⟩ = some (.int .i64 (0)) := by go_simp
    have g3_0_1 : w3.frozen? ⟨w.heap.size, 1, none⟩ = false := by go_simp
    have c3_1_0 : w3.cell? ⟨w1.heap.size, 0, none⟩ = some (.int .u64 (2 * X)) := by go_simp
    clear hc3 hf3 c2_0_0 g2_0_0 c2_0_1 g2_0_1 c2_1_0
    go_wp2_with fail
    refine (MU'.out _).mono ?_
    rintro e w3 ⟨rfl, rfl⟩
    go_wp2_with fail
    have : w.heap.size < w3.heap.size := by omega
    have : w.heap.size < w3.heap.size + 1 := by omega
    have : w.heap.size < w3.heap.size + 1 + 1 := by omega
    have : w.heap.size < w3.heap.size + 1 + 1 + 1 := by omega
    have : w1.heap.size < w3.heap.size := by omega
    have : w1.heap.size < w3.heap.size + 1 := by omega
    have : w1.heap.size < w3.heap.size + 1 + 1 := by omega
    have : w1.heap.size < w3.heap.size + 1 + 1 + 1 := by omega
    refine (GR.out (w3.heap.size + 1) w3.heap.size (w3.heap.size + 1 + 1) w1.heap.size _ ⟨by go_simp, by go_simp, by go_simp, by go_simp, by simp <;> omega, by simp <;> omega, by simp <;> omega, by simp <;> omega⟩).mono ?_
    rintro e w4 ⟨rfl, hb4⟩
    obtain ⟨hc4, hf4⟩ := bcell hb4
    have hz4 := hb4.size
    simp only [World.size_alloc, World.size_setCell] at hz4
    have zz : w.heap.size < w4.heap.size ∧ w1.heap.size < w4.heap.size ∧ w3.heap.size < w4.heap.size ∧ w3.heap.size + 1 < w4.heap.size ∧ w3.heap.size + 1 + 1 < w4.heap.size := by omega
    obtain ⟨zz1, zz2, zz3, zz4, zz5⟩ := zz
    have c4a : w4.cell? ⟨w.heap.size, 0, none⟩ = some (.int .i64 0) := by go_simp
    have c4b : w4.cell? ⟨w.heap.size, 1, none⟩ = some (.int .i64 0) := by go_simp
    have g4a : w4.frozen? ⟨w.heap.size, 0, none⟩ = false := by go_simp
    have g4b : w4.frozen? ⟨w.heap.size, 1, none⟩ = false := by go_simp
    have c4c : w4.cell? ⟨w1.heap.size, 0, none⟩ = some (.int .u64 (2 * X)) := by go_simp
    have c4d : w4.cell? ⟨w3.heap.size, 0, none⟩ = some (.int .u64 (q / 18446744073709551616)) := by go_simp
    have c4e : w4.cell? ⟨w3.heap.size + 1, 0, none⟩ = some (.int .u64 (q % 18446744073709551616)) := by go_simp
    have c4f : w4.cell? ⟨w3.heap.size + 1 + 1, 0, none⟩ = some (.func (Fn.func 90) #[] #[.pointer (some ⟨w3.heap.size + 1, 0, none⟩), .pointer (some ⟨w3.heap.size, 0, none⟩)]) := by go_simp
    clear hc4 hf4
    go_wp2_with fail
    refine (TM.out (w3.heap.size + 1) w3.heap.size _ (by go_simp) (by go_simp)).mono ?_
    rintro e w4' ⟨rfl, rfl⟩
    try rw [KH.out]
    go_wp2_with fail
    refine (OW'.out _).mono ?_
    rintro e w5 ⟨rfl, hb5⟩
    obtain ⟨hc5, hf5⟩ := bcell hb5
    have hz5 := hb5.size
    try simp only [World.size_alloc, World.size_setCell] at hz5
    try have : w.heap.size < w5.heap.size := by omega
    try have : w.heap.size ≤ w5.heap.size := by omega
    have c5_0_0 : w5.cell? ⟨w.heap.size, 0, none⟩ = some (.int .i64 (0)) := by go_simp
    have g5_0_0 : w5.frozen? ⟨w.heap.size, 0, none⟩ = false := by go_simp
    have c5_0_1 : w5.cell? ⟨w.heap.size, 1, none⟩ = some (.int .i64 (0)) := by go_simp
    have g5_0_1 : w5.frozen? ⟨w.heap.size, 1, none⟩ = false := by go_simp
    clear hc5 hf5
    go_wp2
    refine bodyPost_ret (v := .tuple #[.agg #[.int .i64 (LO), .int .i64 (HI)], .int .i64 0]) (by simp only [results, Tryd.results80]; go_simp) rfl ⟨rfl, (by repeat (first | with_reducible exact Below.refl _ _ | with_reducible refine bdrew ?_ | ((with_reducible first | refine bset ?_ ?_ | refine ball ?_ ?_ | refine bth (by assumption) ?_ ?_); first | omega | (simp <;> omega))))⟩
theorem cosine_any (t : Int) (ht : Unit1 t) (w : World) :
    Calls Tryd.prog 67 #[.int .i64 t] w fun e w' => e = .returned (.tuple #[.agg #[.int .i64 (tuL 4294967296 t - 4294967296), .int .i64 (tuH 4294967296 t - 4294967296)], .int .i64 0]) ∧ Below w.heap.size w w' := by
  have TU := hide (turned_any 4294967296 t ⟨by omega, by omega⟩ ht)
  obtain ⟨b1, b2, b3⟩ := tu_bd (x := 4294967296) (t := t) ⟨by omega, by omega⟩ ht
  clear ht
  generalize tuL 4294967296 t = L at *
  generalize tuH 4294967296 t = H at *
  go_enter Tryd.func67, Tryd.ntmps67
  go_wp2_with fail
  refine (TU.out _).mono ?_
  rintro e w1 ⟨rfl, hb1⟩
  obtain ⟨hc1, hf1⟩ := bcell hb1
  have hz1 := hb1.size
  try simp only [World.size_alloc, World.size_setCell] at hz1
  try have : w.heap.size < w1.heap.size := by omega
  try have : w.heap.size < w1.heap.size + 1 := by omega
  try have : w.heap.size ≤ w1.heap.size := by omega
  have c1_0_0 : w1.cell? ⟨w.heap.size, 0, none⟩ = some (.int .i64 (0)) := by go_simp
  have g1_0_0 : w1.frozen? ⟨w.heap.size, 0, none⟩ = false := by go_simp
  have c1_0_1 : w1.cell? ⟨w.heap.size, 1, none⟩ = some (.int .i64 (0)) := by go_simp
  have g1_0_1 : w1.frozen? ⟨w.heap.size, 1, none⟩ = false := by go_simp
  clear hc1 hf1
  go_wp2
  refine bodyPost_ret (v := .tuple #[.agg #[.int .i64 (L - 4294967296), .int .i64 (H - 4294967296)], .int .i64 0]) (by simp only [results, Tryd.results67]; go_simp) rfl ⟨rfl, (by repeat (first | with_reducible exact Below.refl _ _ | with_reducible refine bdrew ?_ | ((with_reducible first | refine bset ?_ ?_ | refine ball ?_ ?_ | refine bth (by assumption) ?_ ?_); first | omega | (simp <;> omega))))⟩
theorem sine_any (t : Int) (ht : Unit1 t) (w : World) :
    Calls Tryd.prog 68 #[.int .i64 t] w fun e w' => e = .returned (.tuple #[.agg #[.int .i64 (tuL t t), .int .i64 (tuH t t)], .int .i64 0]) ∧ Below w.heap.size w w' := by
  have TU := hide (turned_any t t ht ht)
  clear ht
  generalize tuL t t = L at *
  generalize tuH t t = H at *
  go_enter Tryd.func68, Tryd.ntmps68
  go_wp2_with fail
  refine (TU.out _).mono ?_
  rintro e w1 ⟨rfl, hb1⟩
  obtain ⟨hc1, hf1⟩ := bcell hb1
  have hz1 := hb1.size
  try simp only [World.size_alloc, World.size_setCell] at hz1
  try have : w.heap.size < w1.heap.size := by omega
  try have : w.heap.size ≤ w1.heap.size := by omega
  have c1_0_0 : w1.cell? ⟨w.heap.size, 0, none⟩ = some (.int .i64 (0)) := by go_simp
  have g1_0_0 : w1.frozen? ⟨w.heap.size, 0, none⟩ = false := by go_simp
  have c1_0_1 : w1.cell? ⟨w.heap.size, 1, none⟩ = some (.int .i64 (0)) := by go_simp
  have g1_0_1 : w1.frozen? ⟨w.heap.size, 1, none⟩ = false := by go_simp
  clear hc1 hf1
  go_wp2
  refine bodyPost_ret (v := .tuple #[.agg #[.int .i64 (L), .int .i64 (H)], .int .i64 0]) (by simp only [results, Tryd.results68]; go_simp) rfl ⟨rfl, (by repeat (first | with_reducible exact Below.refl _ _ | with_reducible refine bdrew ?_ | ((with_reducible first | refine bset ?_ ?_ | refine ball ?_ ?_ | refine bth (by assumption) ?_ ?_); first | omega | (simp <;> omega))))⟩
end Go.Proofs.YtlcbcanlehackaaDoor
