/- Multiples of spans, on both sides. -/
import Derived.Test.YtbfbnmmgmkbieaaEnds
import Derived.Test.YtbfbnmmgmkbieaaTimes
set_option linter.unusedVariables false
set_option linter.unusedSimpArgs false
namespace Go.Proofs.Ytbfbnmmgmkbieaa
open Go.RowKit
/-- The cell of a captured number. -/
def HasN (b : Nat) (n : Int) (w : World) : Prop := w.cell? ⟨b, 0, none⟩ = some (.int .i64 n) ∧ b < w.heap.size
theorem HasN.kept (b : Nat) (n : Int) : Kept (HasN b n) := ⟨fun h hb => ⟨by rw [(bcell hb).1 b 0 h.2]; exact h.1, Nat.lt_of_lt_of_le h.2 hb.size⟩⟩
theorem en_out (p q : Int) (s : Bool) (h : s = true → p = q) :
    enL (oLo p p) (oE p p) (oLo q q) (oE q q) s = oLo (mi p q) (mx p q) ∧ enH (oHi p p) (oE p p) (oHi q q) (oE q q) s = oHi (mi p q) (mx p q) ∧ enE (oE p p) (oE q q) s = oE (mi p q) (mx p q) := by
  have hm : fits (mi p q) (mx p q) = (fits p p && fits q q) := by
    unfold fits mi mx
    rw [← Bool.decide_and]
    apply decide_eq_decide.2
    split <;> split <;> omega
  cases s
  · unfold enL enH enE oLo oHi oE
    rw [hm]
    cases fits p p <;> cases fits q q <;> simp
  · obtain rfl := h rfl
    have e1 : mi p p = p := by unfold mi; split <;> rfl
    have e2 : mx p p = p := by unfold mx; split <;> rfl
    rw [e1, e2]
    simp [enL, enH, enE]
theorem share_one (x n : Int) : sL x n 1 = x * n ∧ sH x n 1 = x * n := by
  have e : sN x n 1 = x * n := by unfold sN; rw [if_neg (by omega)]
  have e2 : ab 1 = 1 := by unfold ab; rw [if_neg (by omega)]
  unfold sL sH cdiv
  rw [e, e2]
  omega
theorem scale_at (b : Nat) (n x : Int) (ix : I64 x) (kn : I64 n) : Answers (HasN b n) 87 #[.pointer (some ⟨b, 0, none⟩)] x (oLo (x * n) (x * n)) (oHi (x * n) (x * n)) (oE (x * n) (x * n)) := by
  intro w hw
  obtain ⟨hc, hb⟩ := hw
  have S := share_any x n 1 ix kn ⟨by omega, by omega⟩ (by omega)
  rw [(share_one x n).1, (share_one x n).2] at S
  have SH := hide S
  clear S ix kn
  have hne : ¬ b = w.heap.size := by omega
  generalize x * n = p at *
  change Calls Try.prog 87 #[.int .i64 x, .pointer (some ⟨b, 0, none⟩)] w _
  go_enter Try.func87, Try.ntmps87
  go_wp2_with fail
  refine (SH.out _).mono ?_
  rintro e w1 ⟨rfl, hb1⟩
  obtain ⟨hc1, hf1⟩ := bcell hb1
  have hz1 := hb1.size
  try simp only [World.size_alloc, World.size_setCell] at hz1
  try have : w.heap.size < w1.heap.size := by omega
  try have : w.heap.size ≤ w1.heap.size := by omega
  have c1_0_0 : w1.cell? ⟨w.heap.size, 0, none⟩ = some (.int .i64 (0)) := by go_simp
  have g1_0_0 : w1.frozen? ⟨w.heap.size, 0, none⟩ = false := by go_simp
  have c1_0_1 : w1.cell? ⟨w.heap.size, 1, none⟩ = some (.int .i64 (0)) := by go_simp
  have g1_0_1 : w1.frozen? ⟨w.heap.size, 1, none⟩ = false := by go_simp
  clear hc1 hf1
  go_wp2
  refine bodyPost_ret (v := .tuple #[.agg #[.int .i64 (oLo p p), .int .i64 (oHi p p)], .int .i64 (oE p p)]) (by simp only [results, Try.results87]; go_simp) rfl ⟨rfl, (by repeat (first | with_reducible exact Below.refl _ _ | with_reducible refine bdrew ?_ | ((with_reducible first | refine bset ?_ ?_ | refine ball ?_ ?_ | refine bth (by assumption) ?_ ?_); first | omega | (simp <;> omega))))⟩
theorem scale_any (al ah n : Int) (i0 : I64 al) (i1 : I64 ah) (kn : I64 n) (w : World) :
    Calls Try.prog 27 #[.agg #[.int .i64 (al), .int .i64 (ah)], .int .i64 n] w fun e w' => e = .returned (.tuple #[.agg #[.int .i64 (okI (vB al ah) (oLo (mi (al * n) (ah * n)) (mx (al * n) (ah * n)))), .int .i64 (okI (vB al ah) (oHi (mi (al * n) (ah * n)) (mx (al * n) (ah * n))))], .int .i64 (errE (vB al ah) (oE (mi (al * n) (ah * n)) (mx (al * n) (ah * n))))]) ∧ Below w.heap.size w w' := by
  have h0 := i0.1
  cases hv : vB al ah
  · rw [ok_f, ok_f, err_f]
    have HV := hide hv
    clear hv i0 i1 kn
    go_enter Try.func27, Try.ntmps27
    go_wp2_with fail
    go_at_call 81
    refine (invalid1 al ah _ _ _ h0 (by go_simp) (by go_simp) (by go_simp) true (by simpa using HV.out)).mono ?_
    rintro e w1 ⟨rfl, hb1⟩
    obtain ⟨hc1, hf1⟩ := bcell hb1
    have hz1 := hb1.size
    try simp only [World.size_alloc, World.size_setCell] at hz1
    try have : w.heap.size < w1.heap.size := by omega
    try have : w.heap.size ≤ w1.heap.size := by omega
    try have : w.heap.size + 1 < w1.heap.size := by omega
    try have : w.heap.size + 1 ≤ w1.heap.size := by omega
    try have : w.heap.size + 1 + 1 < w1.heap.size := by omega
    try have : w.heap.size + 1 + 1 ≤ w1.heap.size := by omega
    go_wp2
    refine bodyPost_ret (v := .tuple #[.agg #[.int .i64 (0), .int .i64 (0)], .int .i64 2]) (by simp only [results, Try.results27]; go_simp) rfl ⟨rfl, (by repeat (first | with_reducible exact Below.refl _ _ | with_reducible refine bdrew ?_ | ((with_reducible first | refine bset ?_ ?_ | refine ball ?_ ?_ | refine bth (by assumption) ?_ ?_); first | omega | (simp <;> omega))))⟩
  · rw [ok_t, ok_t, err_t]
    have HV := hide hv
    have E := hide (en_out (al * n) (ah * n) (al == ah) (fun h => by rw [eq_of_beq h]))
    have hent : ∀ args w, (callFunc 87 args).run Try.prog w = .ok (.enter 87 args) w := enters_of Try.func87 (by kernel_rfl) rfl
    have A1 := hide (fun b => scale_at b n al i0 kn)
    have A2 := hide (fun b => scale_at b n ah i1 kn)
    have EN := hide (fun b w hw => ends_1 (HasN b n) (HasN.kept b n) 87 (.pointer (some ⟨b, 0, none⟩)) hent al ah _ _ _ _ _ _ (A1.out b) (A2.out b) w hw)
    rw [← E.out.1, ← E.out.2.1, ← E.out.2.2]
    clear hv i0 i1 kn hent
    generalize al * n = p at *
    generalize ah * n = q at *
    generalize enL (oLo p p) (oE p p) (oLo q q) (oE q q) (al == ah) = rl at *
    generalize enH (oHi p p) (oE p p) (oHi q q) (oE q q) (al == ah) = rh at *
    generalize enE (oE p p) (oE q q) (al == ah) = re at *
    clear A1 A2 E
    go_enter Try.func27, Try.ntmps27
    go_wp2_with fail
    go_at_call 81
    refine (invalid1 al ah _ _ _ h0 (by go_simp) (by go_simp) (by go_simp) false (by simpa using HV.out)).mono ?_
    rintro e w1 ⟨rfl, hb1⟩
    obtain ⟨hc1, hf1⟩ := bcell hb1
    have hz1 := hb1.size
    try simp only [World.size_alloc, World.size_setCell] at hz1
    try have : w.heap.size < w1.heap.size := by omega
    try have : w.heap.size ≤ w1.heap.size := by omega
    try have : w.heap.size + 1 < w1.heap.size := by omega
    try have : w.heap.size + 1 ≤ w1.heap.size := by omega
    try have : w.heap.size + 1 + 1 < w1.heap.size := by omega
    try have : w.heap.size + 1 + 1 ≤ w1.heap.size := by omega
    have c1_0_0 : w1.cell? ⟨w.heap.size, 0, none⟩ = some (.int .i64 (al)) := by go_simp
    have c1_0_1 : w1.cell? ⟨w.heap.size, 1, none⟩ = some (.int .i64 (ah)) := by go_simp
    have c1_1_0 : w1.cell? ⟨w.heap.size + 1, 0, none⟩ = some (.int .i64 (n)) := by go_simp
    have c1_2_0 : w1.cell? ⟨w.heap.size + 1 + 1, 0, none⟩ = some (.int .i64 (0)) := by go_simp
    have g1_2_0 : w1.frozen? ⟨w.heap.size + 1 + 1, 0, none⟩ = false := by go_simp
    have c1_2_1 : w1.cell? ⟨w.heap.size + 1 + 1, 1, none⟩ = some (.int .i64 (0)) := by go_simp
    have g1_2_1 : w1.frozen? ⟨w.heap.size + 1 + 1, 1, none⟩ = false := by go_simp
    clear hc1 hf1
    go_wp2_with fail
    refine (EN.out (w.heap.size + 1) _ ⟨by assumption, by assumption⟩).mono ?_
    rintro e w2 ⟨rfl, hb2⟩
    obtain ⟨hc2, hf2⟩ := bcell hb2
    have hz2 := hb2.size
    try simp only [World.size_alloc, World.size_setCell] at hz2
    try have : w.heap.size < w2.heap.size := by omega
    try have : w.heap.size ≤ w2.heap.size := by omega
    try have : w.heap.size + 1 < w2.heap.size := by omega
    try have : w.heap.size + 1 ≤ w2.heap.size := by omega
    try have : w.heap.size + 1 + 1 < w2.heap.size := by omega
    try have : w.heap.size + 1 + 1 ≤ w2.heap.size := by omega
    have c2_0_0 : w2.cell? ⟨w.heap.size, 0, none⟩ = some (.int .i64 (al)) := by go_simp
    have c2_0_1 : w2.cell? ⟨w.heap.size, 1, none⟩ = some (.int .i64 (ah)) := by go_simp
    have c2_1_0 : w2.cell? ⟨w.heap.size + 1, 0, none⟩ = some (.int .i64 (n)) := by go_simp
    have c2_2_0 : w2.cell? ⟨w.heap.size + 1 + 1, 0, none⟩ = some (.int .i64 (0)) := by go_simp
    have g2_2_0 : w2.frozen? ⟨w.heap.size + 1 + 1, 0, none⟩ = false := by go_simp
    have c2_2_1 : w2.cell? ⟨w.heap.size + 1 + 1, 1, none⟩ = some (.int .i64 (0)) := by go_simp
    have g2_2_1 : w2.frozen? ⟨w.heap.size + 1 + 1, 1, none⟩ = false := by go_simp
    clear hc2 hf2 c1_0_0 c1_0_1 c1_1_0 c1_2_0 g1_2_0 c1_2_1 g1_2_1
    go_wp2
    refine bodyPost_ret (v := .tuple #[.agg #[.int .i64 (rl), .int .i64 (rh)], .int .i64 re]) (by simp only [results, Try.results27]; go_simp) rfl ⟨rfl, (by repeat (first | with_reducible exact Below.refl _ _ | with_reducible refine bdrew ?_ | ((with_reducible first | refine bset ?_ ?_ | refine ball ?_ ?_ | refine bth (by assumption) ?_ ?_); first | omega | (simp <;> omega))))⟩
theorem rscale_any (al ah n : Int) (i0 : I64 al) (i1 : I64 ah) (kn : I64 n) (w : World) :
    Calls Try.prog 28 #[.agg #[.int .i64 (al), .int .i64 (ah)], .int .i64 n] w fun e w' => e = .returned (.tuple #[.agg #[.int .i64 (okI (vB al ah) (oLo (mi (al * n) (ah * n)) (mx (al * n) (ah * n)))), .int .i64 (okI (vB al ah) (oHi (mi (al * n) (ah * n)) (mx (al * n) (ah * n))))], .int .i64 (errE (vB al ah) (oE (mi (al * n) (ah * n)) (mx (al * n) (ah * n))))]) ∧ Below w.heap.size w w' := by
  cases hv : vB al ah
  · rw [ok_f, ok_f, err_f]
    have HV := hide (show chkI al ah = 2 by simp [chkI, hv])
    clear hv i0 i1 kn
    go_enter Try.func28, Try.ntmps28
    go_wp2_with fail
    refine (rcheck al ah 2 HV.out _).mono ?_
    rintro e w1 ⟨rfl, hb1⟩
    obtain ⟨hc1, hf1⟩ := bcell hb1
    have hz1 := hb1.size
    try simp only [World.size_alloc, World.size_setCell] at hz1
    try have : w.heap.size < w1.heap.size := by omega
    try have : w.heap.size ≤ w1.heap.size := by omega
    try have : w.heap.size + 1 < w1.heap.size := by omega
    try have : w.heap.size + 1 ≤ w1.heap.size := by omega
    go_wp2
    refine bodyPost_ret (v := .tuple #[.agg #[.int .i64 (0), .int .i64 (0)], .int .i64 2]) (by simp only [results, Try.results28]; go_simp) rfl ⟨rfl, (by repeat (first | with_reducible exact Below.refl _ _ | with_reducible refine bdrew ?_ | ((with_reducible first | refine bset ?_ ?_ | refine ball ?_ ?_ | refine bth (by assumption) ?_ ?_); first | omega | (simp <;> omega))))⟩
  · rw [ok_t, ok_t, err_t]
    have HV := hide (show chkI al ah = 0 by simp [chkI, hv])
    have TL := hide (rtimes al n i0 kn)
    have TH := hide (rtimes ah n i1 kn)
    clear hv i0 i1 kn
    generalize al * n = p at *
    generalize ah * n = q at *
    by_cases c : q < p
    · have e1 : mi p q = q := if_pos c
      have e2 : mx p q = p := if_neg (by omega)
      have LS := hide (rless_r q p true (decide_eq_true c))
      rw [e1, e2]
      have RO := hide (rout q p)
      clear e1 e2
      generalize oLo q p = rl at *
      generalize oHi q p = rh at *
      generalize oE q p = re at *
      go_enter Try.func28, Try.ntmps28
      go_wp2_with fail
      refine (rcheck al ah 0 HV.out _).mono ?_
      rintro e w1 ⟨rfl, hb1⟩
      obtain ⟨hc1, hf1⟩ := bcell hb1
      have hz1 := hb1.size
      try simp only [World.size_alloc, World.size_setCell] at hz1
      try have : w.heap.size < w1.heap.size := by omega
      try have : w.heap.size ≤ w1.heap.size := by omega
      try have : w.heap.size + 1 < w1.heap.size := by omega
      try have : w.heap.size + 1 ≤ w1.heap.size := by omega
      have c1_0_0 : w1.cell? ⟨w.heap.size, 0, none⟩ = some (.int .i64 (al)) := by go_simp
      have c1_0_1 : w1.cell? ⟨w.heap.size, 1, none⟩ = some (.int .i64 (ah)) := by go_simp
      have c1_1_0 : w1.cell? ⟨w.heap.size + 1, 0, none⟩ = some (.int .i64 (0)) := by go_simp
      have g1_1_0 : w1.frozen? ⟨w.heap.size + 1, 0, none⟩ = false := by go_simp
      have c1_1_1 : w1.cell? ⟨w.heap.size + 1, 1, none⟩ = some (.int .i64 (0)) := by go_simp
      have g1_1_1 : w1.frozen? ⟨w.heap.size + 1, 1, none⟩ = false := by go_simp
      clear hc1 hf1
      go_wp2_with fail
      refine (TL.out _).mono ?_
      rintro e w2 ⟨rfl, hb2⟩
      obtain ⟨hc2, hf2⟩ := bcell hb2
      have hz2 := hb2.size
      try simp only [World.size_alloc, World.size_setCell] at hz2
      try have : w.heap.size < w2.heap.size := by omega
      try have : w.heap.size < w2.heap.size + 1 := by omega
      try have : w.heap.size ≤ w2.heap.size := by omega
      try have : w.heap.size + 1 < w2.heap.size := by omega
      try have : w.heap.size + 1 < w2.heap.size + 1 := by omega
      try have : w.heap.size + 1 ≤ w2.heap.size := by omega
      have c2_0_0 : w2.cell? ⟨w.heap.size, 0, none⟩ = some (.int .i64 (al)) := by go_simp
      have c2_0_1 : w2.cell? ⟨w.heap.size, 1, none⟩ = some (.int .i64 (ah)) := by go_simp
      have c2_1_0 : w2.cell? ⟨w.heap.size + 1, 0, none⟩ = some (.int .i64 (0)) := by go_simp
      have g2_1_0 : w2.frozen? ⟨w.heap.size + 1, 0, none⟩ = false := by go_simp
      have c2_1_1 : w2.cell? ⟨w.heap.size + 1, 1, none⟩ = some (.int .i64 (0)) := by go_simp
      have g2_1_1 : w2.frozen? ⟨w.heap.size + 1, 1, none⟩ = false := by go_simp
      clear hc2 hf2 c1_0_0 c1_0_1 c1_1_0 g1_1_0 c1_1_1 g1_1_1
      go_wp2_with fail
      refine (TH.out _).mono ?_
      rintro e w3 ⟨rfl, hb3⟩
      obtain ⟨hc3, hf3⟩ := bcell hb3
      have hz3 := hb3.size
      try simp only [World.size_alloc, World.size_setCell] at hz3
      try have : w.heap.size < w3.heap.size := by omega
      try have : w.heap.size < w3.heap.size + 1 := by omega
      try have : w.heap.size ≤ w3.heap.size := by omega
      try have : w.heap.size + 1 < w3.heap.size := by omega
      try have : w.heap.size + 1 < w3.heap.size + 1 := by omega
      try have : w.heap.size + 1 ≤ w3.heap.size := by omega
      try have : w2.heap.size < w3.heap.size := by omega
      try have : w2.heap.size < w3.heap.size + 1 := by omega
      try have : w2.heap.size ≤ w3.heap.size := by omega
      have c3_0_0 : w3.cell? ⟨w.heap.size, 0, none⟩ = some (.int .i64 (al)) := by go_simp
      have c3_0_1 : w3.cell? ⟨w.heap.size, 1, none⟩ = some (.int .i64 (ah)) := by go_simp
      have c3_1_0 : w3.cell? ⟨w.heap.size + 1, 0, none⟩ = some (.int .i64 (0)) := by go_simp
      have g3_1_0 : w3.frozen? ⟨w.heap.size + 1, 0, none⟩ = false := by go_simp
      have c3_1_1 : w3.cell? ⟨w.heap.size + 1, 1, none⟩ = some (.int .i64 (0)) := by go_simp
      have g3_1_1 : w3.frozen? ⟨w.heap.size + 1, 1, none⟩ = false := by go_simp
      have c3_2_0 : w3.cell? ⟨w2.heap.size, 0, none⟩ = some (.int .i64 (wH (p))) := by go_simp
      have c3_2_1 : w3.cell? ⟨w2.heap.size, 1, none⟩ = some (.int .u64 (wL (p))) := by go_simp
      clear hc3 hf3 c2_0_0 c2_0_1 c2_1_0 g2_1_0 c2_1_1 g2_1_1
      go_wp2_with fail
      refine (LS.out _).mono ?_
      rintro e w4 ⟨rfl, hb4⟩
      obtain ⟨hc4, hf4⟩ := bcell hb4
      have hz4 := hb4.size
      try simp only [World.size_alloc, World.size_setCell] at hz4
      try have : w.heap.size < w4.heap.size := by omega
      try have : w.heap.size ≤ w4.heap.size := by omega
      try have : w.heap.size + 1 < w4.heap.size := by omega
      try have : w.heap.size + 1 ≤ w4.heap.size := by omega
      try have : w2.heap.size < w4.heap.size := by omega
      try have : w2.heap.size ≤ w4.heap.size := by omega
      try have : w3.heap.size < w4.heap.size := by omega
      try have : w3.heap.size ≤ w4.heap.size := by omega
      have c4_0_0 : w4.cell? ⟨w.heap.size, 0, none⟩ = some (.int .i64 (al)) := by go_simp
      have c4_0_1 : w4.cell? ⟨w.heap.size, 1, none⟩ = some (.int .i64 (ah)) := by go_simp
      have c4_1_0 : w4.cell? ⟨w.heap.size + 1, 0, none⟩ = some (.int .i64 (0)) := by go_simp
      have g4_1_0 : w4.frozen? ⟨w.heap.size + 1, 0, none⟩ = false := by go_simp
      have c4_1_1 : w4.cell? ⟨w.heap.size + 1, 1, none⟩ = some (.int .i64 (0)) := by go_simp
      have g4_1_1 : w4.frozen? ⟨w.heap.size + 1, 1, none⟩ = false := by go_simp
      have c4_2_0 : w4.cell? ⟨w2.heap.size, 0, none⟩ = some (.int .i64 (wH (p))) := by go_simp
      have c4_2_1 : w4.cell? ⟨w2.heap.size, 1, none⟩ = some (.int .u64 (wL (p))) := by go_simp
      have c4_3_0 : w4.cell? ⟨w3.heap.size, 0, none⟩ = some (.int .i64 (wH (q))) := by go_simp
      have c4_3_1 : w4.cell? ⟨w3.heap.size, 1, none⟩ = some (.int .u64 (wL (q))) := by go_simp
      clear hc4 hf4 c3_0_0 c3_0_1 c3_1_0 g3_1_0 c3_1_1 g3_1_1 c3_2_0 c3_2_1
      go_wp2_with fail
      refine (RO.out _).mono ?_
      rintro e w5 ⟨rfl, hb5⟩
      obtain ⟨hc5, hf5⟩ := bcell hb5
      have hz5 := hb5.size
      try simp only [World.size_alloc, World.size_setCell] at hz5
      try have : w.heap.size < w5.heap.size := by omega
      try have : w.heap.size ≤ w5.heap.size := by omega
      try have : w.heap.size + 1 < w5.heap.size := by omega
      try have : w.heap.size + 1 ≤ w5.heap.size := by omega
      try have : w2.heap.size < w5.heap.size := by omega
      try have : w2.heap.size ≤ w5.heap.size := by omega
      try have : w3.heap.size < w5.heap.size := by omega
      try have : w3.heap.size ≤ w5.heap.size := by omega
      have c5_0_0 : w5.cell? ⟨w.heap.size, 0, none⟩ = some (.int .i64 (al)) := by go_simp
      have c5_0_1 : w5.cell? ⟨w.heap.size, 1, none⟩ = some (.int .i64 (ah)) := by go_simp
      have c5_1_0 : w5.cell? ⟨w.heap.size + 1, 0, none⟩ = some (.int .i64 (0)) := by go_simp
      have g5_1_0 : w5.frozen? ⟨w.heap.size + 1, 0, none⟩ = false := by go_simp
      have c5_1_1 : w5.cell? ⟨w.heap.size + 1, 1, none⟩ = some (.int .i64 (0)) := by go_simp
      have g5_1_1 : w5.frozen? ⟨w.heap.size + 1, 1, none⟩ = false := by go_simp
      have c5_2_0 : w5.cell? ⟨w2.heap.size, 0, none⟩ = some (.int .i64 (wH (p))) := by go_simp
      have c5_2_1 : w5.cell? ⟨w2.heap.size, 1, none⟩ = some (.int .u64 (wL (p))) := by go_simp
      have c5_3_0 : w5.cell? ⟨w3.heap.size, 0, none⟩ = some (.int .i64 (wH (q))) := by go_simp
      have c5_3_1 : w5.cell? ⟨w3.heap.size, 1, none⟩ = some (.int .u64 (wL (q))) := by go_simp
      clear hc5 hf5 c4_0_0 c4_0_1 c4_1_0 g4_1_0 c4_1_1 g4_1_1 c4_2_0 c4_2_1 c4_3_0 c4_3_1
      go_wp2
      refine bodyPost_ret (v := .tuple #[.agg #[.int .i64 (rl), .int .i64 (rh)], .int .i64 re]) (by simp only [results, Try.results28]; go_simp) rfl ⟨rfl, (by repeat (first | with_reducible exact Below.refl _ _ | with_reducible refine bdrew ?_ | ((with_reducible first | refine bset ?_ ?_ | refine ball ?_ ?_ | refine bth (by assumption) ?_ ?_); first | omega | (simp <;> omega))))⟩
    · have e1 : mi p q = p := if_neg c
      have e2 : mx p q = q := by unfold mx; split <;> omega
      have LS := hide (rless_r q p false (decide_eq_false c))
      rw [e1, e2]
      have RO := hide (rout p q)
      clear e1 e2
      generalize oLo p q = rl at *
      generalize oHi p q = rh at *
      generalize oE p q = re at *
      go_enter Try.func28, Try.ntmps28
      go_wp2_with fail
      refine (rcheck al ah 0 HV.out _).mono ?_
      rintro e w1 ⟨rfl, hb1⟩
      obtain ⟨hc1, hf1⟩ := bcell hb1
      have hz1 := hb1.size
      try simp only [World.size_alloc, World.size_setCell] at hz1
      try have : w.heap.size < w1.heap.size := by omega
      try have : w.heap.size ≤ w1.heap.size := by omega
      try have : w.heap.size + 1 < w1.heap.size := by omega
      try have : w.heap.size + 1 ≤ w1.heap.size := by omega
      have c1_0_0 : w1.cell? ⟨w.heap.size, 0, none⟩ = some (.int .i64 (al)) := by go_simp
      have c1_0_1 : w1.cell? ⟨w.heap.size, 1, none⟩ = some (.int .i64 (ah)) := by go_simp
      have c1_1_0 : w1.cell? ⟨w.heap.size + 1, 0, none⟩ = some (.int .i64 (0)) := by go_simp
      have g1_1_0 : w1.frozen? ⟨w.heap.size + 1, 0, none⟩ = false := by go_simp
      have c1_1_1 : w1.cell? ⟨w.heap.size + 1, 1, none⟩ = some (.int .i64 (0)) := by go_simp
      have g1_1_1 : w1.frozen? ⟨w.heap.size + 1, 1, none⟩ = false := by go_simp
      clear hc1 hf1
      go_wp2_with fail
      refine (TL.out _).mono ?_
      rintro e w2 ⟨rfl, hb2⟩
      obtain ⟨hc2, hf2⟩ := bcell hb2
      have hz2 := hb2.size
      try simp only [World.size_alloc, World.size_setCell] at hz2
      try have : w.heap.size < w2.heap.size := by omega
      try have : w.heap.size < w2.heap.size + 1 := by omega
      try have : w.heap.size ≤ w2.heap.size := by omega
      try have : w.heap.size + 1 < w2.heap.size := by omega
      try have : w.heap.size + 1 < w2.heap.size + 1 := by omega
      try have : w.heap.size + 1 ≤ w2.heap.size := by omega
      have c2_0_0 : w2.cell? ⟨w.heap.size, 0, none⟩ = some (.int .i64 (al)) := by go_simp
      have c2_0_1 : w2.cell? ⟨w.heap.size, 1, none⟩ = some (.int .i64 (ah)) := by go_simp
      have c2_1_0 : w2.cell? ⟨w.heap.size + 1, 0, none⟩ = some (.int .i64 (0)) := by go_simp
      have g2_1_0 : w2.frozen? ⟨w.heap.size + 1, 0, none⟩ = false := by go_simp
      have c2_1_1 : w2.cell? ⟨w.heap.size + 1, 1, none⟩ = some (.int .i64 (0)) := by go_simp
      have g2_1_1 : w2.frozen? ⟨w.heap.size + 1, 1, none⟩ = false := by go_simp
      clear hc2 hf2 c1_0_0 c1_0_1 c1_1_0 g1_1_0 c1_1_1 g1_1_1
      go_wp2_with fail
      refine (TH.out _).mono ?_
      rintro e w3 ⟨rfl, hb3⟩
      obtain ⟨hc3, hf3⟩ := bcell hb3
      have hz3 := hb3.size
      try simp only [World.size_alloc, World.size_setCell] at hz3
      try have : w.heap.size < w3.heap.size := by omega
      try have : w.heap.size < w3.heap.size + 1 := by omega
      try have : w.heap.size ≤ w3.heap.size := by omega
      try have : w.heap.size + 1 < w3.heap.size := by omega
      try have : w.heap.size + 1 < w3.heap.size + 1 := by omega
      try have : w.heap.size + 1 ≤ w3.heap.size := by omega
      try have : w2.heap.size < w3.heap.size := by omega
      try have : w2.heap.size < w3.heap.size + 1 := by omega
      try have : w2.heap.size ≤ w3.heap.size := by omega
      have c3_0_0 : w3.cell? ⟨w.heap.size, 0, none⟩ = some (.int .i64 (al)) := by go_simp
      have c3_0_1 : w3.cell? ⟨w.heap.size, 1, none⟩ = some (.int .i64 (ah)) := by go_simp
      have c3_1_0 : w3.cell? ⟨w.heap.size + 1, 0, none⟩ = some (.int .i64 (0)) := by go_simp
      have g3_1_0 : w3.frozen? ⟨w.heap.size + 1, 0, none⟩ = false := by go_simp
      have c3_1_1 : w3.cell? ⟨w.heap.size + 1, 1, none⟩ = some (.int .i64 (0)) := by go_simp
      have g3_1_1 : w3.frozen? ⟨w.heap.size + 1, 1, none⟩ = false := by go_simp
      have c3_2_0 : w3.cell? ⟨w2.heap.size, 0, none⟩ = some (.int .i64 (wH (p))) := by go_simp
      have c3_2_1 : w3.cell? ⟨w2.heap.size, 1, none⟩ = some (.int .u64 (wL (p))) := by go_simp
      clear hc3 hf3 c2_0_0 c2_0_1 c2_1_0 g2_1_0 c2_1_1 g2_1_1
      go_wp2_with fail
      refine (LS.out _).mono ?_
      rintro e w4 ⟨rfl, hb4⟩
      obtain ⟨hc4, hf4⟩ := bcell hb4
      have hz4 := hb4.size
      try simp only [World.size_alloc, World.size_setCell] at hz4
      try have : w.heap.size < w4.heap.size := by omega
      try have : w.heap.size ≤ w4.heap.size := by omega
      try have : w.heap.size + 1 < w4.heap.size := by omega
      try have : w.heap.size + 1 ≤ w4.heap.size := by omega
      try have : w2.heap.size < w4.heap.size := by omega
      try have : w2.heap.size ≤ w4.heap.size := by omega
      try have : w3.heap.size < w4.heap.size := by omega
      try have : w3.heap.size ≤ w4.heap.size := by omega
      have c4_0_0 : w4.cell? ⟨w.heap.size, 0, none⟩ = some (.int .i64 (al)) := by go_simp
      have c4_0_1 : w4.cell? ⟨w.heap.size, 1, none⟩ = some (.int .i64 (ah)) := by go_simp
      have c4_1_0 : w4.cell? ⟨w.heap.size + 1, 0, none⟩ = some (.int .i64 (0)) := by go_simp
      have g4_1_0 : w4.frozen? ⟨w.heap.size + 1, 0, none⟩ = false := by go_simp
      have c4_1_1 : w4.cell? ⟨w.heap.size + 1, 1, none⟩ = some (.int .i64 (0)) := by go_simp
      have g4_1_1 : w4.frozen? ⟨w.heap.size + 1, 1, none⟩ = false := by go_simp
      have c4_2_0 : w4.cell? ⟨w2.heap.size, 0, none⟩ = some (.int .i64 (wH (p))) := by go_simp
      have c4_2_1 : w4.cell? ⟨w2.heap.size, 1, none⟩ = some (.int .u64 (wL (p))) := by go_simp
      have c4_3_0 : w4.cell? ⟨w3.heap.size, 0, none⟩ = some (.int .i64 (wH (q))) := by go_simp
      have c4_3_1 : w4.cell? ⟨w3.heap.size, 1, none⟩ = some (.int .u64 (wL (q))) := by go_simp
      clear hc4 hf4 c3_0_0 c3_0_1 c3_1_0 g3_1_0 c3_1_1 g3_1_1 c3_2_0 c3_2_1
      go_wp2_with fail
      refine (RO.out _).mono ?_
      rintro e w5 ⟨rfl, hb5⟩
      obtain ⟨hc5, hf5⟩ := bcell hb5
      have hz5 := hb5.size
      try simp only [World.size_alloc, World.size_setCell] at hz5
      try have : w.heap.size < w5.heap.size := by omega
      try have : w.heap.size ≤ w5.heap.size := by omega
      try have : w.heap.size + 1 < w5.heap.size := by omega
      try have : w.heap.size + 1 ≤ w5.heap.size := by omega
      try have : w2.heap.size < w5.heap.size := by omega
      try have : w2.heap.size ≤ w5.heap.size := by omega
      try have : w3.heap.size < w5.heap.size := by omega
      try have : w3.heap.size ≤ w5.heap.size := by omega
      have c5_0_0 : w5.cell? ⟨w.heap.size, 0, none⟩ = some (.int .i64 (al)) := by go_simp
      have c5_0_1 : w5.cell? ⟨w.heap.size, 1, none⟩ = some (.int .i64 (ah)) := by go_simp
      have c5_1_0 : w5.cell? ⟨w.heap.size + 1, 0, none⟩ = some (.int .i64 (0)) := by go_simp
      have g5_1_0 : w5.frozen? ⟨w.heap.size + 1, 0, none⟩ = false := by go_simp
      have c5_1_1 : w5.cell? ⟨w.heap.size + 1, 1, none⟩ = some (.int .i64 (0)) := by go_simp
      have g5_1_1 : w5.frozen? ⟨w.heap.size + 1, 1, none⟩ = false := by go_simp
      have c5_2_0 : w5.cell? ⟨w2.heap.size, 0, none⟩ = some (.int .i64 (wH (p))) := by go_simp
      have c5_2_1 : w5.cell? ⟨w2.heap.size, 1, none⟩ = some (.int .u64 (wL (p))) := by go_simp
      have c5_3_0 : w5.cell? ⟨w3.heap.size, 0, none⟩ = some (.int .i64 (wH (q))) := by go_simp
      have c5_3_1 : w5.cell? ⟨w3.heap.size, 1, none⟩ = some (.int .u64 (wL (q))) := by go_simp
      clear hc5 hf5 c4_0_0 c4_0_1 c4_1_0 g4_1_0 c4_1_1 g4_1_1 c4_2_0 c4_2_1 c4_3_0 c4_3_1
      go_wp2
      refine bodyPost_ret (v := .tuple #[.agg #[.int .i64 (rl), .int .i64 (rh)], .int .i64 re]) (by simp only [results, Try.results28]; go_simp) rfl ⟨rfl, (by repeat (first | with_reducible exact Below.refl _ _ | with_reducible refine bdrew ?_ | ((with_reducible first | refine bset ?_ ?_ | refine ball ?_ ?_ | refine bth (by assumption) ?_ ?_); first | omega | (simp <;> omega))))⟩
end Go.Proofs.Ytbfbnmmgmkbieaa
