/- Sums, differences, negative numbers, spans that grow: the program's functions and the document's. -/
import Derived.Test.YtbfbnmmgmkbieaaOut
set_option linter.unusedVariables false
set_option linter.unusedSimpArgs false
namespace Go.Proofs.Ytbfbnmmgmkbieaa
open Go.RowKit
theorem plus_yes (x y : Int) (h : -9223372036854775807 ≤ x + y ∧ x + y ≤ 9223372036854775807) (w : World) :
    Calls Try.prog 82 #[.int .i64 x, .int .i64 y] w fun e w' => e = .returned (.tuple #[.int .i64 (x + y), .bool true]) ∧ Below w.heap.size w w' := by
  obtain ⟨h0, h1⟩ := h
  have g1 : (x + y != -9223372036854775808) = true := by rw [bne_iff_ne]; omega
  have g2 : (decide (x + y < x) == decide (y < 0)) = true := by rw [beq_iff_eq, decide_eq_decide]; omega
  go_enter Try.func82, Try.ntmps82
  go_wp2
  go_ret2
  exact ⟨rfl, Below.refl _ _⟩
theorem plus_no (x y : Int) (hx : I64 x) (hy : I64 y) (h : ¬ (-9223372036854775807 ≤ x + y ∧ x + y ≤ 9223372036854775807)) (w : World) :
    Calls Try.prog 82 #[.int .i64 x, .int .i64 y] w fun e w' => e = .returned (.tuple #[.int .i64 (wrap64 (x + y)), .bool false]) ∧ Below w.heap.size w w' := by
  obtain ⟨x0, x1⟩ := hx; obtain ⟨y0, y1⟩ := hy
  have HX := hide (And.intro (And.intro x0 x1) (And.intro y0 y1))
  by_cases g : wrap64 (x + y) = -9223372036854775808
  · have g1 : (wrap64 (x + y) != -9223372036854775808) = false := by rw [g]; rfl
    clear g h x0 x1 y0 y1
    go_enter Try.func82, Try.ntmps82
    go_wp2
    go_ret2
    exact ⟨rfl, Below.refl _ _⟩
  · have g1 : (wrap64 (x + y) != -9223372036854775808) = true := by rw [bne_iff_ne]; exact g
    have g2 : (decide (wrap64 (x + y) < x) == decide (y < 0)) = false := by
      rw [beq_eq_false_iff_ne, ne_eq, decide_eq_decide]
      unfold wrap64 at *; omega
    clear g h x0 x1 y0 y1
    go_enter Try.func82, Try.ntmps82
    go_wp2
    go_ret2
    exact ⟨rfl, Below.refl _ _⟩
theorem fits_t {lo hi : Int} (h1 : -9223372036854775807 ≤ lo ∧ lo ≤ 9223372036854775807) (h2 : -9223372036854775807 ≤ hi ∧ hi ≤ 9223372036854775807) : fits lo hi = true := decide_eq_true ⟨h1.1, h1.2, h2.1, h2.2⟩
theorem fits_f {lo hi : Int} (h : ¬ ((-9223372036854775807 ≤ lo ∧ lo ≤ 9223372036854775807) ∧ (-9223372036854775807 ≤ hi ∧ hi ≤ 9223372036854775807))) : fits lo hi = false := decide_eq_false (by omega)

theorem add_any (al ah bl bh : Int) (i0 : I64 al) (i1 : I64 ah) (i2 : I64 bl) (i3 : I64 bh) (w : World) :
    Calls Try.prog 21 #[.agg #[.int .i64 (al), .int .i64 (ah)], .agg #[.int .i64 (bl), .int .i64 (bh)]] w fun e w' => e = .returned (.tuple #[.agg #[.int .i64 (okI (vB al ah && vB bl bh) (oLo (al + bl) (ah + bh))), .int .i64 (okI (vB al ah && vB bl bh) (oHi (al + bl) (ah + bh)))], .int .i64 (errE (vB al ah && vB bl bh) (oE (al + bl) (ah + bh)))]) ∧ Below w.heap.size w w' := by
  have h0 := i0.1
  have h1 := i2.1
  have I0 := hide i0
  have I1 := hide i1
  have I2 := hide i2
  have I3 := hide i3
  clear i0 i1 i2 i3
  cases hv : (vB al ah && vB bl bh)
  · rw [ok_f, ok_f, err_f]
    have HV := hide hv
    clear hv
    go_enter Try.func21, Try.ntmps21
    go_wp2_with (go_at_call 81; refine (invalid2 al ah bl bh _ _ _ h0 h1 (by go_simp) (by go_simp) (by go_simp) (by go_simp) (by go_simp) true (by simpa using HV.out)).mono ?_; rintro e w1 ⟨rfl, hb1⟩; obtain ⟨hc1, hf1⟩ := bcell hb1; have hz1 := hb1.size; try simp only [World.size_alloc] at hz1)
    refine bodyPost_ret (v := .tuple #[.agg #[.int .i64 (0), .int .i64 (0)], .int .i64 2]) (by simp only [results, Try.results21]; go_simp) rfl ⟨rfl, (by repeat (first | with_reducible exact Below.refl _ _ | with_reducible refine bdrew ?_ | ((with_reducible first | refine bset ?_ ?_ | refine ball ?_ ?_ | refine bth (by assumption) ?_ ?_); first | omega | (simp <;> omega))))⟩
  · rw [ok_t, ok_t, err_t]
    have HV := hide hv
    clear hv
    by_cases c1 : -9223372036854775807 ≤ al + bl ∧ al + bl ≤ 9223372036854775807
    · by_cases c2 : -9223372036854775807 ≤ ah + bh ∧ ah + bh ≤ 9223372036854775807
      · have E := hide (out_t (fits_t c1 c2))
        have C1 := hide c1
        have C2 := hide c2
        clear c1 c2
        go_enter Try.func21, Try.ntmps21
        go_wp2_with fail
        go_at_call 81
        refine (invalid2 al ah bl bh _ _ _ h0 h1 (by go_simp) (by go_simp) (by go_simp) (by go_simp) (by go_simp) false (by simpa using HV.out)).mono ?_
        rintro e w1 ⟨rfl, hb1⟩
        obtain ⟨hc1, hf1⟩ := bcell hb1
        have hz1 := hb1.size
        try simp only [World.size_alloc, World.size_setCell] at hz1
        try have : w.heap.size < w1.heap.size := by omega
        try have : w.heap.size ≤ w1.heap.size := by omega
        try have : w.heap.size + 1 < w1.heap.size := by omega
        try have : w.heap.size + 1 ≤ w1.heap.size := by omega
        try have : w.heap.size + 1 + 1 < w1.heap.size := by omega
        try have : w.heap.size + 1 + 1 ≤ w1.heap.size := by omega
        try have : w.heap.size + 1 + 1 + 1 < w1.heap.size := by omega
        try have : w.heap.size + 1 + 1 + 1 ≤ w1.heap.size := by omega
        go_wp2_with fail
        refine (plus_yes al bl C1.out _).mono ?_
        rintro e w2 ⟨rfl, hb2⟩
        obtain ⟨hc2, hf2⟩ := bcell hb2
        have hz2 := hb2.size
        try simp only [World.size_alloc, World.size_setCell] at hz2
        try have : w.heap.size < w2.heap.size := by omega
        try have : w.heap.size ≤ w2.heap.size := by omega
        try have : w.heap.size + 1 < w2.heap.size := by omega
        try have : w.heap.size + 1 ≤ w2.heap.size := by omega
        try have : w.heap.size + 1 + 1 < w2.heap.size := by omega
        try have : w.heap.size + 1 + 1 ≤ w2.heap.size := by omega
        try have : w.heap.size + 1 + 1 + 1 < w2.heap.size := by omega
        try have : w.heap.size + 1 + 1 + 1 ≤ w2.heap.size := by omega
        try have : w1.heap.size < w2.heap.size := by omega
        try have : w1.heap.size ≤ w2.heap.size := by omega
        go_wp2_with fail
        refine (plus_yes ah bh C2.out _).mono ?_
        rintro e w3 ⟨rfl, hb3⟩
        obtain ⟨hc3, hf3⟩ := bcell hb3
        have hz3 := hb3.size
        try simp only [World.size_alloc, World.size_setCell] at hz3
        try have : w.heap.size < w3.heap.size := by omega
        try have : w.heap.size ≤ w3.heap.size := by omega
        try have : w.heap.size + 1 < w3.heap.size := by omega
        try have : w.heap.size + 1 ≤ w3.heap.size := by omega
        try have : w.heap.size + 1 + 1 < w3.heap.size := by omega
        try have : w.heap.size + 1 + 1 ≤ w3.heap.size := by omega
        try have : w.heap.size + 1 + 1 + 1 < w3.heap.size := by omega
        try have : w.heap.size + 1 + 1 + 1 ≤ w3.heap.size := by omega
        try have : w1.heap.size < w3.heap.size := by omega
        try have : w1.heap.size ≤ w3.heap.size := by omega
        try have : w2.heap.size < w3.heap.size := by omega
        try have : w2.heap.size ≤ w3.heap.size := by omega
        go_wp2
        rw [E.out.1, E.out.2.1, E.out.2.2]
        refine bodyPost_ret (v := .tuple #[.agg #[.int .i64 (al + bl), .int .i64 (ah + bh)], .int .i64 0]) (by simp only [results, Try.results21]; go_simp) rfl ⟨rfl, (by repeat (first | with_reducible exact Below.refl _ _ | with_reducible refine bdrew ?_ | ((with_reducible first | refine bset ?_ ?_ | refine ball ?_ ?_ | refine bth (by assumption) ?_ ?_); first | omega | (simp <;> omega))))⟩
      · have E := hide (out_f (lo := al + bl) (hi := ah + bh) (fits_f (by omega)))
        have C1 := hide c1
        have C2 := hide c2
        clear c1 c2
        go_enter Try.func21, Try.ntmps21
        go_wp2_with fail
        go_at_call 81
        refine (invalid2 al ah bl bh _ _ _ h0 h1 (by go_simp) (by go_simp) (by go_simp) (by go_simp) (by go_simp) false (by simpa using HV.out)).mono ?_
        rintro e w1 ⟨rfl, hb1⟩
        obtain ⟨hc1, hf1⟩ := bcell hb1
        have hz1 := hb1.size
        try simp only [World.size_alloc, World.size_setCell] at hz1
        try have : w.heap.size < w1.heap.size := by omega
        try have : w.heap.size ≤ w1.heap.size := by omega
        try have : w.heap.size + 1 < w1.heap.size := by omega
        try have : w.heap.size + 1 ≤ w1.heap.size := by omega
        try have : w.heap.size + 1 + 1 < w1.heap.size := by omega
        try have : w.heap.size + 1 + 1 ≤ w1.heap.size := by omega
        try have : w.heap.size + 1 + 1 + 1 < w1.heap.size := by omega
        try have : w.heap.size + 1 + 1 + 1 ≤ w1.heap.size := by omega
        go_wp2_with fail
        refine (plus_yes al bl C1.out _).mono ?_
        rintro e w2 ⟨rfl, hb2⟩
        obtain ⟨hc2, hf2⟩ := bcell hb2
        have hz2 := hb2.size
        try simp only [World.size_alloc, World.size_setCell] at hz2
        try have : w.heap.size < w2.heap.size := by omega
        try have : w.heap.size ≤ w2.heap.size := by omega
        try have : w.heap.size + 1 < w2.heap.size := by omega
        try have : w.heap.size + 1 ≤ w2.heap.size := by omega
        try have : w.heap.size + 1 + 1 < w2.heap.size := by omega
        try have : w.heap.size + 1 + 1 ≤ w2.heap.size := by omega
        try have : w.heap.size + 1 + 1 + 1 < w2.heap.size := by omega
        try have : w.heap.size + 1 + 1 + 1 ≤ w2.heap.size := by omega
        try have : w1.heap.size < w2.heap.size := by omega
        try have : w1.heap.size ≤ w2.heap.size := by omega
        go_wp2_with fail
        refine (plus_no ah bh I1.out I3.out C2.out _).mono ?_
        rintro e w3 ⟨rfl, hb3⟩
        obtain ⟨hc3, hf3⟩ := bcell hb3
        have hz3 := hb3.size
        try simp only [World.size_alloc, World.size_setCell] at hz3
        try have : w.heap.size < w3.heap.size := by omega
        try have : w.heap.size ≤ w3.heap.size := by omega
        try have : w.heap.size + 1 < w3.heap.size := by omega
        try have : w.heap.size + 1 ≤ w3.heap.size := by omega
        try have : w.heap.size + 1 + 1 < w3.heap.size := by omega
        try have : w.heap.size + 1 + 1 ≤ w3.heap.size := by omega
        try have : w.heap.size + 1 + 1 + 1 < w3.heap.size := by omega
        try have : w.heap.size + 1 + 1 + 1 ≤ w3.heap.size := by omega
        try have : w1.heap.size < w3.heap.size := by omega
        try have : w1.heap.size ≤ w3.heap.size := by omega
        try have : w2.heap.size < w3.heap.size := by omega
        try have : w2.heap.size ≤ w3.heap.size := by omega
        go_wp2
        rw [E.out.1, E.out.2.1, E.out.2.2]
        refine bodyPost_ret (v := .tuple #[.agg #[.int .i64 (0), .int .i64 (0)], .int .i64 4]) (by simp only [results, Try.results21]; go_simp) rfl ⟨rfl, (by repeat (first | with_reducible exact Below.refl _ _ | with_reducible refine bdrew ?_ | ((with_reducible first | refine bset ?_ ?_ | refine ball ?_ ?_ | refine bth (by assumption) ?_ ?_); first | omega | (simp <;> omega))))⟩
    · have E := hide (out_f (lo := al + bl) (hi := ah + bh) (fits_f (by omega)))
      by_cases c2 : -9223372036854775807 ≤ ah + bh ∧ ah + bh ≤ 9223372036854775807
      · have C1 := hide c1
        have C2 := hide c2
        clear c1 c2
        go_enter Try.func21, Try.ntmps21
        go_wp2_with fail
        go_at_call 81
        refine (invalid2 al ah bl bh _ _ _ h0 h1 (by go_simp) (by go_simp) (by go_simp) (by go_simp) (by go_simp) false (by simpa using HV.out)).mono ?_
        rintro e w1 ⟨rfl, hb1⟩
        obtain ⟨hc1, hf1⟩ := bcell hb1
        have hz1 := hb1.size
        try simp only [World.size_alloc, World.size_setCell] at hz1
        try have : w.heap.size < w1.heap.size := by omega
        try have : w.heap.size ≤ w1.heap.size := by omega
        try have : w.heap.size + 1 < w1.heap.size := by omega
        try have : w.heap.size + 1 ≤ w1.heap.size := by omega
        try have : w.heap.size + 1 + 1 < w1.heap.size := by omega
        try have : w.heap.size + 1 + 1 ≤ w1.heap.size := by omega
        try have : w.heap.size + 1 + 1 + 1 < w1.heap.size := by omega
        try have : w.heap.size + 1 + 1 + 1 ≤ w1.heap.size := by omega
        go_wp2_with fail
        refine (plus_no al bl I0.out I2.out C1.out _).mono ?_
        rintro e w2 ⟨rfl, hb2⟩
        obtain ⟨hc2, hf2⟩ := bcell hb2
        have hz2 := hb2.size
        try simp only [World.size_alloc, World.size_setCell] at hz2
        try have : w.heap.size < w2.heap.size := by omega
        try have : w.heap.size ≤ w2.heap.size := by omega
        try have : w.heap.size + 1 < w2.heap.size := by omega
        try have : w.heap.size + 1 ≤ w2.heap.size := by omega
        try have : w.heap.size + 1 + 1 < w2.heap.size := by omega
        try have : w.heap.size + 1 + 1 ≤ w2.heap.size := by omega
        try have : w.heap.size + 1 + 1 + 1 < w2.heap.size := by omega
        try have : w.heap.size + 1 + 1 + 1 ≤ w2.heap.size := by omega
        try have : w1.heap.size < w2.heap.size := by omega
        try have : w1.heap.size ≤ w2.heap.size := by omega
        go_wp2_with fail
        refine (plus_yes ah bh C2.out _).mono ?_
        rintro e w3 ⟨rfl, hb3⟩
        obtain ⟨hc3, hf3⟩ := bcell hb3
        have hz3 := hb3.size
        try simp only [World.size_alloc, World.size_setCell] at hz3
        try have : w.heap.size < w3.heap.size := by omega
        try have : w.heap.size ≤ w3.heap.size := by omega
        try have : w.heap.size + 1 < w3.heap.size := by omega
        try have : w.heap.size + 1 ≤ w3.heap.size := by omega
        try have : w.heap.size + 1 + 1 < w3.heap.size := by omega
        try have : w.heap.size + 1 + 1 ≤ w3.heap.size := by omega
        try have : w.heap.size + 1 + 1 + 1 < w3.heap.size := by omega
        try have : w.heap.size + 1 + 1 + 1 ≤ w3.heap.size := by omega
        try have : w1.heap.size < w3.heap.size := by omega
        try have : w1.heap.size ≤ w3.heap.size := by omega
        try have : w2.heap.size < w3.heap.size := by omega
        try have : w2.heap.size ≤ w3.heap.size := by omega
        go_wp2
        rw [E.out.1, E.out.2.1, E.out.2.2]
        refine bodyPost_ret (v := .tuple #[.agg #[.int .i64 (0), .int .i64 (0)], .int .i64 4]) (by simp only [results, Try.results21]; go_simp) rfl ⟨rfl, (by repeat (first | with_reducible exact Below.refl _ _ | with_reducible refine bdrew ?_ | ((with_reducible first | refine bset ?_ ?_ | refine ball ?_ ?_ | refine bth (by assumption) ?_ ?_); first | omega | (simp <;> omega))))⟩
      · have C1 := hide c1
        have C2 := hide c2
        clear c1 c2
        go_enter Try.func21, Try.ntmps21
        go_wp2_with fail
        go_at_call 81
        refine (invalid2 al ah bl bh _ _ _ h0 h1 (by go_simp) (by go_simp) (by go_simp) (by go_simp) (by go_simp) false (by simpa using HV.out)).mono ?_
        rintro e w1 ⟨rfl, hb1⟩
        obtain ⟨hc1, hf1⟩ := bcell hb1
        have hz1 := hb1.size
        try simp only [World.size_alloc, World.size_setCell] at hz1
        try have : w.heap.size < w1.heap.size := by omega
        try have : w.heap.size ≤ w1.heap.size := by omega
        try have : w.heap.size + 1 < w1.heap.size := by omega
        try have : w.heap.size + 1 ≤ w1.heap.size := by omega
        try have : w.heap.size + 1 + 1 < w1.heap.size := by omega
        try have : w.heap.size + 1 + 1 ≤ w1.heap.size := by omega
        try have : w.heap.size + 1 + 1 + 1 < w1.heap.size := by omega
        try have : w.heap.size + 1 + 1 + 1 ≤ w1.heap.size := by omega
        go_wp2_with fail
        refine (plus_no al bl I0.out I2.out C1.out _).mono ?_
        rintro e w2 ⟨rfl, hb2⟩
        obtain ⟨hc2, hf2⟩ := bcell hb2
        have hz2 := hb2.size
        try simp only [World.size_alloc, World.size_setCell] at hz2
        try have : w.heap.size < w2.heap.size := by omega
        try have : w.heap.size ≤ w2.heap.size := by omega
        try have : w.heap.size + 1 < w2.heap.size := by omega
        try have : w.heap.size + 1 ≤ w2.heap.size := by omega
        try have : w.heap.size + 1 + 1 < w2.heap.size := by omega
        try have : w.heap.size + 1 + 1 ≤ w2.heap.size := by omega
        try have : w.heap.size + 1 + 1 + 1 < w2.heap.size := by omega
        try have : w.heap.size + 1 + 1 + 1 ≤ w2.heap.size := by omega
        try have : w1.heap.size < w2.heap.size := by omega
        try have : w1.heap.size ≤ w2.heap.size := by omega
        go_wp2_with fail
        refine (plus_no ah bh I1.out I3.out C2.out _).mono ?_
        rintro e w3 ⟨rfl, hb3⟩
        obtain ⟨hc3, hf3⟩ := bcell hb3
        have hz3 := hb3.size
        try simp only [World.size_alloc, World.size_setCell] at hz3
        try have : w.heap.size < w3.heap.size := by omega
        try have : w.heap.size ≤ w3.heap.size := by omega
        try have : w.heap.size + 1 < w3.heap.size := by omega
        try have : w.heap.size + 1 ≤ w3.heap.size := by omega
        try have : w.heap.size + 1 + 1 < w3.heap.size := by omega
        try have : w.heap.size + 1 + 1 ≤ w3.heap.size := by omega
        try have : w.heap.size + 1 + 1 + 1 < w3.heap.size := by omega
        try have : w.heap.size + 1 + 1 + 1 ≤ w3.heap.size := by omega
        try have : w1.heap.size < w3.heap.size := by omega
        try have : w1.heap.size ≤ w3.heap.size := by omega
        try have : w2.heap.size < w3.heap.size := by omega
        try have : w2.heap.size ≤ w3.heap.size := by omega
        go_wp2
        rw [E.out.1, E.out.2.1, E.out.2.2]
        refine bodyPost_ret (v := .tuple #[.agg #[.int .i64 (0), .int .i64 (0)], .int .i64 4]) (by simp only [results, Try.results21]; go_simp) rfl ⟨rfl, (by repeat (first | with_reducible exact Below.refl _ _ | with_reducible refine bdrew ?_ | ((with_reducible first | refine bset ?_ ?_ | refine ball ?_ ?_ | refine bth (by assumption) ?_ ?_); first | omega | (simp <;> omega))))⟩

theorem neg_any (al ah : Int) (i0 : I64 al) (i1 : I64 ah) (w : World) :
    Calls Try.prog 25 #[.agg #[.int .i64 (al), .int .i64 (ah)]] w fun e w' => e = .returned (.tuple #[.agg #[.int .i64 (okI (vB al ah) (-ah)), .int .i64 (okI (vB al ah) (-al))], .int .i64 (errE (vB al ah) 0)]) ∧ Below w.heap.size w w' := by
  have h0 := i0.1
  have b1 := i1.2
  clear i0 i1
  cases hv : vB al ah
  · rw [ok_f, ok_f, err_f]
    have HV := hide hv
    clear hv
    go_enter Try.func25, Try.ntmps25
    go_wp2_with fail
    go_at_call 81
    refine (invalid1 al ah _ _ _ h0 (by go_simp) (by go_simp) (by go_simp) true (by simpa using HV.out)).mono ?_
    rintro e w1 ⟨rfl, hb1⟩
    obtain ⟨hc1, hf1⟩ := bcell hb1
    have hz1 := hb1.size
    try simp only [World.size_alloc, World.size_setCell] at hz1
    try have : w.heap.size < w1.heap.size := by omega
    try have : w.heap.size ≤ w1.heap.size := by omega
    try have : w.heap.size + 1 < w1.heap.size := by omega
    try have : w.heap.size + 1 ≤ w1.heap.size := by omega
    try have : w.heap.size + 1 + 1 < w1.heap.size := by omega
    try have : w.heap.size + 1 + 1 ≤ w1.heap.size := by omega
    go_wp2
    refine bodyPost_ret (v := .tuple #[.agg #[.int .i64 (0), .int .i64 (0)], .int .i64 2]) (by simp only [results, Try.results25]; go_simp) rfl ⟨rfl, (by repeat (first | with_reducible exact Below.refl _ _ | with_reducible refine bdrew ?_ | ((with_reducible first | refine bset ?_ ?_ | refine ball ?_ ?_ | refine bth (by assumption) ?_ ?_); first | omega | (simp <;> omega))))⟩
  · rw [ok_t, ok_t, err_t]
    have HV := hide hv
    obtain ⟨v1, v2⟩ := vB_tt hv
    clear hv
    go_enter Try.func25, Try.ntmps25
    go_wp2_with fail
    go_at_call 81
    refine (invalid1 al ah _ _ _ h0 (by go_simp) (by go_simp) (by go_simp) false (by simpa using HV.out)).mono ?_
    rintro e w1 ⟨rfl, hb1⟩
    obtain ⟨hc1, hf1⟩ := bcell hb1
    have hz1 := hb1.size
    try simp only [World.size_alloc, World.size_setCell] at hz1
    try have : w.heap.size < w1.heap.size := by omega
    try have : w.heap.size ≤ w1.heap.size := by omega
    try have : w.heap.size + 1 < w1.heap.size := by omega
    try have : w.heap.size + 1 ≤ w1.heap.size := by omega
    try have : w.heap.size + 1 + 1 < w1.heap.size := by omega
    try have : w.heap.size + 1 + 1 ≤ w1.heap.size := by omega
    go_wp2
    refine bodyPost_ret (v := .tuple #[.agg #[.int .i64 (-ah), .int .i64 (-al)], .int .i64 0]) (by simp only [results, Try.results25]; go_simp) rfl ⟨rfl, (by repeat (first | with_reducible exact Below.refl _ _ | with_reducible refine bdrew ?_ | ((with_reducible first | refine bset ?_ ?_ | refine ball ?_ ?_ | refine bth (by assumption) ?_ ?_); first | omega | (simp <;> omega))))⟩
theorem rneg_any (al ah : Int) (i0 : I64 al) (i1 : I64 ah) (w : World) :
    Calls Try.prog 26 #[.agg #[.int .i64 (al), .int .i64 (ah)]] w fun e w' => e = .returned (.tuple #[.agg #[.int .i64 (okI (vB al ah) (-ah)), .int .i64 (okI (vB al ah) (-al))], .int .i64 (errE (vB al ah) 0)]) ∧ Below w.heap.size w w' := by
  have h0 := i0.1
  have b1 := i1.2
  clear i0 i1
  cases hv : vB al ah
  · rw [ok_f, ok_f, err_f]
    have HV := hide (show chkI al ah = 2 by simp [chkI, hv])
    clear hv
    go_enter Try.func26, Try.ntmps26
    go_wp2_with fail
    refine (rcheck al ah 2 HV.out _).mono ?_
    rintro e w1 ⟨rfl, hb1⟩
    obtain ⟨hc1, hf1⟩ := bcell hb1
    have hz1 := hb1.size
    try simp only [World.size_alloc, World.size_setCell] at hz1
    try have : w.heap.size < w1.heap.size := by omega
    try have : w.heap.size ≤ w1.heap.size := by omega
    try have : w.heap.size + 1 < w1.heap.size := by omega
    try have : w.heap.size + 1 ≤ w1.heap.size := by omega
    go_wp2
    refine bodyPost_ret (v := .tuple #[.agg #[.int .i64 (0), .int .i64 (0)], .int .i64 2]) (by simp only [results, Try.results26]; go_simp) rfl ⟨rfl, (by repeat (first | with_reducible exact Below.refl _ _ | with_reducible refine bdrew ?_ | ((with_reducible first | refine bset ?_ ?_ | refine ball ?_ ?_ | refine bth (by assumption) ?_ ?_); first | omega | (simp <;> omega))))⟩
  · rw [ok_t, ok_t, err_t]
    have HV := hide (show chkI al ah = 0 by simp [chkI, hv])
    obtain ⟨v1, v2⟩ := vB_tt hv
    clear hv
    go_enter Try.func26, Try.ntmps26
    go_wp2_with fail
    refine (rcheck al ah 0 HV.out _).mono ?_
    rintro e w1 ⟨rfl, hb1⟩
    obtain ⟨hc1, hf1⟩ := bcell hb1
    have hz1 := hb1.size
    try simp only [World.size_alloc, World.size_setCell] at hz1
    try have : w.heap.size < w1.heap.size := by omega
    try have : w.heap.size ≤ w1.heap.size := by omega
    try have : w.heap.size + 1 < w1.heap.size := by omega
    try have : w.heap.size + 1 ≤ w1.heap.size := by omega
    go_wp2
    refine bodyPost_ret (v := .tuple #[.agg #[.int .i64 (-ah), .int .i64 (-al)], .int .i64 0]) (by simp only [results, Try.results26]; go_simp) rfl ⟨rfl, (by repeat (first | with_reducible exact Below.refl _ _ | with_reducible refine bdrew ?_ | ((with_reducible first | refine bset ?_ ?_ | refine ball ?_ ?_ | refine bth (by assumption) ?_ ?_); first | omega | (simp <;> omega))))⟩
theorem vneg {al ah : Int} (h1 : -9223372036854775807 ≤ al) (h2 : al ≤ ah) (h3 : ah ≤ 9223372036854775807) : vB (-ah) (-al) = true := vB_t (by omega) (by omega)
theorem I64.neg {x : Int} (h1 : -9223372036854775807 ≤ x) (h : x ≤ 9223372036854775807) : I64 (-x) := ⟨by omega, by omega⟩
theorem sub_any (al ah bl bh : Int) (i0 : I64 al) (i1 : I64 ah) (i2 : I64 bl) (i3 : I64 bh) (w : World) :
    Calls Try.prog 23 #[.agg #[.int .i64 (al), .int .i64 (ah)], .agg #[.int .i64 (bl), .int .i64 (bh)]] w fun e w' => e = .returned (.tuple #[.agg #[.int .i64 (okI (vB al ah && vB bl bh) (oLo (al - bh) (ah - bl))), .int .i64 (okI (vB al ah && vB bl bh) (oHi (al - bh) (ah - bl)))], .int .i64 (errE (vB al ah && vB bl bh) (oE (al - bh) (ah - bl)))]) ∧ Below w.heap.size w w' := by
  have h0 := i0.1
  have h1 := i2.1
  have b3 := i3.2
  have I0 := hide i0
  have I1 := hide i1
  clear i0 i1 i2 i3
  cases hv : (vB al ah && vB bl bh)
  · rw [ok_f, ok_f, err_f]
    have HV := hide hv
    clear hv
    go_enter Try.func23, Try.ntmps23
    go_wp2_with fail
    go_at_call 81
    refine (invalid2 al ah bl bh _ _ _ h0 h1 (by go_simp) (by go_simp) (by go_simp) (by go_simp) (by go_simp) true (by simpa using HV.out)).mono ?_
    rintro e w1 ⟨rfl, hb1⟩
    obtain ⟨hc1, hf1⟩ := bcell hb1
    have hz1 := hb1.size
    try simp only [World.size_alloc, World.size_setCell] at hz1
    try have : w.heap.size < w1.heap.size := by omega
    try have : w.heap.size ≤ w1.heap.size := by omega
    try have : w.heap.size + 1 < w1.heap.size := by omega
    try have : w.heap.size + 1 ≤ w1.heap.size := by omega
    try have : w.heap.size + 1 + 1 < w1.heap.size := by omega
    try have : w.heap.size + 1 + 1 ≤ w1.heap.size := by omega
    try have : w.heap.size + 1 + 1 + 1 < w1.heap.size := by omega
    try have : w.heap.size + 1 + 1 + 1 ≤ w1.heap.size := by omega
    go_wp2
    refine bodyPost_ret (v := .tuple #[.agg #[.int .i64 (0), .int .i64 (0)], .int .i64 2]) (by simp only [results, Try.results23]; go_simp) rfl ⟨rfl, (by repeat (first | with_reducible exact Below.refl _ _ | with_reducible refine bdrew ?_ | ((with_reducible first | refine bset ?_ ?_ | refine ball ?_ ?_ | refine bth (by assumption) ?_ ?_); first | omega | (simp <;> omega))))⟩
  · rw [ok_t, ok_t, err_t]
    have HV := hide hv
    simp only [Bool.and_eq_true] at hv
    obtain ⟨hva, hvb⟩ := hv
    obtain ⟨v1, v2⟩ := vB_tt hvb
    have hc := add_any al ah (-bh) (-bl) I0.out I1.out (I64.neg (by omega) (by omega)) (I64.neg (by omega) (by omega))
    rw [hva, vneg v1 v2 b3, Bool.and_true, ok_t, ok_t, err_t, show al + -bh = al - bh by omega, show ah + -bl = ah - bl by omega] at hc
    have HA := hide hc
    clear hc hva hvb
    go_enter Try.func23, Try.ntmps23
    go_wp2_with fail
    go_at_call 81
    refine (invalid2 al ah bl bh _ _ _ h0 h1 (by go_simp) (by go_simp) (by go_simp) (by go_simp) (by go_simp) false (by simpa using HV.out)).mono ?_
    rintro e w1 ⟨rfl, hb1⟩
    obtain ⟨hc1, hf1⟩ := bcell hb1
    have hz1 := hb1.size
    try simp only [World.size_alloc, World.size_setCell] at hz1
    try have : w.heap.size < w1.heap.size := by omega
    try have : w.heap.size ≤ w1.heap.size := by omega
    try have : w.heap.size + 1 < w1.heap.size := by omega
    try have : w.heap.size + 1 ≤ w1.heap.size := by omega
    try have : w.heap.size + 1 + 1 < w1.heap.size := by omega
    try have : w.heap.size + 1 + 1 ≤ w1.heap.size := by omega
    try have : w.heap.size + 1 + 1 + 1 < w1.heap.size := by omega
    try have : w.heap.size + 1 + 1 + 1 ≤ w1.heap.size := by omega
    go_wp2_with fail
    refine (HA.out _).mono ?_
    rintro e w2 ⟨rfl, hb2⟩
    obtain ⟨hc2, hf2⟩ := bcell hb2
    have hz2 := hb2.size
    try simp only [World.size_alloc, World.size_setCell] at hz2
    try have : w.heap.size < w2.heap.size := by omega
    try have : w.heap.size ≤ w2.heap.size := by omega
    try have : w.heap.size + 1 < w2.heap.size := by omega
    try have : w.heap.size + 1 ≤ w2.heap.size := by omega
    try have : w.heap.size + 1 + 1 < w2.heap.size := by omega
    try have : w.heap.size + 1 + 1 ≤ w2.heap.size := by omega
    try have : w.heap.size + 1 + 1 + 1 < w2.heap.size := by omega
    try have : w.heap.size + 1 + 1 + 1 ≤ w2.heap.size := by omega
    try have : w1.heap.size < w2.heap.size := by omega
    try have : w1.heap.size ≤ w2.heap.size := by omega
    go_wp2
    refine bodyPost_ret (v := .tuple #[.agg #[.int .i64 (oLo (al - bh) (ah - bl)), .int .i64 (oHi (al - bh) (ah - bl))], .int .i64 (oE (al - bh) (ah - bl))]) (by simp only [results, Try.results23]; go_simp) rfl ⟨rfl, (by repeat (first | with_reducible exact Below.refl _ _ | with_reducible refine bdrew ?_ | ((with_reducible first | refine bset ?_ ?_ | refine ball ?_ ?_ | refine bth (by assumption) ?_ ?_); first | omega | (simp <;> omega))))⟩
theorem R127.of64 {x : Int} (h : I64 x) : R127 x := by obtain ⟨_, _⟩ := h; constructor <;> omega
theorem R127.add {x y : Int} (h : I64 x) (k : I64 y) : R127 (x + y) := by obtain ⟨_, _⟩ := h; obtain ⟨_, _⟩ := k; constructor <;> omega
theorem both0 {al ah bl bh : Int} (h : (vB al ah && vB bl bh) = true) : (if vB al ah && vB bl bh then (0 : Int) else 2) = 0 := by rw [if_pos h]
theorem both2 {al ah bl bh : Int} (h : (vB al ah && vB bl bh) = false) : (if vB al ah && vB bl bh then (0 : Int) else 2) = 2 := by rw [if_neg (by simp [h])]
theorem radd_any (al ah bl bh : Int) (i0 : I64 al) (i1 : I64 ah) (i2 : I64 bl) (i3 : I64 bh) (w : World) :
    Calls Try.prog 22 #[.agg #[.int .i64 (al), .int .i64 (ah)], .agg #[.int .i64 (bl), .int .i64 (bh)]] w fun e w' => e = .returned (.tuple #[.agg #[.int .i64 (okI (vB al ah && vB bl bh) (oLo (al + bl) (ah + bh))), .int .i64 (okI (vB al ah && vB bl bh) (oHi (al + bl) (ah + bh)))], .int .i64 (errE (vB al ah && vB bl bh) (oE (al + bl) (ah + bh)))]) ∧ Below w.heap.size w w' := by
  cases hv : (vB al ah && vB bl bh)
  · rw [ok_f, ok_f, err_f]
    have HV := hide (both2 hv)
    clear hv i0 i1 i2 i3
    go_enter Try.func22, Try.ntmps22
    go_wp2_with fail
    refine (rboth al ah bl bh 2 HV.out _).mono ?_
    rintro e w1 ⟨rfl, hb1⟩
    obtain ⟨hc1, hf1⟩ := bcell hb1
    have hz1 := hb1.size
    try simp only [World.size_alloc, World.size_setCell] at hz1
    try have : w.heap.size < w1.heap.size := by omega
    try have : w.heap.size ≤ w1.heap.size := by omega
    try have : w.heap.size + 1 < w1.heap.size := by omega
    try have : w.heap.size + 1 ≤ w1.heap.size := by omega
    try have : w.heap.size + 1 + 1 < w1.heap.size := by omega
    try have : w.heap.size + 1 + 1 ≤ w1.heap.size := by omega
    go_wp2
    refine bodyPost_ret (v := .tuple #[.agg #[.int .i64 (0), .int .i64 (0)], .int .i64 2]) (by simp only [results, Try.results22]; go_simp) rfl ⟨rfl, (by repeat (first | with_reducible exact Below.refl _ _ | with_reducible refine bdrew ?_ | ((with_reducible first | refine bset ?_ ?_ | refine ball ?_ ?_ | refine bth (by assumption) ?_ ?_); first | omega | (simp <;> omega))))⟩
  · rw [ok_t, ok_t, err_t]
    have HV := hide (both0 hv)
    clear hv
    go_enter Try.func22, Try.ntmps22
    go_wp2_with fail
    refine (rboth al ah bl bh 0 HV.out _).mono ?_
    rintro e w1 ⟨rfl, hb1⟩
    obtain ⟨hc1, hf1⟩ := bcell hb1
    have hz1 := hb1.size
    try simp only [World.size_alloc, World.size_setCell] at hz1
    try have : w.heap.size < w1.heap.size := by omega
    try have : w.heap.size ≤ w1.heap.size := by omega
    try have : w.heap.size + 1 < w1.heap.size := by omega
    try have : w.heap.size + 1 ≤ w1.heap.size := by omega
    try have : w.heap.size + 1 + 1 < w1.heap.size := by omega
    try have : w.heap.size + 1 + 1 ≤ w1.heap.size := by omega
    go_wp2_with fail
    refine QT.tail_c 17 hb1 (by kernel_rfl) (by kernel_rfl) ?_
    simp only [List.take_succ_cons, List.take_zero, List.drop_succ_cons, List.drop_zero]
    repeat (first
      | go_big_quiet_skip
      | (go_big_quiet_want; go_big_quiet_op; first
        | go_big_quiet_on
        | (apply Exists.intro
           refine ⟨fun _ => ?_, ?_⟩
           · first
               | rfl
               | (intro hC; obtain ⟨hcq, hfq⟩ := bcellB hC; go_simp; done)
               | (intro hC; obtain ⟨hcq, hfq⟩ := bcellB hC; go_simp; rfl)
               | (intro hC; go_at_call 85; (first | (with_reducible refine (rwide al i0 _).mono ?_) | (with_reducible refine (rwide ah i1 _).mono ?_) | (with_reducible refine (rwide bl i2 _).mono ?_) | (with_reducible refine (rwide bh i3 _).mono ?_)); (intro e w2 hw; exact ⟨hw.1, qtrans (by simp) hC hw.2⟩))
               | (intro hC; go_at_call 84; (first | (with_reducible refine (rplus al bl (R127.of64 i0) (R127.of64 i2) (R127.add i0 i2) _).mono ?_) | (with_reducible refine (rplus ah bh (R127.of64 i1) (R127.of64 i3) (R127.add i1 i3) _).mono ?_)); (intro e w2 hw; exact ⟨hw.1, qtrans (by simp) hC hw.2⟩))
               | (intro hC; go_at_call 78; (first | (with_reducible refine (rout (al + bl) (ah + bh) _).mono ?_)); (intro e w2 hw; exact ⟨hw.1, qtrans (by simp) hC hw.2⟩))
           go_big_quiet_on)))
    refine wpQuiet_nil ?_
    intro w9 hC9
    obtain ⟨hc9, hf9⟩ := bcellB hC9
    have hz9 := hC9.size
    go_wp2
    refine bodyPost_ret (v := .tuple #[.agg #[.int .i64 (oLo (al + bl) (ah + bh)), .int .i64 (oHi (al + bl) (ah + bh))], .int .i64 (oE (al + bl) (ah + bh))]) (by simp only [results, Try.results22]; go_simp) rfl ⟨rfl, (by repeat (first | with_reducible exact Below.refl _ _ | with_reducible refine bdrew ?_ | ((with_reducible first | refine bset ?_ ?_ | refine ball ?_ ?_ | refine bth (by assumption) ?_ ?_); first | omega | (simp <;> omega))))⟩
theorem rsub_any (al ah bl bh : Int) (i0 : I64 al) (i1 : I64 ah) (i2 : I64 bl) (i3 : I64 bh) (w : World) :
    Calls Try.prog 24 #[.agg #[.int .i64 (al), .int .i64 (ah)], .agg #[.int .i64 (bl), .int .i64 (bh)]] w fun e w' => e = .returned (.tuple #[.agg #[.int .i64 (okI (vB al ah && vB bl bh) (oLo (al - bh) (ah - bl))), .int .i64 (okI (vB al ah && vB bl bh) (oHi (al - bh) (ah - bl)))], .int .i64 (errE (vB al ah && vB bl bh) (oE (al - bh) (ah - bl)))]) ∧ Below w.heap.size w w' := by
  cases hvb : vB bl bh
  · rw [Bool.and_false, ok_f, ok_f, err_f]
    have hn := rneg_any bl bh i2 i3
    rw [hvb, ok_f, ok_f, err_f] at hn
    have HN := hide hn
    clear hvb i0 i1 i2 i3 hn
    go_enter Try.func24, Try.ntmps24
    go_wp2_with fail
    refine (HN.out _).mono ?_
    rintro e w1 ⟨rfl, hb1⟩
    obtain ⟨hc1, hf1⟩ := bcell hb1
    have hz1 := hb1.size
    try simp only [World.size_alloc, World.size_setCell] at hz1
    try have : w.heap.size < w1.heap.size := by omega
    try have : w.heap.size ≤ w1.heap.size := by omega
    try have : w.heap.size + 1 < w1.heap.size := by omega
    try have : w.heap.size + 1 ≤ w1.heap.size := by omega
    try have : w.heap.size + 1 + 1 < w1.heap.size := by omega
    try have : w.heap.size + 1 + 1 ≤ w1.heap.size := by omega
    go_wp2
    refine bodyPost_ret (v := .tuple #[.agg #[.int .i64 (0), .int .i64 (0)], .int .i64 2]) (by simp only [results, Try.results24]; go_simp) rfl ⟨rfl, (by repeat (first | with_reducible exact Below.refl _ _ | with_reducible refine bdrew ?_ | ((with_reducible first | refine bset ?_ ?_ | refine ball ?_ ?_ | refine bth (by assumption) ?_ ?_); first | omega | (simp <;> omega))))⟩
  · rw [Bool.and_true]
    have hn := rneg_any bl bh i2 i3
    rw [hvb, ok_t, ok_t, err_t] at hn
    have HN := hide hn
    obtain ⟨v1, v2⟩ := vB_tt hvb
    have b3 := i3.2
    have hc := radd_any al ah (-bh) (-bl) i0 i1 (I64.neg (by omega) (by omega)) (I64.neg (by omega) (by omega))
    rw [vneg v1 v2 b3, Bool.and_true, show al + -bh = al - bh by omega, show ah + -bl = ah - bl by omega] at hc
    have HA := hide hc
    clear hc hvb hn i0 i1 i2 i3
    go_enter Try.func24, Try.ntmps24
    go_wp2_with fail
    refine (HN.out _).mono ?_
    rintro e w1 ⟨rfl, hb1⟩
    obtain ⟨hc1, hf1⟩ := bcell hb1
    have hz1 := hb1.size
    try simp only [World.size_alloc, World.size_setCell] at hz1
    try have : w.heap.size < w1.heap.size := by omega
    try have : w.heap.size ≤ w1.heap.size := by omega
    try have : w.heap.size + 1 < w1.heap.size := by omega
    try have : w.heap.size + 1 ≤ w1.heap.size := by omega
    try have : w.heap.size + 1 + 1 < w1.heap.size := by omega
    try have : w.heap.size + 1 + 1 ≤ w1.heap.size := by omega
    go_wp2_with fail
    refine (HA.out _).mono ?_
    rintro e w2 ⟨rfl, hb2⟩
    obtain ⟨hc2, hf2⟩ := bcell hb2
    have hz2 := hb2.size
    try simp only [World.size_alloc, World.size_setCell] at hz2
    try have : w.heap.size < w2.heap.size := by omega
    try have : w.heap.size ≤ w2.heap.size := by omega
    try have : w.heap.size + 1 < w2.heap.size := by omega
    try have : w.heap.size + 1 ≤ w2.heap.size := by omega
    try have : w.heap.size + 1 + 1 < w2.heap.size := by omega
    try have : w.heap.size + 1 + 1 ≤ w2.heap.size := by omega
    try have : w1.heap.size < w2.heap.size := by omega
    try have : w1.heap.size ≤ w2.heap.size := by omega
    go_wp2
    refine bodyPost_ret (v := .tuple #[.agg #[.int .i64 (okI (vB al ah) (oLo (al - bh) (ah - bl))), .int .i64 (okI (vB al ah) (oHi (al - bh) (ah - bl)))], .int .i64 (errE (vB al ah) (oE (al - bh) (ah - bl)))]) (by simp only [results, Try.results24]; go_simp) rfl ⟨rfl, (by repeat (first | with_reducible exact Below.refl _ _ | with_reducible refine bdrew ?_ | ((with_reducible first | refine bset ?_ ?_ | refine ball ?_ ?_ | refine bth (by assumption) ?_ ?_); first | omega | (simp <;> omega))))⟩
end Go.Proofs.Ytbfbnmmgmkbieaa
