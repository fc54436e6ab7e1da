/- Sums, differences, negative numbers, spans that grow: the program's functions and the document's. -/
import Derived.Test.YtlcbcanlehackaaDoorOut
set_option linter.unusedVariables false
set_option linter.unusedSimpArgs false
namespace Go.Proofs.YtlcbcanlehackaaDoor
open Go.RowKit
theorem plus_yes (x y : Int) (h : -9223372036854775807 ≤ x + y ∧ x + y ≤ 9223372036854775807) (w : World) :
    Calls Tryd.prog 54 #[.int .i64 x, .int .i64 y] w fun e w' => e = .returned (.tuple #[.int .i64 (x + y), .bool true]) ∧ Below w.heap.size w w' := by
  obtain ⟨h0, h1⟩ := h
  have g1 : (x + y != -9223372036854775808) = true := by rw [bne_iff_ne]; omega
  have g2 : (decide (x + y < x) == decide (y < 0)) = true := by rw [beq_iff_eq, decide_eq_decide]; omega
  go_enter Tryd.func54, Tryd.ntmps54
  go_wp2
  go_ret2
  exact ⟨rfl, Below.refl _ _⟩
theorem plus_no (x y : Int) (hx : I64 x) (hy : I64 y) (h : ¬ (-9223372036854775807 ≤ x + y ∧ x + y ≤ 9223372036854775807)) (w : World) :
    Calls Tryd.prog 54 #[.int .i64 x, .int .i64 y] w fun e w' => e = .returned (.tuple #[.int .i64 (wrap64 (x + y)), .bool false]) ∧ Below w.heap.size w w' := by
  obtain ⟨x0, x1⟩ := hx; obtain ⟨y0, y1⟩ := hy
  have HX := hide (And.intro (And.intro x0 x1) (And.intro y0 y1))
  by_cases g : wrap64 (x + y) = -9223372036854775808
  · have g1 : (wrap64 (x + y) != -9223372036854775808) = false := by rw [g]; rfl
    clear g h x0 x1 y0 y1
    go_enter Tryd.func54, Tryd.ntmps54
    go_wp2
    go_ret2
    exact ⟨rfl, Below.refl _ _⟩
  · have g1 : (wrap64 (x + y) != -9223372036854775808) = true := by rw [bne_iff_ne]; exact g
    have g2 : (decide (wrap64 (x + y) < x) == decide (y < 0)) = false := by
      rw [beq_eq_false_iff_ne, ne_eq, decide_eq_decide]
      unfold wrap64 at *; omega
    clear g h x0 x1 y0 y1
    go_enter Tryd.func54, Tryd.ntmps54
    go_wp2
    go_ret2
    exact ⟨rfl, Below.refl _ _⟩
theorem fits_t {lo hi : Int} (h1 : -9223372036854775807 ≤ lo ∧ lo ≤ 9223372036854775807) (h2 : -9223372036854775807 ≤ hi ∧ hi ≤ 9223372036854775807) : fits lo hi = true := decide_eq_true ⟨h1.1, h1.2, h2.1, h2.2⟩
theorem fits_f {lo hi : Int} (h : ¬ ((-9223372036854775807 ≤ lo ∧ lo ≤ 9223372036854775807) ∧ (-9223372036854775807 ≤ hi ∧ hi ≤ 9223372036854775807))) : fits lo hi = false := decide_eq_false (by omega)

theorem add_any (al ah bl bh : Int) (i0 : I64 al) (i1 : I64 ah) (i2 : I64 bl) (i3 : I64 bh) (w : World) :
    Calls Tryd.prog 16 #[.agg #[.int .i64 (al), .int .i64 (ah)], .agg #[.int .i64 (bl), .int .i64 (bh)]] w fun e w' => e = .returned (.tuple #[.agg #[.int .i64 (okI (vB al ah && vB bl bh) (oLo (al + bl) (ah + bh))), .int .i64 (okI (vB al ah && vB bl bh) (oHi (al + bl) (ah + bh)))], .int .i64 (errE (vB al ah && vB bl bh) (oE (al + bl) (ah + bh)))]) ∧ Below w.heap.size w w' := by
  have h0 := i0.1
  have h1 := i2.1
  have I0 := hide i0
  have I1 := hide i1
  have I2 := hide i2
  have I3 := hide i3
  clear i0 i1 i2 i3
  cases hv : (vB al ah && vB bl bh)
  · rw [ok_f, ok_f, err_f]
    have HV := hide hv
    clear hv
    go_enter Tryd.func16, Tryd.ntmps16
    go_wp2_with (go_at_call 53; refine (invalid2 al ah bl bh _ _ _ h0 h1 (by go_simp) (by go_simp) (by go_simp) (by go_simp) (by go_simp) true (by simpa using HV.out)).mono ?_; rintro e w1 ⟨rfl, hb1⟩; obtain ⟨hc1, hf1⟩ := bcell hb1; have hz1 := hb1.size; try simp only [World.size_alloc] at hz1)
    refine bodyPost_ret (v := .tuple #[.agg #[.int .i64 (0), .int .i64 (0)], .int .i64 2]) (by simp only [results, Tryd.results16]; go_simp) rfl ⟨rfl, (by repeat (first | with_reducible exact Below.refl _ _ | with_reducible refine bdrew ?_ | ((with_reducible first | refine bset ?_ ?_ | refine ball ?_ ?_ | refine bth (by assumption) ?_ ?_); first | omega | (simp <;> omega))))⟩
  · rw [ok_t, ok_t, err_t]
    have HV := hide hv
    clear hv
    by_cases c1 : -9223372036854775807 ≤ al + bl ∧ al + bl ≤ 9223372036854775807
    · by_cases c2 : -9223372036854775807 ≤ ah + bh ∧ ah + bh ≤ 9223372036854775807
      · have E := hide (out_t (fits_t c1 c2))
        have C1 := hide c1
        have C2 := hide c2
        clear c1 c2
        go_enter Tryd.func16, Tryd.ntmps16
        go_wp2_with fail
        go_at_call 53
        refine (invalid2 al ah bl bh _ _ _ h0 h1 (by go_simp) (by go_simp) (by go_simp) (by go_simp) (by go_simp) false (by simpa using HV.out)).mono ?_
        rintro e w1 ⟨rfl, hb1⟩
        obtain ⟨hc1, hf1⟩ := bcell hb1
        have hz1 := hb1.size
        try simp only [World.size_alloc, World.size_setCell] at hz1
        try have : w.heap.size < w1.heap.size := by omega
        try have : w.heap.size ≤ w1.heap.size := by omega
        try have : w.heap.size + 1 < w1.heap.size := by omega
        try have : w.heap.size + 1 ≤ w1.heap.size := by omega
        try have : w.heap.size + 1 + 1 < w1.heap.size := by omega
        try have : w.heap.size + 1 + 1 ≤ w1.heap.size := by omega
        try have : w.heap.size + 1 + 1 + 1 < w1.heap.size := by omega
        try have : w.heap.size + 1 + 1 + 1 ≤ w1.heap.size := by omega
        go_wp2_with fail
        refine (plus_yes al bl C1.out _).mono ?_
        rintro e w2 ⟨rfl, hb2⟩
        obtain ⟨hc2, hf2⟩ := bcell hb2
        have hz2 := hb2.size
        try simp only [World.size_alloc, World.size_setCell] at hz2
        try have : w.heap.size < w2.heap.size := by omega
        try have : w.heap.size ≤ w2.heap.size := by omega
        try have : w.heap.size + 1 < w2.heap.size := by omega
        try have : w.heap.size + 1 ≤ w2.heap.size := by omega
        try have : w.heap.size + 1 + 1 < w2.heap.size := by omega
        try have : w.heap.size + 1 + 1 ≤ w2.heap.size := by omega
        try have : w.heap.size + 1 + 1 + 1 < w2.heap.size := by omega
        try have : w.heap.size + 1 + 1 + 1 ≤ w2.heap.size := by omega
        try have : w1.heap.size < w2.heap.size := by omega
        try have : w1.heap.size ≤ w2.heap.size := by omega
        go_wp2_with fail
        refine (plus_yes ah bh C2.out _).mono ?_
        rintro e w3 ⟨rfl, hb3⟩
        obtain ⟨hc3, hf3⟩ := bcell hb3
        have hz3 := hb3.size
        try simp only [World.size_alloc, World.size_setCell] at hz3
        try have : w.heap.size < w3.heap.size := by omega
        try have : w.heap.size ≤ w3.heap.size := by omega
        try have : w.heap.size + 1 < w3.heap.size := by omega
        try have : w.heap.size + 1 ≤ w3.heap.size := by omega
        try have : w.heap.size + 1 + 1 < w3.heap.size := by omega
        try have : w.heap.size + 1 + 1 ≤ w3.heap.size := by omega
        try have : w.heap.size + 1 + 1 + 1 < w3.heap.size := by omega
        try have : w.heap.size + 1 + 1 + 1 ≤ w3.heap.size := by omega
        try have : w1.heap.size < w3.heap.size := by omega
        try have : w1.heap.size ≤ w3.heap.size := by omega
        try have : w2.heap.size < w3.heap.size := by omega
        try have : w2.heap.size ≤ w3.heap.size := by omega
        go_wp2
        rw [E.out.1, E.out.2.1, E.out.2.2]
        refine bodyPost_ret (v := .tuple #[.agg #[.int .i64 (al + bl), .int .i64 (ah + bh)], .int .i64 0]) (by simp only [results, Tryd.results16]; go_simp) rfl ⟨rfl, (by repeat (first | with_reducible exact Below.refl _ _ | with_reducible refine bdrew ?_ | ((with_reducible first | refine bset ?_ ?_ | refine ball ?_ ?_ | refine bth (by assumption) ?_ ?_); first | omega | (simp <;> omega))))⟩
      · have E := hide (out_f (lo := al + bl) (hi := ah + bh) (fits_f (by omega)))
        have C1 := hide c1
        have C2 := hide c2
        clear c1 c2
        go_enter Tryd.func16, Tryd.ntmps16
        go_wp2_with fail
        go_at_call 53
        refine (invalid2 al ah bl bh _ _ _ h0 h1 (by go_simp) (by go_simp) (by go_simp) (by go_simp) (by go_simp) false (by simpa using HV.out)).mono ?_
        rintro e w1 ⟨rfl, hb1⟩
        obtain ⟨hc1, hf1⟩ := bcell hb1
        have hz1 := hb1.size
        try simp only [World.size_alloc, World.size_setCell] at hz1
        try have : w.heap.size < w1.heap.size := by omega
        try have : w.heap.size ≤ w1.heap.size := by omega
        try have : w.heap.size + 1 < w1.heap.size := by omega
        try have : w.heap.size + 1 ≤ w1.heap.size := by omega
        try have : w.heap.size + 1 + 1 < w1.heap.size := by omega
        try have : w.heap.size + 1 + 1 ≤ w1.heap.size := by omega
        try have : w.heap.size + 1 + 1 + 1 < w1.heap.size := by omega
        try have : w.heap.size + 1 + 1 + 1 ≤ w1.heap.size := by omega
        go_wp2_with fail
        refine (plus_yes al bl C1.out _).mono ?_
        rintro e w2 ⟨rfl, hb2⟩
        obtain ⟨hc2, hf2⟩ := bcell hb2
        have hz2 := hb2.size
        try simp only [World.size_alloc, World.size_setCell] at hz2
        try have : w.heap.size < w2.heap.size := by omega
        try have : w.heap.size ≤ w2.heap.size := by omega
        try have : w.heap.size + 1 < w2.heap.size := by omega
        try have : w.heap.size + 1 ≤ w2.heap.size := by omega
        try have : w.heap.size + 1 + 1 < w2.heap.size := by omega
        try have : w.heap.size + 1 + 1 ≤ w2.heap.size := by omega
        try have : w.heap.size + 1 + 1 + 1 < w2.heap.size := by omega
        try have : w.heap.size + 1 + 1 + 1 ≤ w2.heap.size := by omega
        try have : w1.heap.size < w2.heap.size := by omega
        try have : w1.heap.size ≤ w2.heap.size := by omega
        go_wp2_with fail
        refine (plus_no ah bh I1.out I3.out C2.out _).mono ?_
        rintro e w3 ⟨rfl, hb3⟩
        obtain ⟨hc3, hf3⟩ := bcell hb3
        have hz3 := hb3.size
        try simp only [World.size_alloc, World.size_setCell] at hz3
        try have : w.heap.size < w3.heap.size := by omega
        try have : w.heap.size ≤ w3.heap.size := by omega
        try have : w.heap.size + 1 < w3.heap.size := by omega
        try have : w.heap.size + 1 ≤ w3.heap.size := by omega
        try have : w.heap.size + 1 + 1 < w3.heap.size := by omega
        try have : w.heap.size + 1 + 1 ≤ w3.heap.size := by omega
        try have : w.heap.size + 1 + 1 + 1 < w3.heap.size := by omega
        try have : w.heap.size + 1 + 1 + 1 ≤ w3.heap.size := by omega
        try have : w1.heap.size < w3.heap.size := by omega
        try have : w1.heap.size ≤ w3.heap.size := by omega
        try have : w2.heap.size < w3.heap.size := by omega
        try have : w2.heap.size ≤ w3.heap.size := by omega
        go_wp2
        rw [E.out.1, E.out.2.1, E.out.2.2]
        refine bodyPost_ret (v := .tuple #[.agg #[.int .i64 (0), .int .i64 (0)], .int .i64 4]) (by simp only [results, Tryd.results16]; go_simp) rfl ⟨rfl, (by repeat (first | with_reducible exact Below.refl _ _ | with_reducible refine bdrew ?_ | ((with_reducible first | refine bset ?_ ?_ | refine ball ?_ ?_ | refine bth (by assumption) ?_ ?_); first | omega | (simp <;> omega))))⟩
    · have E := hide (out_f (lo := al + bl) (hi := ah + bh) (fits_f (by omega)))
      by_cases c2 : -9223372036854775807 ≤ ah + bh ∧ ah + bh ≤ 9223372036854775807
      · have C1 := hide c1
        have C2 := hide c2
        clear c1 c2
        go_enter Tryd.func16, Tryd.ntmps16
        go_wp2_with fail
        go_at_call 53
        refine (invalid2 al ah bl bh _ _ _ h0 h1 (by go_simp) (by go_simp) (by go_simp) (by go_simp) (by go_simp) false (by simpa using HV.out)).mono ?_
        rintro e w1 ⟨rfl, hb1⟩
        obtain ⟨hc1, hf1⟩ := bcell hb1
        have hz1 := hb1.size
        try simp only [World.size_alloc, World.size_setCell] at hz1
        try have : w.heap.size < w1.heap.size := by omega
        try have : w.heap.size ≤ w1.heap.size := by omega
        try have : w.heap.size + 1 < w1.heap.size := by omega
        try have : w.heap.size + 1 ≤ w1.heap.size := by omega
        try have : w.heap.size + 1 + 1 < w1.heap.size := by omega
        try have : w.heap.size + 1 + 1 ≤ w1.heap.size := by omega
        try have : w.heap.size + 1 + 1 + 1 < w1.heap.size := by omega
        try have : w.heap.size + 1 + 1 + 1 ≤ w1.heap.size := by omega
        go_wp2_with fail
        refine (plus_no al bl I0.out I2.out C1.out _).mono ?_
        rintro e w2 ⟨rfl, hb2⟩
        obtain ⟨hc2, hf2⟩ := bcell hb2
        have hz2 := hb2.size
        try simp only [World.size_alloc, World.size_setCell] at hz2
        try have : w.heap.size < w2.heap.size := by omega
        try have : w.heap.size ≤ w2.heap.size := by omega
        try have : w.heap.size + 1 < w2.heap.size := by omega
        try have : w.heap.size + 1 ≤ w2.heap.size := by omega
        try have : w.heap.size + 1 + 1 < w2.heap.size := by omega
        try have : w.heap.size + 1 + 1 ≤ w2.heap.size := by omega
        try have : w.heap.size + 1 + 1 + 1 < w2.heap.size := by omega
        try have : w.heap.size + 1 + 1 + 1 ≤ w2.heap.size := by omega
        try have : w1.heap.size < w2.heap.size := by omega
        try have : w1.heap.size ≤ w2.heap.size := by omega
        go_wp2_with fail
        refine (plus_yes ah bh C2.out _).mono ?_
        rintro e w3 ⟨rfl, hb3⟩
        obtain ⟨hc3, hf3⟩ := bcell hb3
        have hz3 := hb3.size
        try simp only [World.size_alloc, World.size_setCell] at hz3
        try have : w.heap.size < w3.heap.size := by omega
        try have : w.heap.size ≤ w3.heap.size := by omega
        try have : w.heap.size + 1 < w3.heap.size := by omega
        try have : w.heap.size + 1 ≤ w3.heap.size := by omega
        try have : w.heap.size + 1 + 1 < w3.heap.size := by omega
        try have : w.heap.size + 1 + 1 ≤ w3.heap.size := by omega
        try have : w.heap.size + 1 + 1 + 1 < w3.heap.size := by omega
        try have : w.heap.size + 1 + 1 + 1 ≤ w3.heap.size := by omega
        try have : w1.heap.size < w3.heap.size := by omega
        try have : w1.heap.size ≤ w3.heap.size := by omega
        try have : w2.heap.size < w3.heap.size := by omega
        try have : w2.heap.size ≤ w3.heap.size := by omega
        go_wp2
        rw [E.out.1, E.out.2.1, E.out.2.2]
        refine bodyPost_ret (v := .tuple #[.agg #[.int .i64 (0), .int .i64 (0)], .int .i64 4]) (by simp only [results, Tryd.results16]; go_simp) rfl ⟨rfl, (by repeat (first | with_reducible exact Below.refl _ _ | with_reducible refine bdrew ?_ | ((with_reducible first | refine bset ?_ ?_ | refine ball ?_ ?_ | refine bth (by assumption) ?_ ?_); first | omega | (simp <;> omega))))⟩
      · have C1 := hide c1
        have C2 := hide c2
        clear c1 c2
        go_enter Tryd.func16, Tryd.ntmps16
        go_wp2_with fail
        go_at_call 53
        refine (invalid2 al ah bl bh _ _ _ h0 h1 (by go_simp) (by go_simp) (by go_simp) (by go_simp) (by go_simp) false (by simpa using HV.out)).mono ?_
        rintro e w1 ⟨rfl, hb1⟩
        obtain ⟨hc1, hf1⟩ := bcell hb1
        have hz1 := hb1.size
        try simp only [World.size_alloc, World.size_setCell] at hz1
        try have : w.heap.size < w1.heap.size := by omega
        try have : w.heap.size ≤ w1.heap.size := by omega
        try have : w.heap.size + 1 < w1.heap.size := by omega
        try have : w.heap.size + 1 ≤ w1.heap.size := by omega
        try have : w.heap.size + 1 + 1 < w1.heap.size := by omega
        try have : w.heap.size + 1 + 1 ≤ w1.heap.size := by omega
        try have : w.heap.size + 1 + 1 + 1 < w1.heap.size := by omega
        try have : w.heap.size + 1 + 1 + 1 ≤ w1.heap.size := by omega
        go_wp2_with fail
        refine (plus_no al bl I0.out I2.out C1.out _).mono ?_
        rintro e w2 ⟨rfl, hb2⟩
        obtain ⟨hc2, hf2⟩ := bcell hb2
        have hz2 := hb2.size
        try simp only [World.size_alloc, World.size_setCell] at hz2
        try have : w.heap.size < w2.heap.size := by omega
        try have : w.heap.size ≤ w2.heap.size := by omega
        try have : w.heap.size + 1 < w2.heap.size := by omega
        try have : w.heap.size + 1 ≤ w2.heap.size := by omega
        try have : w.heap.size + 1 + 1 < w2.heap.size := by omega
        try have : w.heap.size + 1 + 1 ≤ w2.heap.size := by omega
        try have : w.heap.size + 1 + 1 + 1 < w2.heap.size := by omega
        try have : w.heap.size + 1 + 1 + 1 ≤ w2.heap.size := by omega
        try have : w1.heap.size < w2.heap.size := by omega
        try have : w1.heap.size ≤ w2.heap.size := by omega
        go_wp2_with fail
        refine (plus_no ah bh I1.out I3.out C2.out _).mono ?_
        rintro e w3 ⟨rfl, hb3⟩
        obtain ⟨hc3, hf3⟩ := bcell hb3
        have hz3 := hb3.size
        try simp only [World.size_alloc, World.size_setCell] at hz3
        try have : w.heap.size < w3.heap.size := by omega
        try have : w.heap.size ≤ w3.heap.size := by omega
        try have : w.heap.size + 1 < w3.heap.size := by omega
        try have : w.heap.size + 1 ≤ w3.heap.size := by omega
        try have : w.heap.size + 1 + 1 < w3.heap.size := by omega
        try have : w.heap.size + 1 + 1 ≤ w3.heap.size := by omega
        try have : w.heap.size + 1 + 1 + 1 < w3.heap.size := by omega
        try have : w.heap.size + 1 + 1 + 1 ≤ w3.heap.size := by omega
        try have : w1.heap.size < w3.heap.size := by omega
        try have : w1.heap.size ≤ w3.heap.size := by omega
        try have : w2.heap.size < w3.heap.size := by omega
        try have : w2.heap.size ≤ w3.heap.size := by omega
        go_wp2
        rw [E.out.1, E.out.2.1, E.out.2.2]
        refine bodyPost_ret (v := .tuple #[.agg #[.int .i64 (0), .int .i64 (0)], .int .i64 4]) (by simp only [results, Tryd.results16]; go_simp) rfl ⟨rfl, (by repeat (first | with_reducible exact Below.refl _ _ | with_reducible refine bdrew ?_ | ((with_reducible first | refine bset ?_ ?_ | refine ball ?_ ?_ | refine bth (by assumption) ?_ ?_); first | omega | (simp <;> omega))))⟩

theorem neg_any (al ah : Int) (i0 : I64 al) (i1 : I64 ah) (w : World) :
    Calls Tryd.prog 33 #[.agg #[.int .i64 (al), .int .i64 (ah)]] w fun e w' => e = .returned (.tuple #[.agg #[.int .i64 (okI (vB al ah) (-ah)), .int .i64 (okI (vB al ah) (-al))], .int .i64 (errE (vB al ah) 0)]) ∧ Below w.heap.size w w' := by
  have h0 := i0.1
  have b1 := i1.2
  clear i0 i1
  cases hv : vB al ah
  · rw [ok_f, ok_f, err_f]
    have HV := hide hv
    clear hv
    go_enter Tryd.func33, Tryd.ntmps33
    go_wp2_with fail
    go_at_call 53
    refine (invalid1 al ah _ _ _ h0 (by go_simp) (by go_simp) (by go_simp) true (by simpa using HV.out)).mono ?_
    rintro e w1 ⟨rfl, hb1⟩
    obtain ⟨hc1, hf1⟩ := bcell hb1
    have hz1 := hb1.size
    try simp only [World.size_alloc, World.size_setCell] at hz1
    try have : w.heap.size < w1.heap.size := by omega
    try have : w.heap.size ≤ w1.heap.size := by omega
    try have : w.heap.size + 1 < w1.heap.size := by omega
    try have : w.heap.size + 1 ≤ w1.heap.size := by omega
    try have : w.heap.size + 1 + 1 < w1.heap.size := by omega
    try have : w.heap.size + 1 + 1 ≤ w1.heap.size := by omega
    go_wp2
    refine bodyPost_ret (v := .tuple #[.agg #[.int .i64 (0), .int .i64 (0)], .int .i64 2]) (by simp only [results, Tryd.results33]; go_simp) rfl ⟨rfl, (by repeat (first | with_reducible exact Below.refl _ _ | with_reducible refine bdrew ?_ | ((with_reducible first | refine bset ?_ ?_ | refine ball ?_ ?_ | refine bth (by assumption) ?_ ?_); first | omega | (simp <;> omega))))⟩
  · rw [ok_t, ok_t, err_t]
    have HV := hide hv
    obtain ⟨v1, v2⟩ := vB_tt hv
    clear hv
    go_enter Tryd.func33, Tryd.ntmps33
    go_wp2_with fail
    go_at_call 53
    refine (invalid1 al ah _ _ _ h0 (by go_simp) (by go_simp) (by go_simp) false (by simpa using HV.out)).mono ?_
    rintro e w1 ⟨rfl, hb1⟩
    obtain ⟨hc1, hf1⟩ := bcell hb1
    have hz1 := hb1.size
    try simp only [World.size_alloc, World.size_setCell] at hz1
    try have : w.heap.size < w1.heap.size := by omega
    try have : w.heap.size ≤ w1.heap.size := by omega
    try have : w.heap.size + 1 < w1.heap.size := by omega
    try have : w.heap.size + 1 ≤ w1.heap.size := by omega
    try have : w.heap.size + 1 + 1 < w1.heap.size := by omega
    try have : w.heap.size + 1 + 1 ≤ w1.heap.size := by omega
    go_wp2
    refine bodyPost_ret (v := .tuple #[.agg #[.int .i64 (-ah), .int .i64 (-al)], .int .i64 0]) (by simp only [results, Tryd.results33]; go_simp) rfl ⟨rfl, (by repeat (first | with_reducible exact Below.refl _ _ | with_reducible refine bdrew ?_ | ((with_reducible first | refine bset ?_ ?_ | refine ball ?_ ?_ | refine bth (by assumption) ?_ ?_); first | omega | (simp <;> omega))))⟩
theorem vneg {al ah : Int} (h1 : -9223372036854775807 ≤ al) (h2 : al ≤ ah) (h3 : ah ≤ 9223372036854775807) : vB (-ah) (-al) = true := vB_t (by omega) (by omega)
theorem I64.neg {x : Int} (h1 : -9223372036854775807 ≤ x) (h : x ≤ 9223372036854775807) : I64 (-x) := ⟨by omega, by omega⟩
theorem sub_any (al ah bl bh : Int) (i0 : I64 al) (i1 : I64 ah) (i2 : I64 bl) (i3 : I64 bh) (w : World) :
    Calls Tryd.prog 17 #[.agg #[.int .i64 (al), .int .i64 (ah)], .agg #[.int .i64 (bl), .int .i64 (bh)]] w fun e w' => e = .returned (.tuple #[.agg #[.int .i64 (okI (vB al ah && vB bl bh) (oLo (al - bh) (ah - bl))), .int .i64 (okI (vB al ah && vB bl bh) (oHi (al - bh) (ah - bl)))], .int .i64 (errE (vB al ah && vB bl bh) (oE (al - bh) (ah - bl)))]) ∧ Below w.heap.size w w' := by
  have h0 := i0.1
  have h1 := i2.1
  have b3 := i3.2
  have I0 := hide i0
  have I1 := hide i1
  clear i0 i1 i2 i3
  cases hv : (vB al ah && vB bl bh)
  · rw [ok_f, ok_f, err_f]
    have HV := hide hv
    clear hv
    go_enter Tryd.func17, Tryd.ntmps17
    go_wp2_with fail
    go_at_call 53
    refine (invalid2 al ah bl bh _ _ _ h0 h1 (by go_simp) (by go_simp) (by go_simp) (by go_simp) (by go_simp) true (by simpa using HV.out)).mono ?_
    rintro e w1 ⟨rfl, hb1⟩
    obtain ⟨hc1, hf1⟩ := bcell hb1
    have hz1 := hb1.size
    try simp only [World.size_alloc, World.size_setCell] at hz1
    try have : w.heap.size < w1.heap.size := by omega
    try have : w.heap.size ≤ w1.heap.size := by omega
    try have : w.heap.size + 1 < w1.heap.size := by omega
    try have : w.heap.size + 1 ≤ w1.heap.size := by omega
    try have : w.heap.size + 1 + 1 < w1.heap.size := by omega
    try have : w.heap.size + 1 + 1 ≤ w1.heap.size := by omega
    try have : w.heap.size + 1 + 1 + 1 < w1.heap.size := by omega
    try have : w.heap.size + 1 + 1 + 1 ≤ w1.heap.size := by omega
    go_wp2
    refine bodyPost_ret (v := .tuple #[.agg #[.int .i64 (0), .int .i64 (0)], .int .i64 2]) (by simp only [results, Tryd.results17]; go_simp) rfl ⟨rfl, (by repeat (first | with_reducible exact Below.refl _ _ | with_reducible refine bdrew ?_ | ((with_reducible first | refine bset ?_ ?_ | refine ball ?_ ?_ | refine bth (by assumption) ?_ ?_); first | omega | (simp <;> omega))))⟩
  · rw [ok_t, ok_t, err_t]
    have HV := hide hv
    simp only [Bool.and_eq_true] at hv
    obtain ⟨hva, hvb⟩ := hv
    obtain ⟨v1, v2⟩ := vB_tt hvb
    have hc := add_any al ah (-bh) (-bl) I0.out I1.out (I64.neg (by omega) (by omega)) (I64.neg (by omega) (by omega))
    rw [hva, vneg v1 v2 b3, Bool.and_true, ok_t, ok_t, err_t, show al + -bh = al - bh by omega, show ah + -bl = ah - bl by omega] at hc
    have HA := hide hc
    clear hc hva hvb
    go_enter Tryd.func17, Tryd.ntmps17
    go_wp2_with fail
    go_at_call 53
    refine (invalid2 al ah bl bh _ _ _ h0 h1 (by go_simp) (by go_simp) (by go_simp) (by go_simp) (by go_simp) false (by simpa using HV.out)).mono ?_
    rintro e w1 ⟨rfl, hb1⟩
    obtain ⟨hc1, hf1⟩ := bcell hb1
    have hz1 := hb1.size
    try simp only [World.size_alloc, World.size_setCell] at hz1
    try have : w.heap.size < w1.heap.size := by omega
    try have : w.heap.size ≤ w1.heap.size := by omega
    try have : w.heap.size + 1 < w1.heap.size := by omega
    try have : w.heap.size + 1 ≤ w1.heap.size := by omega
    try have : w.heap.size + 1 + 1 < w1.heap.size := by omega
    try have : w.heap.size + 1 + 1 ≤ w1.heap.size := by omega
    try have : w.heap.size + 1 + 1 + 1 < w1.heap.size := by omega
    try have : w.heap.size + 1 + 1 + 1 ≤ w1.heap.size := by omega
    go_wp2_with fail
    refine (HA.out _).mono ?_
    rintro e w2 ⟨rfl, hb2⟩
    obtain ⟨hc2, hf2⟩ := bcell hb2
    have hz2 := hb2.size
    try simp only [World.size_alloc, World.size_setCell] at hz2
    try have : w.heap.size < w2.heap.size := by omega
    try have : w.heap.size ≤ w2.heap.size := by omega
    try have : w.heap.size + 1 < w2.heap.size := by omega
    try have : w.heap.size + 1 ≤ w2.heap.size := by omega
    try have : w.heap.size + 1 + 1 < w2.heap.size := by omega
    try have : w.heap.size + 1 + 1 ≤ w2.heap.size := by omega
    try have : w.heap.size + 1 + 1 + 1 < w2.heap.size := by omega
    try have : w.heap.size + 1 + 1 + 1 ≤ w2.heap.size := by omega
    try have : w1.heap.size < w2.heap.size := by omega
    try have : w1.heap.size ≤ w2.heap.size := by omega
    go_wp2
    refine bodyPost_ret (v := .tuple #[.agg #[.int .i64 (oLo (al - bh) (ah - bl)), .int .i64 (oHi (al - bh) (ah - bl))], .int .i64 (oE (al - bh) (ah - bl))]) (by simp only [results, Tryd.results17]; go_simp) rfl ⟨rfl, (by repeat (first | with_reducible exact Below.refl _ _ | with_reducible refine bdrew ?_ | ((with_reducible first | refine bset ?_ ?_ | refine ball ?_ ?_ | refine bth (by assumption) ?_ ?_); first | omega | (simp <;> omega))))⟩
theorem R127.of64 {x : Int} (h : I64 x) : R127 x := by obtain ⟨_, _⟩ := h; constructor <;> omega
theorem R127.add {x y : Int} (h : I64 x) (k : I64 y) : R127 (x + y) := by obtain ⟨_, _⟩ := h; obtain ⟨_, _⟩ := k; constructor <;> omega
theorem both0 {al ah bl bh : Int} (h : (vB al ah && vB bl bh) = true) : (if vB al ah && vB bl bh then (0 : Int) else 2) = 0 := by rw [if_pos h]
theorem both2 {al ah bl bh : Int} (h : (vB al ah && vB bl bh) = false) : (if vB al ah && vB bl bh then (0 : Int) else 2) = 2 := by rw [if_neg (by simp [h])]
end Go.Proofs.YtlcbcanlehackaaDoor
