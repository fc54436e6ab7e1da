/- Absolute values, the greater and the lesser ones. -/
import Derived.Test.YtlcbcanlehackaaDoorSets
import Derived.Test.YtlcbcanlehackaaDoorSum
set_option linter.unusedVariables false
set_option linter.unusedSimpArgs false
namespace Go.Proofs.YtlcbcanlehackaaDoor
open Go.RowKit
theorem most_any (al ah bl bh : Int) (i0 : I64 al) (i2 : I64 bl) (w : World) :
    Calls Tryd.prog 29 #[.agg #[.int .i64 (al), .int .i64 (ah)], .agg #[.int .i64 (bl), .int .i64 (bh)]] w fun e w' => e = .returned (.tuple #[.agg #[.int .i64 (okI (vB al ah && vB bl bh) (mx al bl)), .int .i64 (okI (vB al ah && vB bl bh) (mx ah bh))], .int .i64 (errE (vB al ah && vB bl bh) 0)]) ∧ Below w.heap.size w w' := by
  have h0 := i0.1
  have h1 := i2.1
  have m1 := mx_eq al bl
  have m2 := mx_eq ah bh
  clear i0 i2
  cases hv : (vB al ah && vB bl bh)
  · rw [ok_f, ok_f, err_f]
    have HV := hide hv
    clear hv
    go_enter Tryd.func29, Tryd.ntmps29
    go_wp2_with fail
    go_at_call 53
    refine (invalid2 al ah bl bh _ _ _ h0 h1 (by go_simp) (by go_simp) (by go_simp) (by go_simp) (by go_simp) true (by simpa using HV.out)).mono ?_
    rintro e w1 ⟨rfl, hb1⟩
    obtain ⟨hc1, hf1⟩ := bcell hb1
    have hz1 := hb1.size
    try simp only [World.size_alloc, World.size_setCell] at hz1
    try have : w.heap.size < w1.heap.size := by omega
    try have : w.heap.size ≤ w1.heap.size := by omega
    try have : w.heap.size + 1 < w1.heap.size := by omega
    try have : w.heap.size + 1 ≤ w1.heap.size := by omega
    try have : w.heap.size + 1 + 1 < w1.heap.size := by omega
    try have : w.heap.size + 1 + 1 ≤ w1.heap.size := by omega
    try have : w.heap.size + 1 + 1 + 1 < w1.heap.size := by omega
    try have : w.heap.size + 1 + 1 + 1 ≤ w1.heap.size := by omega
    go_wp2
    refine bodyPost_ret (v := .tuple #[.agg #[.int .i64 (0), .int .i64 (0)], .int .i64 2]) (by simp only [results, Tryd.results29]; go_simp) rfl ⟨rfl, (by repeat (first | with_reducible exact Below.refl _ _ | with_reducible refine bdrew ?_ | ((with_reducible first | refine bset ?_ ?_ | refine ball ?_ ?_ | refine bth (by assumption) ?_ ?_); first | omega | (simp <;> omega))))⟩
  · rw [ok_t, ok_t, err_t]
    have HV := hide hv
    clear hv
    go_enter Tryd.func29, Tryd.ntmps29
    go_wp2_with fail
    go_at_call 53
    refine (invalid2 al ah bl bh _ _ _ h0 h1 (by go_simp) (by go_simp) (by go_simp) (by go_simp) (by go_simp) false (by simpa using HV.out)).mono ?_
    rintro e w1 ⟨rfl, hb1⟩
    obtain ⟨hc1, hf1⟩ := bcell hb1
    have hz1 := hb1.size
    try simp only [World.size_alloc, World.size_setCell] at hz1
    try have : w.heap.size < w1.heap.size := by omega
    try have : w.heap.size ≤ w1.heap.size := by omega
    try have : w.heap.size + 1 < w1.heap.size := by omega
    try have : w.heap.size + 1 ≤ w1.heap.size := by omega
    try have : w.heap.size + 1 + 1 < w1.heap.size := by omega
    try have : w.heap.size + 1 + 1 ≤ w1.heap.size := by omega
    try have : w.heap.size + 1 + 1 + 1 < w1.heap.size := by omega
    try have : w.heap.size + 1 + 1 + 1 ≤ w1.heap.size := by omega
    go_wp2
    refine bodyPost_ret (v := .tuple #[.agg #[.int .i64 (mx al bl), .int .i64 (mx ah bh)], .int .i64 0]) (by simp only [results, Tryd.results29]; go_simp) rfl ⟨rfl, (by repeat (first | with_reducible exact Below.refl _ _ | with_reducible refine bdrew ?_ | ((with_reducible first | refine bset ?_ ?_ | refine ball ?_ ?_ | refine bth (by assumption) ?_ ?_); first | omega | (simp <;> omega))))⟩
theorem least_any (al ah bl bh : Int) (i0 : I64 al) (i2 : I64 bl) (w : World) :
    Calls Tryd.prog 30 #[.agg #[.int .i64 (al), .int .i64 (ah)], .agg #[.int .i64 (bl), .int .i64 (bh)]] w fun e w' => e = .returned (.tuple #[.agg #[.int .i64 (okI (vB al ah && vB bl bh) (mi al bl)), .int .i64 (okI (vB al ah && vB bl bh) (mi ah bh))], .int .i64 (errE (vB al ah && vB bl bh) 0)]) ∧ Below w.heap.size w w' := by
  have h0 := i0.1
  have h1 := i2.1
  have m1 := mi_eq al bl
  have m2 := mi_eq ah bh
  clear i0 i2
  cases hv : (vB al ah && vB bl bh)
  · rw [ok_f, ok_f, err_f]
    have HV := hide hv
    clear hv
    go_enter Tryd.func30, Tryd.ntmps30
    go_wp2_with fail
    go_at_call 53
    refine (invalid2 al ah bl bh _ _ _ h0 h1 (by go_simp) (by go_simp) (by go_simp) (by go_simp) (by go_simp) true (by simpa using HV.out)).mono ?_
    rintro e w1 ⟨rfl, hb1⟩
    obtain ⟨hc1, hf1⟩ := bcell hb1
    have hz1 := hb1.size
    try simp only [World.size_alloc, World.size_setCell] at hz1
    try have : w.heap.size < w1.heap.size := by omega
    try have : w.heap.size ≤ w1.heap.size := by omega
    try have : w.heap.size + 1 < w1.heap.size := by omega
    try have : w.heap.size + 1 ≤ w1.heap.size := by omega
    try have : w.heap.size + 1 + 1 < w1.heap.size := by omega
    try have : w.heap.size + 1 + 1 ≤ w1.heap.size := by omega
    try have : w.heap.size + 1 + 1 + 1 < w1.heap.size := by omega
    try have : w.heap.size + 1 + 1 + 1 ≤ w1.heap.size := by omega
    go_wp2
    refine bodyPost_ret (v := .tuple #[.agg #[.int .i64 (0), .int .i64 (0)], .int .i64 2]) (by simp only [results, Tryd.results30]; go_simp) rfl ⟨rfl, (by repeat (first | with_reducible exact Below.refl _ _ | with_reducible refine bdrew ?_ | ((with_reducible first | refine bset ?_ ?_ | refine ball ?_ ?_ | refine bth (by assumption) ?_ ?_); first | omega | (simp <;> omega))))⟩
  · rw [ok_t, ok_t, err_t]
    have HV := hide hv
    clear hv
    go_enter Tryd.func30, Tryd.ntmps30
    go_wp2_with fail
    go_at_call 53
    refine (invalid2 al ah bl bh _ _ _ h0 h1 (by go_simp) (by go_simp) (by go_simp) (by go_simp) (by go_simp) false (by simpa using HV.out)).mono ?_
    rintro e w1 ⟨rfl, hb1⟩
    obtain ⟨hc1, hf1⟩ := bcell hb1
    have hz1 := hb1.size
    try simp only [World.size_alloc, World.size_setCell] at hz1
    try have : w.heap.size < w1.heap.size := by omega
    try have : w.heap.size ≤ w1.heap.size := by omega
    try have : w.heap.size + 1 < w1.heap.size := by omega
    try have : w.heap.size + 1 ≤ w1.heap.size := by omega
    try have : w.heap.size + 1 + 1 < w1.heap.size := by omega
    try have : w.heap.size + 1 + 1 ≤ w1.heap.size := by omega
    try have : w.heap.size + 1 + 1 + 1 < w1.heap.size := by omega
    try have : w.heap.size + 1 + 1 + 1 ≤ w1.heap.size := by omega
    go_wp2
    refine bodyPost_ret (v := .tuple #[.agg #[.int .i64 (mi al bl), .int .i64 (mi ah bh)], .int .i64 0]) (by simp only [results, Tryd.results30]; go_simp) rfl ⟨rfl, (by repeat (first | with_reducible exact Below.refl _ _ | with_reducible refine bdrew ?_ | ((with_reducible first | refine bset ?_ ?_ | refine ball ?_ ?_ | refine bth (by assumption) ?_ ?_); first | omega | (simp <;> omega))))⟩
def absL (al ah : Int) : Int := if 0 ≤ al then al else if ah ≤ 0 then -ah else 0
def absH (al ah : Int) : Int := if 0 ≤ al then ah else if ah ≤ 0 then -al else mx (-al) ah
theorem abs_any (al ah : Int) (i0 : I64 al) (i1 : I64 ah) (w : World) :
    Calls Tryd.prog 34 #[.agg #[.int .i64 (al), .int .i64 (ah)]] w fun e w' => e = .returned (.tuple #[.agg #[.int .i64 (okI (vB al ah) (absL al ah)), .int .i64 (okI (vB al ah) (absH al ah))], .int .i64 (errE (vB al ah) 0)]) ∧ Below w.heap.size w w' := by
  have h0 := i0.1
  have b1 := i1.2
  cases hv : vB al ah
  · rw [ok_f, ok_f, err_f]
    have HV := hide hv
    clear hv i0 i1
    go_enter Tryd.func34, Tryd.ntmps34
    go_wp2_with fail
    go_at_call 53
    refine (invalid1 al ah _ _ _ h0 (by go_simp) (by go_simp) (by go_simp) true (by simpa using HV.out)).mono ?_
    rintro e w1 ⟨rfl, hb1⟩
    obtain ⟨hc1, hf1⟩ := bcell hb1
    have hz1 := hb1.size
    try simp only [World.size_alloc, World.size_setCell] at hz1
    try have : w.heap.size < w1.heap.size := by omega
    try have : w.heap.size ≤ w1.heap.size := by omega
    try have : w.heap.size + 1 < w1.heap.size := by omega
    try have : w.heap.size + 1 ≤ w1.heap.size := by omega
    go_wp2
    refine bodyPost_ret (v := .tuple #[.agg #[.int .i64 (0), .int .i64 (0)], .int .i64 2]) (by simp only [results, Tryd.results34]; go_simp) rfl ⟨rfl, (by repeat (first | with_reducible exact Below.refl _ _ | with_reducible refine bdrew ?_ | ((with_reducible first | refine bset ?_ ?_ | refine ball ?_ ?_ | refine bth (by assumption) ?_ ?_); first | omega | (simp <;> omega))))⟩
  · rw [ok_t, ok_t, err_t]
    have HV := hide hv
    obtain ⟨v1, v2⟩ := vB_tt hv
    by_cases c : 0 ≤ al
    · have E := hide (show absL al ah = al ∧ absH al ah = ah by simp [absL, absH, c])
      clear hv i0 i1
      rw [E.out.1, E.out.2]
      go_enter Tryd.func34, Tryd.ntmps34
      go_wp2_with fail
      go_at_call 53
      refine (invalid1 al ah _ _ _ h0 (by go_simp) (by go_simp) (by go_simp) false (by simpa using HV.out)).mono ?_
      rintro e w1 ⟨rfl, hb1⟩
      obtain ⟨hc1, hf1⟩ := bcell hb1
      have hz1 := hb1.size
      try simp only [World.size_alloc, World.size_setCell] at hz1
      try have : w.heap.size < w1.heap.size := by omega
      try have : w.heap.size ≤ w1.heap.size := by omega
      try have : w.heap.size + 1 < w1.heap.size := by omega
      try have : w.heap.size + 1 ≤ w1.heap.size := by omega
      go_wp2
      refine bodyPost_ret (v := .tuple #[.agg #[.int .i64 (al), .int .i64 (ah)], .int .i64 0]) (by simp only [results, Tryd.results34]; go_simp) rfl ⟨rfl, (by repeat (first | with_reducible exact Below.refl _ _ | with_reducible refine bdrew ?_ | ((with_reducible first | refine bset ?_ ?_ | refine ball ?_ ?_ | refine bth (by assumption) ?_ ?_); first | omega | (simp <;> omega))))⟩
    · by_cases c2 : ah ≤ 0
      · have E := hide (show absL al ah = -ah ∧ absH al ah = -al by simp [absL, absH, c, c2])
        have NG := neg_any al ah i0 i1
        rw [hv, ok_t, ok_t, err_t] at NG
        have NG' := hide NG
        clear hv i0 i1 NG
        rw [E.out.1, E.out.2]
        go_enter Tryd.func34, Tryd.ntmps34
        go_wp2_with fail
        go_at_call 53
        refine (invalid1 al ah _ _ _ h0 (by go_simp) (by go_simp) (by go_simp) false (by simpa using HV.out)).mono ?_
        rintro e w1 ⟨rfl, hb1⟩
        obtain ⟨hc1, hf1⟩ := bcell hb1
        have hz1 := hb1.size
        try simp only [World.size_alloc, World.size_setCell] at hz1
        try have : w.heap.size < w1.heap.size := by omega
        try have : w.heap.size ≤ w1.heap.size := by omega
        try have : w.heap.size + 1 < w1.heap.size := by omega
        try have : w.heap.size + 1 ≤ w1.heap.size := by omega
        have c1_0_0 : w1.cell? ⟨w.heap.size, 0, none⟩ = some (.int .i64 (al)) := by go_simp
        have c1_0_1 : w1.cell? ⟨w.heap.size, 1, none⟩ = some (.int .i64 (ah)) := by go_simp
        have c1_1_0 : w1.cell? ⟨w.heap.size + 1, 0, none⟩ = some (.int .i64 (0)) := by go_simp
        have g1_1_0 : w1.frozen? ⟨w.heap.size + 1, 0, none⟩ = false := by go_simp
        have c1_1_1 : w1.cell? ⟨w.heap.size + 1, 1, none⟩ = some (.int .i64 (0)) := by go_simp
        have g1_1_1 : w1.frozen? ⟨w.heap.size + 1, 1, none⟩ = false := by go_simp
        clear hc1 hf1
        go_wp2_with fail
        refine (NG'.out _).mono ?_
        rintro e w2 ⟨rfl, hb2⟩
        obtain ⟨hc2, hf2⟩ := bcell hb2
        have hz2 := hb2.size
        try simp only [World.size_alloc, World.size_setCell] at hz2
        try have : w.heap.size < w2.heap.size := by omega
        try have : w.heap.size ≤ w2.heap.size := by omega
        try have : w.heap.size + 1 < w2.heap.size := by omega
        try have : w.heap.size + 1 ≤ w2.heap.size := by omega
        have c2_0_0 : w2.cell? ⟨w.heap.size, 0, none⟩ = some (.int .i64 (al)) := by go_simp
        have c2_0_1 : w2.cell? ⟨w.heap.size, 1, none⟩ = some (.int .i64 (ah)) := by go_simp
        have c2_1_0 : w2.cell? ⟨w.heap.size + 1, 0, none⟩ = some (.int .i64 (0)) := by go_simp
        have g2_1_0 : w2.frozen? ⟨w.heap.size + 1, 0, none⟩ = false := by go_simp
        have c2_1_1 : w2.cell? ⟨w.heap.size + 1, 1, none⟩ = some (.int .i64 (0)) := by go_simp
        have g2_1_1 : w2.frozen? ⟨w.heap.size + 1, 1, none⟩ = false := by go_simp
        clear hc2 hf2 c1_0_0 c1_0_1 c1_1_0 g1_1_0 c1_1_1 g1_1_1
        go_wp2
        refine bodyPost_ret (v := .tuple #[.agg #[.int .i64 (-ah), .int .i64 (-al)], .int .i64 0]) (by simp only [results, Tryd.results34]; go_simp) rfl ⟨rfl, (by repeat (first | with_reducible exact Below.refl _ _ | with_reducible refine bdrew ?_ | ((with_reducible first | refine bset ?_ ?_ | refine ball ?_ ?_ | refine bth (by assumption) ?_ ?_); first | omega | (simp <;> omega))))⟩
      · have E := hide (show absL al ah = 0 ∧ absH al ah = mx (-al) ah by simp [absL, absH, c, c2])
        have m1 := mx_eq (-al) ah
        clear hv i0 i1
        rw [E.out.1, E.out.2]
        go_enter Tryd.func34, Tryd.ntmps34
        go_wp2_with fail
        go_at_call 53
        refine (invalid1 al ah _ _ _ h0 (by go_simp) (by go_simp) (by go_simp) false (by simpa using HV.out)).mono ?_
        rintro e w1 ⟨rfl, hb1⟩
        obtain ⟨hc1, hf1⟩ := bcell hb1
        have hz1 := hb1.size
        try simp only [World.size_alloc, World.size_setCell] at hz1
        try have : w.heap.size < w1.heap.size := by omega
        try have : w.heap.size ≤ w1.heap.size := by omega
        try have : w.heap.size + 1 < w1.heap.size := by omega
        try have : w.heap.size + 1 ≤ w1.heap.size := by omega
        go_wp2
        refine bodyPost_ret (v := .tuple #[.agg #[.int .i64 (0), .int .i64 (mx (-al) ah)], .int .i64 0]) (by simp only [results, Tryd.results34]; go_simp) rfl ⟨rfl, (by repeat (first | with_reducible exact Below.refl _ _ | with_reducible refine bdrew ?_ | ((with_reducible first | refine bset ?_ ?_ | refine ball ?_ ?_ | refine bth (by assumption) ?_ ?_); first | omega | (simp <;> omega))))⟩
end Go.Proofs.YtlcbcanlehackaaDoor
