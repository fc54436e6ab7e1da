/- Hulls, meets, spans that grow, middles, widths: the program's functions and the document's. -/
import Derived.Test.YtbfbnmmgmkbieaaSum
set_option linter.unusedVariables false
set_option linter.unusedSimpArgs false
namespace Go.Proofs.Ytbfbnmmgmkbieaa
open Go.RowKit
def mi (x y : Int) : Int := if y < x then y else x
def mx (x y : Int) : Int := if x < y then y else x
theorem mi_eq (x y : Int) : (if y < x then y else x) = mi x y := rfl
theorem mx_eq (x y : Int) : (if x < y then y else x) = mx x y := rfl
theorem sboth (al ah bl bh : Int) (w : World) :
    Calls Try.prog 101 #[.agg #[.int .i64 (al), .int .i64 (ah)], .agg #[.int .i64 (bl), .int .i64 (bh)]] w fun e w' => e = .returned (.agg #[.int .i64 (mi al bl), .int .i64 (mx ah bh)]) ∧ Below w.heap.size w w' := by
  have m1 := mi_eq al bl
  have m2 := mx_eq ah bh
  go_enter Try.func101, Try.ntmps101
  go_wp2
  refine bodyPost_ret (v := .agg #[.int .i64 (mi al bl), .int .i64 (mx ah bh)]) (by simp only [results, Try.results101]; go_simp) rfl ⟨rfl, (by repeat (first | with_reducible exact Below.refl _ _ | with_reducible refine bdrew ?_ | ((with_reducible first | refine bset ?_ ?_ | refine ball ?_ ?_ | refine bth (by assumption) ?_ ?_); first | omega | (simp <;> omega))))⟩
theorem hull_any (al ah bl bh : Int) (i0 : I64 al) (i2 : I64 bl) (w : World) :
    Calls Try.prog 43 #[.agg #[.int .i64 (al), .int .i64 (ah)], .agg #[.int .i64 (bl), .int .i64 (bh)]] w fun e w' => e = .returned (.tuple #[.agg #[.int .i64 (okI (vB al ah && vB bl bh) (mi al bl)), .int .i64 (okI (vB al ah && vB bl bh) (mx ah bh))], .int .i64 (errE (vB al ah && vB bl bh) 0)]) ∧ Below w.heap.size w w' := by
  have h0 := i0.1
  have h1 := i2.1
  clear i0 i2
  cases hv : (vB al ah && vB bl bh)
  · rw [ok_f, ok_f, err_f]
    have HV := hide hv
    clear hv
    go_enter Try.func43, Try.ntmps43
    go_wp2_with fail
    go_at_call 81
    refine (invalid2 al ah bl bh _ _ _ h0 h1 (by go_simp) (by go_simp) (by go_simp) (by go_simp) (by go_simp) true (by simpa using HV.out)).mono ?_
    rintro e w1 ⟨rfl, hb1⟩
    obtain ⟨hc1, hf1⟩ := bcell hb1
    have hz1 := hb1.size
    try simp only [World.size_alloc, World.size_setCell] at hz1
    try have : w.heap.size < w1.heap.size := by omega
    try have : w.heap.size ≤ w1.heap.size := by omega
    try have : w.heap.size + 1 < w1.heap.size := by omega
    try have : w.heap.size + 1 ≤ w1.heap.size := by omega
    try have : w.heap.size + 1 + 1 < w1.heap.size := by omega
    try have : w.heap.size + 1 + 1 ≤ w1.heap.size := by omega
    try have : w.heap.size + 1 + 1 + 1 < w1.heap.size := by omega
    try have : w.heap.size + 1 + 1 + 1 ≤ w1.heap.size := by omega
    go_wp2
    refine bodyPost_ret (v := .tuple #[.agg #[.int .i64 (0), .int .i64 (0)], .int .i64 2]) (by simp only [results, Try.results43]; go_simp) rfl ⟨rfl, (by repeat (first | with_reducible exact Below.refl _ _ | with_reducible refine bdrew ?_ | ((with_reducible first | refine bset ?_ ?_ | refine ball ?_ ?_ | refine bth (by assumption) ?_ ?_); first | omega | (simp <;> omega))))⟩
  · rw [ok_t, ok_t, err_t]
    have HV := hide hv
    clear hv
    go_enter Try.func43, Try.ntmps43
    go_wp2_with fail
    go_at_call 81
    refine (invalid2 al ah bl bh _ _ _ h0 h1 (by go_simp) (by go_simp) (by go_simp) (by go_simp) (by go_simp) false (by simpa using HV.out)).mono ?_
    rintro e w1 ⟨rfl, hb1⟩
    obtain ⟨hc1, hf1⟩ := bcell hb1
    have hz1 := hb1.size
    try simp only [World.size_alloc, World.size_setCell] at hz1
    try have : w.heap.size < w1.heap.size := by omega
    try have : w.heap.size ≤ w1.heap.size := by omega
    try have : w.heap.size + 1 < w1.heap.size := by omega
    try have : w.heap.size + 1 ≤ w1.heap.size := by omega
    try have : w.heap.size + 1 + 1 < w1.heap.size := by omega
    try have : w.heap.size + 1 + 1 ≤ w1.heap.size := by omega
    try have : w.heap.size + 1 + 1 + 1 < w1.heap.size := by omega
    try have : w.heap.size + 1 + 1 + 1 ≤ w1.heap.size := by omega
    go_wp2_with fail
    refine (sboth al ah bl bh _).mono ?_
    rintro e w2 ⟨rfl, hb2⟩
    obtain ⟨hc2, hf2⟩ := bcell hb2
    have hz2 := hb2.size
    try simp only [World.size_alloc, World.size_setCell] at hz2
    try have : w.heap.size < w2.heap.size := by omega
    try have : w.heap.size ≤ w2.heap.size := by omega
    try have : w.heap.size + 1 < w2.heap.size := by omega
    try have : w.heap.size + 1 ≤ w2.heap.size := by omega
    try have : w.heap.size + 1 + 1 < w2.heap.size := by omega
    try have : w.heap.size + 1 + 1 ≤ w2.heap.size := by omega
    try have : w.heap.size + 1 + 1 + 1 < w2.heap.size := by omega
    try have : w.heap.size + 1 + 1 + 1 ≤ w2.heap.size := by omega
    try have : w1.heap.size < w2.heap.size := by omega
    try have : w1.heap.size ≤ w2.heap.size := by omega
    go_wp2
    refine bodyPost_ret (v := .tuple #[.agg #[.int .i64 (mi al bl), .int .i64 (mx ah bh)], .int .i64 0]) (by simp only [results, Try.results43]; go_simp) rfl ⟨rfl, (by repeat (first | with_reducible exact Below.refl _ _ | with_reducible refine bdrew ?_ | ((with_reducible first | refine bset ?_ ?_ | refine ball ?_ ?_ | refine bth (by assumption) ?_ ?_); first | omega | (simp <;> omega))))⟩
theorem rhull_any (al ah bl bh : Int) (w : World) :
    Calls Try.prog 44 #[.agg #[.int .i64 (al), .int .i64 (ah)], .agg #[.int .i64 (bl), .int .i64 (bh)]] w fun e w' => e = .returned (.tuple #[.agg #[.int .i64 (okI (vB al ah && vB bl bh) (mi al bl)), .int .i64 (okI (vB al ah && vB bl bh) (mx ah bh))], .int .i64 (errE (vB al ah && vB bl bh) 0)]) ∧ Below w.heap.size w w' := by
  have m1 := mi_eq al bl
  have m2 := mx_eq ah bh
  cases hv : (vB al ah && vB bl bh)
  · rw [ok_f, ok_f, err_f]
    have HV := hide (both2 hv)
    clear hv
    go_enter Try.func44, Try.ntmps44
    go_wp2_with fail
    refine (rboth al ah bl bh 2 HV.out _).mono ?_
    rintro e w1 ⟨rfl, hb1⟩
    obtain ⟨hc1, hf1⟩ := bcell hb1
    have hz1 := hb1.size
    try simp only [World.size_alloc, World.size_setCell] at hz1
    try have : w.heap.size < w1.heap.size := by omega
    try have : w.heap.size ≤ w1.heap.size := by omega
    try have : w.heap.size + 1 < w1.heap.size := by omega
    try have : w.heap.size + 1 ≤ w1.heap.size := by omega
    try have : w.heap.size + 1 + 1 < w1.heap.size := by omega
    try have : w.heap.size + 1 + 1 ≤ w1.heap.size := by omega
    go_wp2
    refine bodyPost_ret (v := .tuple #[.agg #[.int .i64 (0), .int .i64 (0)], .int .i64 2]) (by simp only [results, Try.results44]; go_simp) rfl ⟨rfl, (by repeat (first | with_reducible exact Below.refl _ _ | with_reducible refine bdrew ?_ | ((with_reducible first | refine bset ?_ ?_ | refine ball ?_ ?_ | refine bth (by assumption) ?_ ?_); first | omega | (simp <;> omega))))⟩
  · rw [ok_t, ok_t, err_t]
    have HV := hide (both0 hv)
    clear hv
    go_enter Try.func44, Try.ntmps44
    go_wp2_with fail
    refine (rboth al ah bl bh 0 HV.out _).mono ?_
    rintro e w1 ⟨rfl, hb1⟩
    obtain ⟨hc1, hf1⟩ := bcell hb1
    have hz1 := hb1.size
    try simp only [World.size_alloc, World.size_setCell] at hz1
    try have : w.heap.size < w1.heap.size := by omega
    try have : w.heap.size ≤ w1.heap.size := by omega
    try have : w.heap.size + 1 < w1.heap.size := by omega
    try have : w.heap.size + 1 ≤ w1.heap.size := by omega
    try have : w.heap.size + 1 + 1 < w1.heap.size := by omega
    try have : w.heap.size + 1 + 1 ≤ w1.heap.size := by omega
    go_wp2
    refine bodyPost_ret (v := .tuple #[.agg #[.int .i64 (mi al bl), .int .i64 (mx ah bh)], .int .i64 0]) (by simp only [results, Try.results44]; go_simp) rfl ⟨rfl, (by repeat (first | with_reducible exact Below.refl _ _ | with_reducible refine bdrew ?_ | ((with_reducible first | refine bset ?_ ?_ | refine ball ?_ ?_ | refine bth (by assumption) ?_ ?_); first | omega | (simp <;> omega))))⟩
/-- What two spans have in common: the bounds, and the error. -/
def meN (al ah bl bh : Int) : Bool := decide (mi ah bh < mx al bl)
def meE (b : Bool) : Int := if b then 7 else 0
def meI (b : Bool) (x : Int) : Int := if b then 0 else x
theorem meet_any (al ah bl bh : Int) (i0 : I64 al) (i2 : I64 bl) (w : World) :
    Calls Try.prog 45 #[.agg #[.int .i64 (al), .int .i64 (ah)], .agg #[.int .i64 (bl), .int .i64 (bh)]] w fun e w' => e = .returned (.tuple #[.agg #[.int .i64 (okI (vB al ah && vB bl bh) (meI (meN al ah bl bh) (mx al bl))), .int .i64 (okI (vB al ah && vB bl bh) (meI (meN al ah bl bh) (mi ah bh)))], .int .i64 (errE (vB al ah && vB bl bh) (meE (meN al ah bl bh)))]) ∧ Below w.heap.size w w' := by
  have h0 := i0.1
  have h1 := i2.1
  have m1 := mx_eq al bl
  have m2 := mi_eq ah bh
  clear i0 i2
  cases hv : (vB al ah && vB bl bh)
  · rw [ok_f, ok_f, err_f]
    have HV := hide hv
    clear hv
    go_enter Try.func45, Try.ntmps45
    go_wp2_with fail
    go_at_call 81
    refine (invalid2 al ah bl bh _ _ _ h0 h1 (by go_simp) (by go_simp) (by go_simp) (by go_simp) (by go_simp) true (by simpa using HV.out)).mono ?_
    rintro e w1 ⟨rfl, hb1⟩
    obtain ⟨hc1, hf1⟩ := bcell hb1
    have hz1 := hb1.size
    try simp only [World.size_alloc, World.size_setCell] at hz1
    try have : w.heap.size < w1.heap.size := by omega
    try have : w.heap.size ≤ w1.heap.size := by omega
    try have : w.heap.size + 1 < w1.heap.size := by omega
    try have : w.heap.size + 1 ≤ w1.heap.size := by omega
    try have : w.heap.size + 1 + 1 < w1.heap.size := by omega
    try have : w.heap.size + 1 + 1 ≤ w1.heap.size := by omega
    try have : w.heap.size + 1 + 1 + 1 < w1.heap.size := by omega
    try have : w.heap.size + 1 + 1 + 1 ≤ w1.heap.size := by omega
    go_wp2
    refine bodyPost_ret (v := .tuple #[.agg #[.int .i64 (0), .int .i64 (0)], .int .i64 2]) (by simp only [results, Try.results45]; go_simp) rfl ⟨rfl, (by repeat (first | with_reducible exact Below.refl _ _ | with_reducible refine bdrew ?_ | ((with_reducible first | refine bset ?_ ?_ | refine ball ?_ ?_ | refine bth (by assumption) ?_ ?_); first | omega | (simp <;> omega))))⟩
  · rw [ok_t, ok_t, err_t]
    have HV := hide hv
    clear hv
    by_cases c : mi ah bh < mx al bl
    · rw [show meN al ah bl bh = true from decide_eq_true c]
      go_enter Try.func45, Try.ntmps45
      go_wp2_with fail
      go_at_call 81
      refine (invalid2 al ah bl bh _ _ _ h0 h1 (by go_simp) (by go_simp) (by go_simp) (by go_simp) (by go_simp) false (by simpa using HV.out)).mono ?_
      rintro e w1 ⟨rfl, hb1⟩
      obtain ⟨hc1, hf1⟩ := bcell hb1
      have hz1 := hb1.size
      try simp only [World.size_alloc, World.size_setCell] at hz1
      try have : w.heap.size < w1.heap.size := by omega
      try have : w.heap.size ≤ w1.heap.size := by omega
      try have : w.heap.size + 1 < w1.heap.size := by omega
      try have : w.heap.size + 1 ≤ w1.heap.size := by omega
      try have : w.heap.size + 1 + 1 < w1.heap.size := by omega
      try have : w.heap.size + 1 + 1 ≤ w1.heap.size := by omega
      try have : w.heap.size + 1 + 1 + 1 < w1.heap.size := by omega
      try have : w.heap.size + 1 + 1 + 1 ≤ w1.heap.size := by omega
      go_wp2
      refine bodyPost_ret (v := .tuple #[.agg #[.int .i64 (0), .int .i64 (0)], .int .i64 7]) (by simp only [results, Try.results45]; go_simp) rfl ⟨rfl, (by repeat (first | with_reducible exact Below.refl _ _ | with_reducible refine bdrew ?_ | ((with_reducible first | refine bset ?_ ?_ | refine ball ?_ ?_ | refine bth (by assumption) ?_ ?_); first | omega | (simp <;> omega))))⟩
    · rw [show meN al ah bl bh = false from decide_eq_false c]
      go_enter Try.func45, Try.ntmps45
      go_wp2_with fail
      go_at_call 81
      refine (invalid2 al ah bl bh _ _ _ h0 h1 (by go_simp) (by go_simp) (by go_simp) (by go_simp) (by go_simp) false (by simpa using HV.out)).mono ?_
      rintro e w1 ⟨rfl, hb1⟩
      obtain ⟨hc1, hf1⟩ := bcell hb1
      have hz1 := hb1.size
      try simp only [World.size_alloc, World.size_setCell] at hz1
      try have : w.heap.size < w1.heap.size := by omega
      try have : w.heap.size ≤ w1.heap.size := by omega
      try have : w.heap.size + 1 < w1.heap.size := by omega
      try have : w.heap.size + 1 ≤ w1.heap.size := by omega
      try have : w.heap.size + 1 + 1 < w1.heap.size := by omega
      try have : w.heap.size + 1 + 1 ≤ w1.heap.size := by omega
      try have : w.heap.size + 1 + 1 + 1 < w1.heap.size := by omega
      try have : w.heap.size + 1 + 1 + 1 ≤ w1.heap.size := by omega
      go_wp2
      refine bodyPost_ret (v := .tuple #[.agg #[.int .i64 (mx al bl), .int .i64 (mi ah bh)], .int .i64 0]) (by simp only [results, Try.results45]; go_simp) rfl ⟨rfl, (by repeat (first | with_reducible exact Below.refl _ _ | with_reducible refine bdrew ?_ | ((with_reducible first | refine bset ?_ ?_ | refine ball ?_ ?_ | refine bth (by assumption) ?_ ?_); first | omega | (simp <;> omega))))⟩
theorem rmeet_any (al ah bl bh : Int) (w : World) :
    Calls Try.prog 46 #[.agg #[.int .i64 (al), .int .i64 (ah)], .agg #[.int .i64 (bl), .int .i64 (bh)]] w fun e w' => e = .returned (.tuple #[.agg #[.int .i64 (okI (vB al ah && vB bl bh) (meI (meN al ah bl bh) (mx al bl))), .int .i64 (okI (vB al ah && vB bl bh) (meI (meN al ah bl bh) (mi ah bh)))], .int .i64 (errE (vB al ah && vB bl bh) (meE (meN al ah bl bh)))]) ∧ Below w.heap.size w w' := by
  have m1 := mx_eq al bl
  have m2 := mi_eq ah bh
  cases hv : (vB al ah && vB bl bh)
  · rw [ok_f, ok_f, err_f]
    have HV := hide (both2 hv)
    clear hv
    go_enter Try.func46, Try.ntmps46
    go_wp2_with fail
    refine (rboth al ah bl bh 2 HV.out _).mono ?_
    rintro e w1 ⟨rfl, hb1⟩
    obtain ⟨hc1, hf1⟩ := bcell hb1
    have hz1 := hb1.size
    try simp only [World.size_alloc, World.size_setCell] at hz1
    try have : w.heap.size < w1.heap.size := by omega
    try have : w.heap.size ≤ w1.heap.size := by omega
    try have : w.heap.size + 1 < w1.heap.size := by omega
    try have : w.heap.size + 1 ≤ w1.heap.size := by omega
    try have : w.heap.size + 1 + 1 < w1.heap.size := by omega
    try have : w.heap.size + 1 + 1 ≤ w1.heap.size := by omega
    go_wp2
    refine bodyPost_ret (v := .tuple #[.agg #[.int .i64 (0), .int .i64 (0)], .int .i64 2]) (by simp only [results, Try.results46]; go_simp) rfl ⟨rfl, (by repeat (first | with_reducible exact Below.refl _ _ | with_reducible refine bdrew ?_ | ((with_reducible first | refine bset ?_ ?_ | refine ball ?_ ?_ | refine bth (by assumption) ?_ ?_); first | omega | (simp <;> omega))))⟩
  · rw [ok_t, ok_t, err_t]
    have HV := hide (both0 hv)
    clear hv
    by_cases c : mi ah bh < mx al bl
    · rw [show meN al ah bl bh = true from decide_eq_true c]
      go_enter Try.func46, Try.ntmps46
      go_wp2_with fail
      refine (rboth al ah bl bh 0 HV.out _).mono ?_
      rintro e w1 ⟨rfl, hb1⟩
      obtain ⟨hc1, hf1⟩ := bcell hb1
      have hz1 := hb1.size
      try simp only [World.size_alloc, World.size_setCell] at hz1
      try have : w.heap.size < w1.heap.size := by omega
      try have : w.heap.size ≤ w1.heap.size := by omega
      try have : w.heap.size + 1 < w1.heap.size := by omega
      try have : w.heap.size + 1 ≤ w1.heap.size := by omega
      try have : w.heap.size + 1 + 1 < w1.heap.size := by omega
      try have : w.heap.size + 1 + 1 ≤ w1.heap.size := by omega
      go_wp2
      refine bodyPost_ret (v := .tuple #[.agg #[.int .i64 (0), .int .i64 (0)], .int .i64 7]) (by simp only [results, Try.results46]; go_simp) rfl ⟨rfl, (by repeat (first | with_reducible exact Below.refl _ _ | with_reducible refine bdrew ?_ | ((with_reducible first | refine bset ?_ ?_ | refine ball ?_ ?_ | refine bth (by assumption) ?_ ?_); first | omega | (simp <;> omega))))⟩
    · rw [show meN al ah bl bh = false from decide_eq_false c]
      go_enter Try.func46, Try.ntmps46
      go_wp2_with fail
      refine (rboth al ah bl bh 0 HV.out _).mono ?_
      rintro e w1 ⟨rfl, hb1⟩
      obtain ⟨hc1, hf1⟩ := bcell hb1
      have hz1 := hb1.size
      try simp only [World.size_alloc, World.size_setCell] at hz1
      try have : w.heap.size < w1.heap.size := by omega
      try have : w.heap.size ≤ w1.heap.size := by omega
      try have : w.heap.size + 1 < w1.heap.size := by omega
      try have : w.heap.size + 1 ≤ w1.heap.size := by omega
      try have : w.heap.size + 1 + 1 < w1.heap.size := by omega
      try have : w.heap.size + 1 + 1 ≤ w1.heap.size := by omega
      go_wp2
      refine bodyPost_ret (v := .tuple #[.agg #[.int .i64 (mx al bl), .int .i64 (mi ah bh)], .int .i64 0]) (by simp only [results, Try.results46]; go_simp) rfl ⟨rfl, (by repeat (first | with_reducible exact Below.refl _ _ | with_reducible refine bdrew ?_ | ((with_reducible first | refine bset ?_ ?_ | refine ball ?_ ?_ | refine bth (by assumption) ?_ ?_); first | omega | (simp <;> omega))))⟩
def growB (al ah by_ : Int) : Bool := vB al ah && decide (0 ≤ by_)
theorem grow_any (al ah n : Int) (i0 : I64 al) (i1 : I64 ah) (i2 : I64 n) (w : World) :
    Calls Try.prog 47 #[.agg #[.int .i64 (al), .int .i64 (ah)], .int .i64 n] w fun e w' => e = .returned (.tuple #[.agg #[.int .i64 (okI (growB al ah n) (oLo (al - n) (ah + n))), .int .i64 (okI (growB al ah n) (oHi (al - n) (ah + n)))], .int .i64 (errE (growB al ah n) (oE (al - n) (ah + n)))]) ∧ Below w.heap.size w w' := by
  have h0 := i0.1
  have b1 := i2.1
  have b2 := i2.2
  have I0 := hide i0
  have I1 := hide i1
  clear i0 i1 i2
  cases hv : vB al ah
  · rw [show growB al ah n = false by simp [growB, hv], ok_f, ok_f, err_f]
    have HV := hide hv
    clear hv
    go_enter Try.func47, Try.ntmps47
    go_wp2_with fail
    go_at_call 81
    refine (invalid1 al ah _ _ _ h0 (by go_simp) (by go_simp) (by go_simp) true (by simpa using HV.out)).mono ?_
    rintro e w1 ⟨rfl, hb1⟩
    obtain ⟨hc1, hf1⟩ := bcell hb1
    have hz1 := hb1.size
    try simp only [World.size_alloc, World.size_setCell] at hz1
    try have : w.heap.size < w1.heap.size := by omega
    try have : w.heap.size ≤ w1.heap.size := by omega
    try have : w.heap.size + 1 < w1.heap.size := by omega
    try have : w.heap.size + 1 ≤ w1.heap.size := by omega
    try have : w.heap.size + 1 + 1 < w1.heap.size := by omega
    try have : w.heap.size + 1 + 1 ≤ w1.heap.size := by omega
    go_wp2
    refine bodyPost_ret (v := .tuple #[.agg #[.int .i64 (0), .int .i64 (0)], .int .i64 2]) (by simp only [results, Try.results47]; go_simp) rfl ⟨rfl, (by repeat (first | with_reducible exact Below.refl _ _ | with_reducible refine bdrew ?_ | ((with_reducible first | refine bset ?_ ?_ | refine ball ?_ ?_ | refine bth (by assumption) ?_ ?_); first | omega | (simp <;> omega))))⟩
  · by_cases c : n < 0
    · rw [show growB al ah n = false by (simp [growB]; omega), ok_f, ok_f, err_f]
      have HV := hide hv
      clear hv
      go_enter Try.func47, Try.ntmps47
      go_wp2_with fail
      go_at_call 81
      refine (invalid1 al ah _ _ _ h0 (by go_simp) (by go_simp) (by go_simp) false (by simpa using HV.out)).mono ?_
      rintro e w1 ⟨rfl, hb1⟩
      obtain ⟨hc1, hf1⟩ := bcell hb1
      have hz1 := hb1.size
      try simp only [World.size_alloc, World.size_setCell] at hz1
      try have : w.heap.size < w1.heap.size := by omega
      try have : w.heap.size ≤ w1.heap.size := by omega
      try have : w.heap.size + 1 < w1.heap.size := by omega
      try have : w.heap.size + 1 ≤ w1.heap.size := by omega
      try have : w.heap.size + 1 + 1 < w1.heap.size := by omega
      try have : w.heap.size + 1 + 1 ≤ w1.heap.size := by omega
      go_wp2
      refine bodyPost_ret (v := .tuple #[.agg #[.int .i64 (0), .int .i64 (0)], .int .i64 2]) (by simp only [results, Try.results47]; go_simp) rfl ⟨rfl, (by repeat (first | with_reducible exact Below.refl _ _ | with_reducible refine bdrew ?_ | ((with_reducible first | refine bset ?_ ?_ | refine ball ?_ ?_ | refine bth (by assumption) ?_ ?_); first | omega | (simp <;> omega))))⟩
    · rw [show growB al ah n = true by (simp [growB, hv]; omega), ok_t, ok_t, err_t]
      have HV := hide hv
      have hc := add_any al ah (-n) n I0.out I1.out (I64.neg (by omega) (by omega)) ⟨b1, b2⟩
      rw [hv, vB_t (lo := -n) (hi := n) (by omega) (by omega), Bool.and_true, ok_t, ok_t, err_t, show al + -n = al - n by omega] at hc
      have HA := hide hc
      clear hv hc
      go_enter Try.func47, Try.ntmps47
      go_wp2_with fail
      go_at_call 81
      refine (invalid1 al ah _ _ _ h0 (by go_simp) (by go_simp) (by go_simp) false (by simpa using HV.out)).mono ?_
      rintro e w1 ⟨rfl, hb1⟩
      obtain ⟨hc1, hf1⟩ := bcell hb1
      have hz1 := hb1.size
      try simp only [World.size_alloc, World.size_setCell] at hz1
      try have : w.heap.size < w1.heap.size := by omega
      try have : w.heap.size ≤ w1.heap.size := by omega
      try have : w.heap.size + 1 < w1.heap.size := by omega
      try have : w.heap.size + 1 ≤ w1.heap.size := by omega
      try have : w.heap.size + 1 + 1 < w1.heap.size := by omega
      try have : w.heap.size + 1 + 1 ≤ w1.heap.size := by omega
      go_wp2_with fail
      refine (HA.out _).mono ?_
      rintro e w2 ⟨rfl, hb2⟩
      obtain ⟨hc2, hf2⟩ := bcell hb2
      have hz2 := hb2.size
      try simp only [World.size_alloc, World.size_setCell] at hz2
      try have : w.heap.size < w2.heap.size := by omega
      try have : w.heap.size ≤ w2.heap.size := by omega
      try have : w.heap.size + 1 < w2.heap.size := by omega
      try have : w.heap.size + 1 ≤ w2.heap.size := by omega
      try have : w.heap.size + 1 + 1 < w2.heap.size := by omega
      try have : w.heap.size + 1 + 1 ≤ w2.heap.size := by omega
      try have : w1.heap.size < w2.heap.size := by omega
      try have : w1.heap.size ≤ w2.heap.size := by omega
      go_wp2
      refine bodyPost_ret (v := .tuple #[.agg #[.int .i64 (oLo (al - n) (ah + n)), .int .i64 (oHi (al - n) (ah + n))], .int .i64 (oE (al - n) (ah + n))]) (by simp only [results, Try.results47]; go_simp) rfl ⟨rfl, (by repeat (first | with_reducible exact Below.refl _ _ | with_reducible refine bdrew ?_ | ((with_reducible first | refine bset ?_ ?_ | refine ball ?_ ?_ | refine bth (by assumption) ?_ ?_); first | omega | (simp <;> omega))))⟩
theorem rgrow_any (al ah n : Int) (i0 : I64 al) (i1 : I64 ah) (i2 : I64 n) (w : World) :
    Calls Try.prog 48 #[.agg #[.int .i64 (al), .int .i64 (ah)], .int .i64 n] w fun e w' => e = .returned (.tuple #[.agg #[.int .i64 (okI (growB al ah n) (oLo (al - n) (ah + n))), .int .i64 (okI (growB al ah n) (oHi (al - n) (ah + n)))], .int .i64 (errE (growB al ah n) (oE (al - n) (ah + n)))]) ∧ Below w.heap.size w w' := by
  have b1 := i2.1
  have b2 := i2.2
  cases hv : vB al ah
  · rw [show growB al ah n = false by simp [growB, hv], ok_f, ok_f, err_f]
    have HV := hide (show chkI al ah = 2 by simp [chkI, hv])
    clear hv i0 i1 i2
    go_enter Try.func48, Try.ntmps48
    go_wp2_with fail
    refine (rcheck al ah 2 HV.out _).mono ?_
    rintro e w1 ⟨rfl, hb1⟩
    obtain ⟨hc1, hf1⟩ := bcell hb1
    have hz1 := hb1.size
    try simp only [World.size_alloc, World.size_setCell] at hz1
    try have : w.heap.size < w1.heap.size := by omega
    try have : w.heap.size ≤ w1.heap.size := by omega
    try have : w.heap.size + 1 < w1.heap.size := by omega
    try have : w.heap.size + 1 ≤ w1.heap.size := by omega
    go_wp2
    refine bodyPost_ret (v := .tuple #[.agg #[.int .i64 (0), .int .i64 (0)], .int .i64 2]) (by simp only [results, Try.results48]; go_simp) rfl ⟨rfl, (by repeat (first | with_reducible exact Below.refl _ _ | with_reducible refine bdrew ?_ | ((with_reducible first | refine bset ?_ ?_ | refine ball ?_ ?_ | refine bth (by assumption) ?_ ?_); first | omega | (simp <;> omega))))⟩
  · have HV := hide (show chkI al ah = 0 by simp [chkI, hv])
    by_cases c : n < 0
    · rw [show growB al ah n = false by (simp [growB]; omega), ok_f, ok_f, err_f]
      clear hv i0 i1 i2
      go_enter Try.func48, Try.ntmps48
      go_wp2_with fail
      refine (rcheck al ah 0 HV.out _).mono ?_
      rintro e w1 ⟨rfl, hb1⟩
      obtain ⟨hc1, hf1⟩ := bcell hb1
      have hz1 := hb1.size
      try simp only [World.size_alloc, World.size_setCell] at hz1
      try have : w.heap.size < w1.heap.size := by omega
      try have : w.heap.size ≤ w1.heap.size := by omega
      try have : w.heap.size + 1 < w1.heap.size := by omega
      try have : w.heap.size + 1 ≤ w1.heap.size := by omega
      go_wp2
      refine bodyPost_ret (v := .tuple #[.agg #[.int .i64 (0), .int .i64 (0)], .int .i64 2]) (by simp only [results, Try.results48]; go_simp) rfl ⟨rfl, (by repeat (first | with_reducible exact Below.refl _ _ | with_reducible refine bdrew ?_ | ((with_reducible first | refine bset ?_ ?_ | refine ball ?_ ?_ | refine bth (by assumption) ?_ ?_); first | omega | (simp <;> omega))))⟩
    · rw [show growB al ah n = true by (simp [growB, hv]; omega), ok_t, ok_t, err_t]
      have i3 : I64 (-n) := I64.neg (by omega) (by omega)
      clear hv
      go_enter Try.func48, Try.ntmps48
      go_wp2_with fail
      refine (rcheck al ah 0 HV.out _).mono ?_
      rintro e w1 ⟨rfl, hb1⟩
      obtain ⟨hc1, hf1⟩ := bcell hb1
      have hz1 := hb1.size
      try simp only [World.size_alloc, World.size_setCell] at hz1
      try have : w.heap.size < w1.heap.size := by omega
      try have : w.heap.size ≤ w1.heap.size := by omega
      try have : w.heap.size + 1 < w1.heap.size := by omega
      try have : w.heap.size + 1 ≤ w1.heap.size := by omega
      go_wp2_with fail
      refine QT.tail_c 16 hb1 (by kernel_rfl) (by kernel_rfl) ?_
      simp only [List.take_succ_cons, List.take_zero, List.drop_succ_cons, List.drop_zero]
      repeat (first
        | go_big_quiet_skip
        | (go_big_quiet_want; go_big_quiet_op; first
          | go_big_quiet_on
          | (apply Exists.intro
             refine ⟨fun _ => ?_, ?_⟩
             · first
                 | rfl
                 | (intro hC; obtain ⟨hcq, hfq⟩ := bcellB hC; go_simp; done)
                 | (intro hC; obtain ⟨hcq, hfq⟩ := bcellB hC; go_simp; rfl)
                 | (intro hC; go_at_call 85; (first | (with_reducible refine (rwide al i0 _).mono ?_) | (with_reducible refine (rwide ah i1 _).mono ?_) | (with_reducible refine (rwide (-n) i3 _).mono ?_) | (with_reducible refine (rwide n i2 _).mono ?_)); (intro e w2 hw; exact ⟨hw.1, qtrans (by simp) hC hw.2⟩))
                 | (intro hC; go_at_call 84; (first | (with_reducible refine (rplus al (-n) (R127.of64 i0) (R127.of64 i3) (R127.add i0 i3) _).mono ?_) | (with_reducible refine (rplus ah n (R127.of64 i1) (R127.of64 i2) (R127.add i1 i2) _).mono ?_)); (intro e w2 hw; exact ⟨hw.1, qtrans (by simp) hC hw.2⟩))
                 | (intro hC; go_at_call 78; (first | (with_reducible refine (rout (al + -n) (ah + n) _).mono ?_)); (intro e w2 hw; exact ⟨hw.1, qtrans (by simp) hC hw.2⟩))
             go_big_quiet_on)))
      refine wpQuiet_nil ?_
      intro w9 hC9
      obtain ⟨hc9, hf9⟩ := bcellB hC9
      have hz9 := hC9.size
      go_wp2
      rw [show al - n = al + -n by omega]
      refine bodyPost_ret (v := .tuple #[.agg #[.int .i64 (oLo (al + -n) (ah + n)), .int .i64 (oHi (al + -n) (ah + n))], .int .i64 (oE (al + -n) (ah + n))]) (by simp only [results, Try.results48]; go_simp) rfl ⟨rfl, (by repeat (first | with_reducible exact Below.refl _ _ | with_reducible refine bdrew ?_ | ((with_reducible first | refine bset ?_ ?_ | refine ball ?_ ?_ | refine bth (by assumption) ?_ ?_); first | omega | (simp <;> omega))))⟩
end Go.Proofs.Ytbfbnmmgmkbieaa
