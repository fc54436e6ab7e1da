/- Hulls, meets, spans that grow, middles, widths: the program's functions and the document's. -/
import Derived.Test.YtlcbcanlehackaaDoorSum
set_option linter.unusedVariables false
set_option linter.unusedSimpArgs false
namespace Go.Proofs.YtlcbcanlehackaaDoor
open Go.RowKit
def mi (x y : Int) : Int := if y < x then y else x
def mx (x y : Int) : Int := if x < y then y else x
theorem mi_eq (x y : Int) : (if y < x then y else x) = mi x y := rfl
theorem mx_eq (x y : Int) : (if x < y then y else x) = mx x y := rfl
theorem sboth (al ah bl bh : Int) (w : World) :
    Calls Tryd.prog 66 #[.agg #[.int .i64 (al), .int .i64 (ah)], .agg #[.int .i64 (bl), .int .i64 (bh)]] w fun e w' => e = .returned (.agg #[.int .i64 (mi al bl), .int .i64 (mx ah bh)]) ∧ Below w.heap.size w w' := by
  have m1 := mi_eq al bl
  have m2 := mx_eq ah bh
  go_enter Tryd.func66, Tryd.ntmps66
  go_wp2
  refine bodyPost_ret (v := .agg #[.int .i64 (mi al bl), .int .i64 (mx ah bh)]) (by simp only [results, Tryd.results66]; go_simp) rfl ⟨rfl, (by repeat (first | with_reducible exact Below.refl _ _ | with_reducible refine bdrew ?_ | ((with_reducible first | refine bset ?_ ?_ | refine ball ?_ ?_ | refine bth (by assumption) ?_ ?_); first | omega | (simp <;> omega))))⟩
theorem hull_any (al ah bl bh : Int) (i0 : I64 al) (i2 : I64 bl) (w : World) :
    Calls Tryd.prog 31 #[.agg #[.int .i64 (al), .int .i64 (ah)], .agg #[.int .i64 (bl), .int .i64 (bh)]] w fun e w' => e = .returned (.tuple #[.agg #[.int .i64 (okI (vB al ah && vB bl bh) (mi al bl)), .int .i64 (okI (vB al ah && vB bl bh) (mx ah bh))], .int .i64 (errE (vB al ah && vB bl bh) 0)]) ∧ Below w.heap.size w w' := by
  have h0 := i0.1
  have h1 := i2.1
  clear i0 i2
  cases hv : (vB al ah && vB bl bh)
  · rw [ok_f, ok_f, err_f]
    have HV := hide hv
    clear hv
    go_enter Tryd.func31, Tryd.ntmps31
    go_wp2_with fail
    go_at_call 53
    refine (invalid2 al ah bl bh _ _ _ h0 h1 (by go_simp) (by go_simp) (by go_simp) (by go_simp) (by go_simp) true (by simpa using HV.out)).mono ?_
    rintro e w1 ⟨rfl, hb1⟩
    obtain ⟨hc1, hf1⟩ := bcell hb1
    have hz1 := hb1.size
    try simp only [World.size_alloc, World.size_setCell] at hz1
    try have : w.heap.size < w1.heap.size := by omega
    try have : w.heap.size ≤ w1.heap.size := by omega
    try have : w.heap.size + 1 < w1.heap.size := by omega
    try have : w.heap.size + 1 ≤ w1.heap.size := by omega
    try have : w.heap.size + 1 + 1 < w1.heap.size := by omega
    try have : w.heap.size + 1 + 1 ≤ w1.heap.size := by omega
    try have : w.heap.size + 1 + 1 + 1 < w1.heap.size := by omega
    try have : w.heap.size + 1 + 1 + 1 ≤ w1.heap.size := by omega
    go_wp2
    refine bodyPost_ret (v := .tuple #[.agg #[.int .i64 (0), .int .i64 (0)], .int .i64 2]) (by simp only [results, Tryd.results31]; go_simp) rfl ⟨rfl, (by repeat (first | with_reducible exact Below.refl _ _ | with_reducible refine bdrew ?_ | ((with_reducible first | refine bset ?_ ?_ | refine ball ?_ ?_ | refine bth (by assumption) ?_ ?_); first | omega | (simp <;> omega))))⟩
  · rw [ok_t, ok_t, err_t]
    have HV := hide hv
    clear hv
    go_enter Tryd.func31, Tryd.ntmps31
    go_wp2_with fail
    go_at_call 53
    refine (invalid2 al ah bl bh _ _ _ h0 h1 (by go_simp) (by go_simp) (by go_simp) (by go_simp) (by go_simp) false (by simpa using HV.out)).mono ?_
    rintro e w1 ⟨rfl, hb1⟩
    obtain ⟨hc1, hf1⟩ := bcell hb1
    have hz1 := hb1.size
    try simp only [World.size_alloc, World.size_setCell] at hz1
    try have : w.heap.size < w1.heap.size := by omega
    try have : w.heap.size ≤ w1.heap.size := by omega
    try have : w.heap.size + 1 < w1.heap.size := by omega
    try have : w.heap.size + 1 ≤ w1.heap.size := by omega
    try have : w.heap.size + 1 + 1 < w1.heap.size := by omega
    try have : w.heap.size + 1 + 1 ≤ w1.heap.size := by omega
    try have : w.heap.size + 1 + 1 + 1 < w1.heap.size := by omega
    try have : w.heap.size + 1 + 1 + 1 ≤ w1.heap.size := by omega
    go_wp2_with fail
    refine (sboth al ah bl bh _).mono ?_
    rintro e w2 ⟨rfl, hb2⟩
    obtain ⟨hc2, hf2⟩ := bcell hb2
    have hz2 := hb2.size
    try simp only [World.size_alloc, World.size_setCell] at hz2
    try have : w.heap.size < w2.heap.size := by omega
    try have : w.heap.size ≤ w2.heap.size := by omega
    try have : w.heap.size + 1 < w2.heap.size := by omega
    try have : w.heap.size + 1 ≤ w2.heap.size := by omega
    try have : w.heap.size + 1 + 1 < w2.heap.size := by omega
    try have : w.heap.size + 1 + 1 ≤ w2.heap.size := by omega
    try have : w.heap.size + 1 + 1 + 1 < w2.heap.size := by omega
    try have : w.heap.size + 1 + 1 + 1 ≤ w2.heap.size := by omega
    try have : w1.heap.size < w2.heap.size := by omega
    try have : w1.heap.size ≤ w2.heap.size := by omega
    go_wp2
    refine bodyPost_ret (v := .tuple #[.agg #[.int .i64 (mi al bl), .int .i64 (mx ah bh)], .int .i64 0]) (by simp only [results, Tryd.results31]; go_simp) rfl ⟨rfl, (by repeat (first | with_reducible exact Below.refl _ _ | with_reducible refine bdrew ?_ | ((with_reducible first | refine bset ?_ ?_ | refine ball ?_ ?_ | refine bth (by assumption) ?_ ?_); first | omega | (simp <;> omega))))⟩
/-- What two spans have in common: the bounds, and the error. -/
def meN (al ah bl bh : Int) : Bool := decide (mi ah bh < mx al bl)
def meE (b : Bool) : Int := if b then 7 else 0
def meI (b : Bool) (x : Int) : Int := if b then 0 else x
def growB (al ah by_ : Int) : Bool := vB al ah && decide (0 ≤ by_)
end Go.Proofs.YtlcbcanlehackaaDoor
