/- Middles, halves and widths, and 'same': the document's, and the law's own. -/
import Derived.Test.YtbfbnmmgmkbieabDoorMid
import Derived.Test.YtbfbnmmgmkbieabDoorQF
set_option linter.unusedVariables false
set_option linter.unusedSimpArgs false
namespace Go.Proofs.YtbfbnmmgmkbieabDoor
open Go.RowKit
theorem split_any (al ah : Int) (i0 : I64 al) (i1 : I64 ah) (w : World) :
    Calls Tryd.prog 33 #[.agg #[.int .i64 (al), .int .i64 (ah)]] w fun e w' => e = .returned (.tuple #[.agg #[.int .i64 (okI (vB al ah) al), .int .i64 (okI (vB al ah) (midI al ah))], .agg #[.int .i64 (okI (vB al ah) (midI al ah)), .int .i64 (okI (vB al ah) ah)], .int .i64 (errE (vB al ah) 0)]) ∧ Below w.heap.size w w' := by
  have hm := mid_any al ah i0 i1
  cases hv : vB al ah
  · rw [hv] at hm
    simp only [ok_f, err_f] at hm ⊢
    have HM := hide hm
    clear hm hv i0 i1
    go_enter Tryd.func33, Tryd.ntmps33
    go_wp2_with fail
    refine (HM.out _).mono ?_
    rintro e w1 ⟨rfl, hb1⟩
    obtain ⟨hc1, hf1⟩ := bcell hb1
    have hz1 := hb1.size
    try simp only [World.size_alloc, World.size_setCell] at hz1
    try have : w.heap.size < w1.heap.size := by omega
    try have : w.heap.size ≤ w1.heap.size := by omega
    try have : w.heap.size + 1 < w1.heap.size := by omega
    try have : w.heap.size + 1 ≤ w1.heap.size := by omega
    try have : w.heap.size + 1 + 1 < w1.heap.size := by omega
    try have : w.heap.size + 1 + 1 ≤ w1.heap.size := by omega
    go_wp2
    refine bodyPost_ret (v := .tuple #[.agg #[.int .i64 (0), .int .i64 (0)], .agg #[.int .i64 (0), .int .i64 (0)], .int .i64 2]) (by simp only [results, Tryd.results33]; go_simp) rfl ⟨rfl, (by repeat (first | with_reducible exact Below.refl _ _ | with_reducible refine bdrew ?_ | ((with_reducible first | refine bset ?_ ?_ | refine ball ?_ ?_ | refine bth (by assumption) ?_ ?_); first | omega | (simp <;> omega))))⟩
  · rw [hv] at hm
    simp only [ok_t, err_t] at hm ⊢
    have HM := hide hm
    clear hm hv i0 i1
    go_enter Tryd.func33, Tryd.ntmps33
    go_wp2_with fail
    refine (HM.out _).mono ?_
    rintro e w1 ⟨rfl, hb1⟩
    obtain ⟨hc1, hf1⟩ := bcell hb1
    have hz1 := hb1.size
    try simp only [World.size_alloc, World.size_setCell] at hz1
    try have : w.heap.size < w1.heap.size := by omega
    try have : w.heap.size ≤ w1.heap.size := by omega
    try have : w.heap.size + 1 < w1.heap.size := by omega
    try have : w.heap.size + 1 ≤ w1.heap.size := by omega
    try have : w.heap.size + 1 + 1 < w1.heap.size := by omega
    try have : w.heap.size + 1 + 1 ≤ w1.heap.size := by omega
    go_wp2_with fail
    go_region
    all_goals go_wp2
    all_goals refine bodyPost_ret (v := .tuple #[.agg #[.int .i64 (al), .int .i64 (midI al ah)], .agg #[.int .i64 (midI al ah), .int .i64 (ah)], .int .i64 0]) (by simp only [results, Tryd.results33]; go_simp) rfl ⟨rfl, (by repeat (first | with_reducible exact Below.refl _ _ | with_reducible refine bdrew ?_ | ((with_reducible first | refine bset ?_ ?_ | refine ball ?_ ?_ | refine bth (by assumption) ?_ ?_); first | omega | (simp <;> omega))))⟩
/-- The width, if it is a number. -/
def wdB (lo hi : Int) : Bool := decide (hi - lo ≤ 9223372036854775807)
def wdI (lo hi : Int) : Int := if wdB lo hi then hi - lo else 0
def wdE (lo hi : Int) : Int := if wdB lo hi then 0 else 4
end Go.Proofs.YtbfbnmmgmkbieabDoor
