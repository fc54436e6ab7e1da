/- The questions of layer 1, the document's side and the program's: Within, Sign, Order; Number, Check, both, In. -/
import Derived.Test.YtlcbcanlehackaaDoorAsk
set_option linter.unusedVariables false
set_option linter.unusedSimpArgs false
namespace Go.Proofs.YtlcbcanlehackaaDoor
open Go.RowKit

theorem rnumber (n : Int) (r : Bool) (hr : decide (-9223372036854775807 ≤ n) = r) (w : World) :
    Calls Tryd.prog 49 #[.int .i64 n] w fun e w' => e = .returned (.bool r) ∧ Below w.heap.size w w' := by
  have HR := hide hr
  clear hr
  go_enter Tryd.func49, Tryd.ntmps49
  go_wp2
  go_ret
  exact ⟨by rw [← HR.out]; rfl, (by repeat (first | with_reducible exact Below.refl _ _ | with_reducible refine bdrew ?_ | ((with_reducible first | refine bset ?_ ?_ | refine ball ?_ ?_ | refine bth (by assumption) ?_ ?_); first | omega | (simp <;> omega))))⟩

theorem within_any (al ah bl bh : Int) (h0 : -9223372036854775808 ≤ al) (h1 : -9223372036854775808 ≤ bl) (w : World) :
    Calls Tryd.prog 36 #[.agg #[.int .i64 (al), .int .i64 (ah)], .agg #[.int .i64 (bl), .int .i64 (bh)]] w fun e w' => e = .returned (.bool (withinB al ah bl bh)) ∧ Below w.heap.size w w' := by
  by_cases hv : (vB al ah && vB bl bh) = true
  · have HV := hide hv
    by_cases g1 : bl ≤ al
    · by_cases g2 : ah ≤ bh
      · have HR := hide (show withinB al ah bl bh = true by simp [withinB, g1, g2]; simpa using hv)
        clear hv
        go_enter Tryd.func36, Tryd.ntmps36
        go_wp2_with (go_at_call 53; refine (invalid2 al ah bl bh _ _ _ h0 h1 (by go_simp) (by go_simp) (by go_simp) (by go_simp) (by go_simp) false (by simpa using HV.out)).mono ?_; rintro e w1 ⟨rfl, hb1⟩; obtain ⟨hc1, hf1⟩ := bcell hb1; have hz1 := hb1.size; try simp only [World.size_alloc] at hz1)
        go_ret
        exact ⟨by rw [HR.out]; first | rfl | (simp; omega), (by repeat (first | with_reducible exact Below.refl _ _ | with_reducible refine bdrew ?_ | ((with_reducible first | refine bset ?_ ?_ | refine ball ?_ ?_ | refine bth (by assumption) ?_ ?_); first | omega | (simp <;> omega))))⟩
      · have HR := hide (show withinB al ah bl bh = false by simp [withinB, g1, g2])
        clear hv
        go_enter Tryd.func36, Tryd.ntmps36
        go_wp2_with (go_at_call 53; refine (invalid2 al ah bl bh _ _ _ h0 h1 (by go_simp) (by go_simp) (by go_simp) (by go_simp) (by go_simp) false (by simpa using HV.out)).mono ?_; rintro e w1 ⟨rfl, hb1⟩; obtain ⟨hc1, hf1⟩ := bcell hb1; have hz1 := hb1.size; try simp only [World.size_alloc] at hz1)
        go_ret
        exact ⟨by rw [HR.out]; first | rfl | (simp; omega), (by repeat (first | with_reducible exact Below.refl _ _ | with_reducible refine bdrew ?_ | ((with_reducible first | refine bset ?_ ?_ | refine ball ?_ ?_ | refine bth (by assumption) ?_ ?_); first | omega | (simp <;> omega))))⟩
    · have HR := hide (show withinB al ah bl bh = false by simp [withinB, g1])
      have g1' : al < bl := by omega
      clear hv g1
      go_enter Tryd.func36, Tryd.ntmps36
      go_wp2_with (go_at_call 53; refine (invalid2 al ah bl bh _ _ _ h0 h1 (by go_simp) (by go_simp) (by go_simp) (by go_simp) (by go_simp) false (by simpa using HV.out)).mono ?_; rintro e w1 ⟨rfl, hb1⟩; obtain ⟨hc1, hf1⟩ := bcell hb1; have hz1 := hb1.size; try simp only [World.size_alloc] at hz1)
      go_ret
      exact ⟨by rw [HR.out]; first | rfl | (simp; omega), (by repeat (first | with_reducible exact Below.refl _ _ | with_reducible refine bdrew ?_ | ((with_reducible first | refine bset ?_ ?_ | refine ball ?_ ?_ | refine bth (by assumption) ?_ ?_); first | omega | (simp <;> omega))))⟩
  · have hv : (vB al ah && vB bl bh) = false := by simpa using hv
    have HV := hide hv
    have HR := hide (show withinB al ah bl bh = false by simp [withinB, hv])
    clear hv
    go_enter Tryd.func36, Tryd.ntmps36
    go_wp2_with (go_at_call 53; refine (invalid2 al ah bl bh _ _ _ h0 h1 (by go_simp) (by go_simp) (by go_simp) (by go_simp) (by go_simp) true (by simpa using HV.out)).mono ?_; rintro e w1 ⟨rfl, hb1⟩; obtain ⟨hc1, hf1⟩ := bcell hb1; have hz1 := hb1.size; try simp only [World.size_alloc] at hz1)
    go_ret
    exact ⟨by rw [HR.out]; rfl, (by repeat (first | with_reducible exact Below.refl _ _ | with_reducible refine bdrew ?_ | ((with_reducible first | refine bset ?_ ?_ | refine ball ?_ ?_ | refine bth (by assumption) ?_ ?_); first | omega | (simp <;> omega))))⟩

end Go.Proofs.YtlcbcanlehackaaDoor
