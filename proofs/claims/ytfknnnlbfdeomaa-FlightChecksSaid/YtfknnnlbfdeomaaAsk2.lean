/- The questions of layer 1, the document's side and the program's: Within, Sign, Order; Number, Check, both, In. -/
import Derived.Test.YtfknnnlbfdeomaaAsk
set_option linter.unusedVariables false
set_option linter.unusedSimpArgs false
namespace Go.Proofs.Ytfknnnlbfdeomaa
open Go.RowKit

theorem rnumber (n : Int) (r : Bool) (hr : decide (-9223372036854775807 ≤ n) = r) (w : World) :
    Calls Try.prog 31 #[.int .i64 n] w fun e w' => e = .returned (.bool r) ∧ Below w.heap.size w w' := by
  have HR := hide hr
  clear hr
  go_enter Try.func31, Try.ntmps31
  go_wp2
  go_ret
  exact ⟨by rw [← HR.out]; rfl, (by repeat (first | with_reducible exact Below.refl _ _ | with_reducible refine bdrew ?_ | ((with_reducible first | refine bset ?_ ?_ | refine ball ?_ ?_ | refine bth (by assumption) ?_ ?_); first | omega | (simp <;> omega))))⟩

theorem rcheck (lo hi : Int) (r : Int) (hr : chkI lo hi = r) (w : World) :
    Calls Try.prog 50 #[.agg #[.int .i64 (lo), .int .i64 (hi)]] w fun e w' => e = .returned (.int .i64 r) ∧ Below w.heap.size w w' := by
  subst hr
  by_cases g1 : -9223372036854775807 ≤ lo
  · by_cases g2 : hi < -9223372036854775807
    · have HR := hide (show chkI lo hi = 2 by rw [chkI, vB_f (by omega)]; rfl)
      go_enter Try.func50, Try.ntmps50
      go_wp2_with fail; refine (rnumber lo true (by simpa using g1) _).mono ?_; rintro e w1 ⟨rfl, hb1⟩; obtain ⟨hc1, hf1⟩ := bcell hb1; have hz1 := hb1.size; try simp only [World.size_alloc] at hz1
      go_wp2_with fail; refine (rnumber hi false (by simpa using g2) _).mono ?_; rintro e w1 ⟨rfl, hb2⟩; have hb3 := hb1.trans (hb2.mono hb1.size); clear hc1 hf1 hz1 hb1 hb2; have hb1 := hb3; clear hb3; obtain ⟨hc1, hf1⟩ := bcell hb1; have hz1 := hb1.size; try simp only [World.size_alloc] at hz1
      go_wp2
      go_ret
      exact ⟨by rw [HR.out]; rfl, (by repeat (first | with_reducible exact Below.refl _ _ | with_reducible refine bdrew ?_ | ((with_reducible first | refine bset ?_ ?_ | refine ball ?_ ?_ | refine bth (by assumption) ?_ ?_); first | omega | (simp <;> omega))))⟩
    · by_cases g3 : hi < lo
      · have HR := hide (show chkI lo hi = 2 by rw [chkI, vB_f (by omega)]; rfl)
        go_enter Try.func50, Try.ntmps50
        go_wp2_with fail; refine (rnumber lo true (by simpa using g1) _).mono ?_; rintro e w1 ⟨rfl, hb1⟩; obtain ⟨hc1, hf1⟩ := bcell hb1; have hz1 := hb1.size; try simp only [World.size_alloc] at hz1
        go_wp2_with fail; refine (rnumber hi true (by simp; omega) _).mono ?_; rintro e w1 ⟨rfl, hb2⟩; have hb3 := hb1.trans (hb2.mono hb1.size); clear hc1 hf1 hz1 hb1 hb2; have hb1 := hb3; clear hb3; obtain ⟨hc1, hf1⟩ := bcell hb1; have hz1 := hb1.size; try simp only [World.size_alloc] at hz1
        go_wp2
        go_ret
        exact ⟨by rw [HR.out]; rfl, (by repeat (first | with_reducible exact Below.refl _ _ | with_reducible refine bdrew ?_ | ((with_reducible first | refine bset ?_ ?_ | refine ball ?_ ?_ | refine bth (by assumption) ?_ ?_); first | omega | (simp <;> omega))))⟩
      · have HR := hide (show chkI lo hi = 0 by rw [chkI, vB_t (by omega) (by omega)]; rfl)
        go_enter Try.func50, Try.ntmps50
        go_wp2_with fail; refine (rnumber lo true (by simpa using g1) _).mono ?_; rintro e w1 ⟨rfl, hb1⟩; obtain ⟨hc1, hf1⟩ := bcell hb1; have hz1 := hb1.size; try simp only [World.size_alloc] at hz1
        go_wp2_with fail; refine (rnumber hi true (by simp; omega) _).mono ?_; rintro e w1 ⟨rfl, hb2⟩; have hb3 := hb1.trans (hb2.mono hb1.size); clear hc1 hf1 hz1 hb1 hb2; have hb1 := hb3; clear hb3; obtain ⟨hc1, hf1⟩ := bcell hb1; have hz1 := hb1.size; try simp only [World.size_alloc] at hz1
        go_wp2
        go_ret
        exact ⟨by rw [HR.out]; rfl, (by repeat (first | with_reducible exact Below.refl _ _ | with_reducible refine bdrew ?_ | ((with_reducible first | refine bset ?_ ?_ | refine ball ?_ ?_ | refine bth (by assumption) ?_ ?_); first | omega | (simp <;> omega))))⟩
  · have HR := hide (show chkI lo hi = 2 by rw [chkI, vB_f (by omega)]; rfl)
    go_enter Try.func50, Try.ntmps50
    go_wp2_with fail; refine (rnumber lo false (by simp; omega) _).mono ?_; rintro e w1 ⟨rfl, hb1⟩; obtain ⟨hc1, hf1⟩ := bcell hb1; have hz1 := hb1.size; try simp only [World.size_alloc] at hz1
    go_wp2_with fail; refine (rnumber hi _ rfl _).mono ?_; rintro e w1 ⟨rfl, hb2⟩; have hb3 := hb1.trans (hb2.mono hb1.size); clear hc1 hf1 hz1 hb1 hb2; have hb1 := hb3; clear hb3; obtain ⟨hc1, hf1⟩ := bcell hb1; have hz1 := hb1.size; try simp only [World.size_alloc] at hz1
    go_wp2
    go_ret
    exact ⟨by rw [HR.out]; rfl, (by repeat (first | with_reducible exact Below.refl _ _ | with_reducible refine bdrew ?_ | ((with_reducible first | refine bset ?_ ?_ | refine ball ?_ ?_ | refine bth (by assumption) ?_ ?_); first | omega | (simp <;> omega))))⟩
/-- The error of two spans. -/
theorem rboth_aux (al ah bl bh x y r : Int) (hx : chkI al ah = x) (hy : chkI bl bh = y) (hm : (if x < y then y else x) = r) (w : World) :
    Calls Try.prog 53 #[.agg #[.int .i64 (al), .int .i64 (ah)], .agg #[.int .i64 (bl), .int .i64 (bh)]] w fun e w' => e = .returned (.int .i64 r) ∧ Below w.heap.size w w' := by
  have HX := hide hx
  have HY := hide hy
  clear hx hy
  go_enter Try.func53, Try.ntmps53
  go_wp2_with fail
  refine QT.quiet_b (by kernel_rfl) (by kernel_rfl) ?_
  repeat (first
    | go_big_quiet_skip
    | (go_big_quiet_want; go_big_quiet_op; first
      | go_big_quiet_on
      | (apply Exists.intro
         refine ⟨fun _ => ?_, ?_⟩
         · first
             | rfl
             | (intro hC; obtain ⟨hcq, hfq⟩ := bcellB hC; go_simp; done)
             | (intro hC; obtain ⟨hcq, hfq⟩ := bcellB hC; go_simp; rfl)
             | (intro hC; have hcq := bcellG hC; go_simp; done)
             | (intro hC; have hcq := bcellG hC; go_simp; rfl)
             | (intro hC; go_at_call 50; (first | (with_reducible refine (rcheck al ah x HX.out _).mono ?_) | (with_reducible refine (rcheck bl bh y HY.out _).mono ?_)); (intro e w2 hw; exact ⟨hw.1, qtrans (by simp) hC hw.2⟩))
         go_big_quiet_on)))
  refine wpQuiet_nil ?_
  intro w9 hC9
  obtain ⟨hc9, hf9⟩ := bcellB hC9
  have hz9 := hC9.size
  go_wp2
  go_ret
  exact ⟨rfl, (by repeat (first | with_reducible exact Below.refl _ _ | with_reducible refine bdrew ?_ | ((with_reducible first | refine bset ?_ ?_ | refine ball ?_ ?_ | refine bth (by assumption) ?_ ?_); first | omega | (simp <;> omega))))⟩
theorem rboth (al ah bl bh : Int) (r : Int) (hr : (if vB al ah && vB bl bh then 0 else 2) = r) (w : World) :
    Calls Try.prog 53 #[.agg #[.int .i64 (al), .int .i64 (ah)], .agg #[.int .i64 (bl), .int .i64 (bh)]] w fun e w' => e = .returned (.int .i64 r) ∧ Below w.heap.size w w' := by
  refine rboth_aux al ah bl bh _ _ r rfl rfl ?_ w
  subst hr
  unfold chkI
  cases vB al ah <;> cases vB bl bh <;> simp

theorem within_any (al ah bl bh : Int) (h0 : -9223372036854775808 ≤ al) (h1 : -9223372036854775808 ≤ bl) (w : World) :
    Calls Try.prog 22 #[.agg #[.int .i64 (al), .int .i64 (ah)], .agg #[.int .i64 (bl), .int .i64 (bh)]] w fun e w' => e = .returned (.bool (withinB al ah bl bh)) ∧ Below w.heap.size w w' := by
  by_cases hv : (vB al ah && vB bl bh) = true
  · have HV := hide hv
    by_cases g1 : bl ≤ al
    · by_cases g2 : ah ≤ bh
      · have HR := hide (show withinB al ah bl bh = true by simp [withinB, g1, g2]; simpa using hv)
        clear hv
        go_enter Try.func22, Try.ntmps22
        go_wp2_with (go_at_call 48; refine (invalid2 al ah bl bh _ _ _ h0 h1 (by go_simp) (by go_simp) (by go_simp) (by go_simp) (by go_simp) false (by simpa using HV.out)).mono ?_; rintro e w1 ⟨rfl, hb1⟩; obtain ⟨hc1, hf1⟩ := bcell hb1; have hz1 := hb1.size; try simp only [World.size_alloc] at hz1)
        go_ret
        exact ⟨by rw [HR.out]; first | rfl | (simp; omega), (by repeat (first | with_reducible exact Below.refl _ _ | with_reducible refine bdrew ?_ | ((with_reducible first | refine bset ?_ ?_ | refine ball ?_ ?_ | refine bth (by assumption) ?_ ?_); first | omega | (simp <;> omega))))⟩
      · have HR := hide (show withinB al ah bl bh = false by simp [withinB, g1, g2])
        clear hv
        go_enter Try.func22, Try.ntmps22
        go_wp2_with (go_at_call 48; refine (invalid2 al ah bl bh _ _ _ h0 h1 (by go_simp) (by go_simp) (by go_simp) (by go_simp) (by go_simp) false (by simpa using HV.out)).mono ?_; rintro e w1 ⟨rfl, hb1⟩; obtain ⟨hc1, hf1⟩ := bcell hb1; have hz1 := hb1.size; try simp only [World.size_alloc] at hz1)
        go_ret
        exact ⟨by rw [HR.out]; first | rfl | (simp; omega), (by repeat (first | with_reducible exact Below.refl _ _ | with_reducible refine bdrew ?_ | ((with_reducible first | refine bset ?_ ?_ | refine ball ?_ ?_ | refine bth (by assumption) ?_ ?_); first | omega | (simp <;> omega))))⟩
    · have HR := hide (show withinB al ah bl bh = false by simp [withinB, g1])
      have g1' : al < bl := by omega
      clear hv g1
      go_enter Try.func22, Try.ntmps22
      go_wp2_with (go_at_call 48; refine (invalid2 al ah bl bh _ _ _ h0 h1 (by go_simp) (by go_simp) (by go_simp) (by go_simp) (by go_simp) false (by simpa using HV.out)).mono ?_; rintro e w1 ⟨rfl, hb1⟩; obtain ⟨hc1, hf1⟩ := bcell hb1; have hz1 := hb1.size; try simp only [World.size_alloc] at hz1)
      go_ret
      exact ⟨by rw [HR.out]; first | rfl | (simp; omega), (by repeat (first | with_reducible exact Below.refl _ _ | with_reducible refine bdrew ?_ | ((with_reducible first | refine bset ?_ ?_ | refine ball ?_ ?_ | refine bth (by assumption) ?_ ?_); first | omega | (simp <;> omega))))⟩
  · have hv : (vB al ah && vB bl bh) = false := by simpa using hv
    have HV := hide hv
    have HR := hide (show withinB al ah bl bh = false by simp [withinB, hv])
    clear hv
    go_enter Try.func22, Try.ntmps22
    go_wp2_with (go_at_call 48; refine (invalid2 al ah bl bh _ _ _ h0 h1 (by go_simp) (by go_simp) (by go_simp) (by go_simp) (by go_simp) true (by simpa using HV.out)).mono ?_; rintro e w1 ⟨rfl, hb1⟩; obtain ⟨hc1, hf1⟩ := bcell hb1; have hz1 := hb1.size; try simp only [World.size_alloc] at hz1)
    go_ret
    exact ⟨by rw [HR.out]; rfl, (by repeat (first | with_reducible exact Below.refl _ _ | with_reducible refine bdrew ?_ | ((with_reducible first | refine bset ?_ ?_ | refine ball ?_ ?_ | refine bth (by assumption) ?_ ?_); first | omega | (simp <;> omega))))⟩

theorem rwithin_any (al ah bl bh : Int) (w : World) :
    Calls Try.prog 33 #[.agg #[.int .i64 (al), .int .i64 (ah)], .agg #[.int .i64 (bl), .int .i64 (bh)]] w fun e w' => e = .returned (.bool (withinB al ah bl bh)) ∧ Below w.heap.size w w' := by
  by_cases hv : (vB al ah && vB bl bh) = true
  · have HV := hide (show (if vB al ah && vB bl bh then (0 : Int) else 2) = 0 by rw [if_pos hv])
    by_cases g1 : bl ≤ al
    · by_cases g2 : ah ≤ bh
      · have HR := hide (show withinB al ah bl bh = true by simp [withinB, g1, g2]; simpa using hv)
        clear hv
        go_enter Try.func33, Try.ntmps33
        go_wp2_with fail; refine (rboth al ah bl bh 0 HV.out _).mono ?_; rintro e w1 ⟨rfl, hb1⟩; obtain ⟨hc1, hf1⟩ := bcell hb1; have hz1 := hb1.size; try simp only [World.size_alloc] at hz1
        go_wp2
        go_ret
        exact ⟨by rw [HR.out]; first | rfl | (simp; omega), (by repeat (first | with_reducible exact Below.refl _ _ | with_reducible refine bdrew ?_ | ((with_reducible first | refine bset ?_ ?_ | refine ball ?_ ?_ | refine bth (by assumption) ?_ ?_); first | omega | (simp <;> omega))))⟩
      · have HR := hide (show withinB al ah bl bh = false by simp [withinB, g1, g2])
        clear hv
        go_enter Try.func33, Try.ntmps33
        go_wp2_with fail; refine (rboth al ah bl bh 0 HV.out _).mono ?_; rintro e w1 ⟨rfl, hb1⟩; obtain ⟨hc1, hf1⟩ := bcell hb1; have hz1 := hb1.size; try simp only [World.size_alloc] at hz1
        go_wp2
        go_ret
        exact ⟨by rw [HR.out]; first | rfl | (simp; omega), (by repeat (first | with_reducible exact Below.refl _ _ | with_reducible refine bdrew ?_ | ((with_reducible first | refine bset ?_ ?_ | refine ball ?_ ?_ | refine bth (by assumption) ?_ ?_); first | omega | (simp <;> omega))))⟩
    · have HR := hide (show withinB al ah bl bh = false by simp [withinB, g1])
      have g1' : al < bl := by omega
      clear hv g1
      go_enter Try.func33, Try.ntmps33
      go_wp2_with fail; refine (rboth al ah bl bh 0 HV.out _).mono ?_; rintro e w1 ⟨rfl, hb1⟩; obtain ⟨hc1, hf1⟩ := bcell hb1; have hz1 := hb1.size; try simp only [World.size_alloc] at hz1
      go_wp2
      go_ret
      exact ⟨by rw [HR.out]; first | rfl | (simp; omega), (by repeat (first | with_reducible exact Below.refl _ _ | with_reducible refine bdrew ?_ | ((with_reducible first | refine bset ?_ ?_ | refine ball ?_ ?_ | refine bth (by assumption) ?_ ?_); first | omega | (simp <;> omega))))⟩
  · have HV := hide (show (if vB al ah && vB bl bh then (0 : Int) else 2) = 2 by rw [if_neg hv])
    have hv : (vB al ah && vB bl bh) = false := by simpa using hv
    have HR := hide (show withinB al ah bl bh = false by simp [withinB, hv])
    clear hv
    go_enter Try.func33, Try.ntmps33
    go_wp2_with fail; refine (rboth al ah bl bh 2 HV.out _).mono ?_; rintro e w1 ⟨rfl, hb1⟩; obtain ⟨hc1, hf1⟩ := bcell hb1; have hz1 := hb1.size; try simp only [World.size_alloc] at hz1
    go_wp2
    go_ret
    exact ⟨by rw [HR.out]; rfl, (by repeat (first | with_reducible exact Below.refl _ _ | with_reducible refine bdrew ?_ | ((with_reducible first | refine bset ?_ ?_ | refine ball ?_ ?_ | refine bth (by assumption) ?_ ?_); first | omega | (simp <;> omega))))⟩

end Go.Proofs.Ytfknnnlbfdeomaa
