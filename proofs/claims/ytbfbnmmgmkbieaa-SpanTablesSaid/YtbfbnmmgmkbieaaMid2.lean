/- Middles, halves and widths, and 'same': the document's, and the law's own. -/
import Derived.Test.YtbfbnmmgmkbieaaMid
import Derived.Test.YtbfbnmmgmkbieaaQF
set_option linter.unusedVariables false
set_option linter.unusedSimpArgs false
namespace Go.Proofs.Ytbfbnmmgmkbieaa
open Go.RowKit
theorem rmid_any (al ah : Int) (i0 : I64 al) (i1 : I64 ah) (w : World) :
    Calls Try.prog 50 #[.agg #[.int .i64 (al), .int .i64 (ah)]] w fun e w' => e = .returned (.tuple #[.int .i64 (okI (vB al ah) (midI al ah)), .int .i64 (errE (vB al ah) 0)]) ∧ Below w.heap.size w w' := by
  have M := mid_bits al ah i0 i1
  cases hv : vB al ah
  · rw [ok_f, err_f]
    have HV := hide (show chkI al ah = 2 by simp [chkI, hv])
    clear hv i0 i1 M
    go_enter Try.func50, Try.ntmps50
    go_wp2_with fail
    refine (rcheck al ah 2 HV.out _).mono ?_
    rintro e w1 ⟨rfl, hb1⟩
    obtain ⟨hc1, hf1⟩ := bcell hb1
    have hz1 := hb1.size
    try simp only [World.size_alloc, World.size_setCell] at hz1
    try have : w.heap.size < w1.heap.size := by omega
    try have : w.heap.size ≤ w1.heap.size := by omega
    go_wp2
    go_ret2
    exact ⟨rfl, (by repeat (first | with_reducible exact Below.refl _ _ | with_reducible refine bdrew ?_ | ((with_reducible first | refine bset ?_ ?_ | refine ball ?_ ?_ | refine bth (by assumption) ?_ ?_); first | omega | (simp <;> omega))))⟩
  · rw [ok_t, err_t]
    have HV := hide (show chkI al ah = 0 by simp [chkI, hv])
    have e1 := w64L M.2
    have HM := hide (show midI al ah = (al + ah) / 2 from rfl)
    have HI0 := hide i0
    have HI1 := hide i1
    clear hv M i0 i1
    go_enter Try.func50, Try.ntmps50
    go_wp2_with fail
    refine (rcheck al ah 0 HV.out _).mono ?_
    rintro e w1 ⟨rfl, hb1⟩
    obtain ⟨hc1, hf1⟩ := bcell hb1
    have hz1 := hb1.size
    try simp only [World.size_alloc, World.size_setCell] at hz1
    try have : w.heap.size < w1.heap.size := by omega
    try have : w.heap.size ≤ w1.heap.size := by omega
    go_wp2_with fail
    refine QF.region_float_ex 9 20 (QF.FD _ _ (.int .i64 0) (.int .u64 0)) _ (by kernel_rfl) (by kernel_rfl) rfl rfl rfl (show Below _ _ _ from (hb1).drew) ?_
    apply Exists.intro
    refine ⟨fun j => ?h1, ?hf, ?ht⟩
    case h1 =>
      simp only [List.take_succ_cons, List.take_zero, List.drop_succ_cons, List.drop_zero]
      repeat (first
        | go_big_quiet_skip
        | (go_big_quiet_want; go_big_quiet_op; first
          | go_big_quiet_on
          | (apply Exists.intro
             refine ⟨fun _ => ?_, ?_⟩
             · first
                 | rfl
                 | (intro hC; obtain ⟨hcq, hfq⟩ := bcellB (QF.FD.below hC); go_simp; done)
                 | (intro hC; obtain ⟨hcq, hfq⟩ := bcellB (QF.FD.below hC); go_simp; rfl)
                 | (intro hC; go_at_call 85; (first | (with_reducible refine (rwide al HI0.out _).mono ?_) | (with_reducible refine (rwide ah HI1.out _).mono ?_)); (intro e w2 hw; exact ⟨hw.1, QF.FD.call (by simp) hC hw.2⟩))
                 | (intro hC; go_at_call 84; (first | (with_reducible refine (rplus al ah (R127.of64 HI0.out) (R127.of64 HI1.out) (R127.add HI0.out HI1.out) _).mono ?_)); (intro e w2 hw; exact ⟨hw.1, QF.FD.call (by simp) hC hw.2⟩))
                 | (intro hC; go_at_call 77; (first | (with_reducible refine (rof 2 i64_2 _).mono ?_)); (intro e w2 hw; exact ⟨hw.1, QF.FD.call (by simp) hC hw.2⟩))
                 | (intro hC; go_at_call 102; (first | (with_reducible refine (rfloor (al + ah) 2 (add_bd HI0.out HI1.out) two_pos two_lt _).mono ?_)); (intro e w2 hw; exact ⟨hw.1, QF.FD.call (by simp) hC hw.2⟩))
             go_big_quiet_on)))
      exact wpQuiet_nil rfl
    case hf =>
      intro w8 hD8
      have hm8 := QF.FD.made (t := 77) (by simp) hD8
      go_simp
      simpa [QF.floatRes] using hm8
    case ht =>
      intro u9 w9 hD9
      simp only [List.drop_succ_cons, List.drop_zero]
      obtain ⟨hC9, p9, rfl, hp9, hq9, bc0, bc1, bf0, bf1⟩ := hD9
      obtain ⟨hc9, hf9⟩ := bcellB hC9
      have hz9 := hC9.size
      try simp only [World.size_alloc, World.size_setCell] at hz9 hp9
      try have hs9 : w.heap.size < p9 := by omega
      try have hs9' : w.heap.size ≤ p9 := by omega
      try have ht9 : w.heap.size < w9.heap.size := by omega
      go_wp2
      go_ret2
      exact ⟨congrArg (fun x => Ending.returned (.tuple #[.int .i64 x, .int .i64 0])) e1, (by repeat (first | with_reducible exact Below.refl _ _ | with_reducible refine bdrew ?_ | ((with_reducible first | refine bset ?_ ?_ | refine ball ?_ ?_ | refine bth (by assumption) ?_ ?_); first | omega | (simp <;> omega))))⟩
theorem split_any (al ah : Int) (i0 : I64 al) (i1 : I64 ah) (w : World) :
    Calls Try.prog 51 #[.agg #[.int .i64 (al), .int .i64 (ah)]] w fun e w' => e = .returned (.tuple #[.agg #[.int .i64 (okI (vB al ah) al), .int .i64 (okI (vB al ah) (midI al ah))], .agg #[.int .i64 (okI (vB al ah) (midI al ah)), .int .i64 (okI (vB al ah) ah)], .int .i64 (errE (vB al ah) 0)]) ∧ Below w.heap.size w w' := by
  have hm := mid_any al ah i0 i1
  cases hv : vB al ah
  · rw [hv] at hm
    simp only [ok_f, err_f] at hm ⊢
    have HM := hide hm
    clear hm hv i0 i1
    go_enter Try.func51, Try.ntmps51
    go_wp2_with fail
    refine (HM.out _).mono ?_
    rintro e w1 ⟨rfl, hb1⟩
    obtain ⟨hc1, hf1⟩ := bcell hb1
    have hz1 := hb1.size
    try simp only [World.size_alloc, World.size_setCell] at hz1
    try have : w.heap.size < w1.heap.size := by omega
    try have : w.heap.size ≤ w1.heap.size := by omega
    try have : w.heap.size + 1 < w1.heap.size := by omega
    try have : w.heap.size + 1 ≤ w1.heap.size := by omega
    try have : w.heap.size + 1 + 1 < w1.heap.size := by omega
    try have : w.heap.size + 1 + 1 ≤ w1.heap.size := by omega
    go_wp2
    refine bodyPost_ret (v := .tuple #[.agg #[.int .i64 (0), .int .i64 (0)], .agg #[.int .i64 (0), .int .i64 (0)], .int .i64 2]) (by simp only [results, Try.results51]; go_simp) rfl ⟨rfl, (by repeat (first | with_reducible exact Below.refl _ _ | with_reducible refine bdrew ?_ | ((with_reducible first | refine bset ?_ ?_ | refine ball ?_ ?_ | refine bth (by assumption) ?_ ?_); first | omega | (simp <;> omega))))⟩
  · rw [hv] at hm
    simp only [ok_t, err_t] at hm ⊢
    have HM := hide hm
    clear hm hv i0 i1
    go_enter Try.func51, Try.ntmps51
    go_wp2_with fail
    refine (HM.out _).mono ?_
    rintro e w1 ⟨rfl, hb1⟩
    obtain ⟨hc1, hf1⟩ := bcell hb1
    have hz1 := hb1.size
    try simp only [World.size_alloc, World.size_setCell] at hz1
    try have : w.heap.size < w1.heap.size := by omega
    try have : w.heap.size ≤ w1.heap.size := by omega
    try have : w.heap.size + 1 < w1.heap.size := by omega
    try have : w.heap.size + 1 ≤ w1.heap.size := by omega
    try have : w.heap.size + 1 + 1 < w1.heap.size := by omega
    try have : w.heap.size + 1 + 1 ≤ w1.heap.size := by omega
    go_wp2_with fail
    go_region
    all_goals go_wp2
    all_goals refine bodyPost_ret (v := .tuple #[.agg #[.int .i64 (al), .int .i64 (midI al ah)], .agg #[.int .i64 (midI al ah), .int .i64 (ah)], .int .i64 0]) (by simp only [results, Try.results51]; go_simp) rfl ⟨rfl, (by repeat (first | with_reducible exact Below.refl _ _ | with_reducible refine bdrew ?_ | ((with_reducible first | refine bset ?_ ?_ | refine ball ?_ ?_ | refine bth (by assumption) ?_ ?_); first | omega | (simp <;> omega))))⟩
theorem rsplit_any (al ah : Int) (i0 : I64 al) (i1 : I64 ah) (w : World) :
    Calls Try.prog 52 #[.agg #[.int .i64 (al), .int .i64 (ah)]] w fun e w' => e = .returned (.tuple #[.agg #[.int .i64 (okI (vB al ah) al), .int .i64 (okI (vB al ah) (midI al ah))], .agg #[.int .i64 (okI (vB al ah) (midI al ah)), .int .i64 (okI (vB al ah) ah)], .int .i64 (errE (vB al ah) 0)]) ∧ Below w.heap.size w w' := by
  have hm := rmid_any al ah i0 i1
  cases hv : vB al ah
  · rw [hv] at hm
    simp only [ok_f, err_f] at hm ⊢
    have HM := hide hm
    clear hm hv i0 i1
    go_enter Try.func52, Try.ntmps52
    go_wp2_with fail
    refine (HM.out _).mono ?_
    rintro e w1 ⟨rfl, hb1⟩
    obtain ⟨hc1, hf1⟩ := bcell hb1
    have hz1 := hb1.size
    try simp only [World.size_alloc, World.size_setCell] at hz1
    try have : w.heap.size < w1.heap.size := by omega
    try have : w.heap.size ≤ w1.heap.size := by omega
    try have : w.heap.size + 1 < w1.heap.size := by omega
    try have : w.heap.size + 1 ≤ w1.heap.size := by omega
    try have : w.heap.size + 1 + 1 < w1.heap.size := by omega
    try have : w.heap.size + 1 + 1 ≤ w1.heap.size := by omega
    go_wp2
    refine bodyPost_ret (v := .tuple #[.agg #[.int .i64 (0), .int .i64 (0)], .agg #[.int .i64 (0), .int .i64 (0)], .int .i64 2]) (by simp only [results, Try.results52]; go_simp) rfl ⟨rfl, (by repeat (first | with_reducible exact Below.refl _ _ | with_reducible refine bdrew ?_ | ((with_reducible first | refine bset ?_ ?_ | refine ball ?_ ?_ | refine bth (by assumption) ?_ ?_); first | omega | (simp <;> omega))))⟩
  · rw [hv] at hm
    simp only [ok_t, err_t] at hm ⊢
    have HM := hide hm
    clear hm hv i0 i1
    go_enter Try.func52, Try.ntmps52
    go_wp2_with fail
    refine (HM.out _).mono ?_
    rintro e w1 ⟨rfl, hb1⟩
    obtain ⟨hc1, hf1⟩ := bcell hb1
    have hz1 := hb1.size
    try simp only [World.size_alloc, World.size_setCell] at hz1
    try have : w.heap.size < w1.heap.size := by omega
    try have : w.heap.size ≤ w1.heap.size := by omega
    try have : w.heap.size + 1 < w1.heap.size := by omega
    try have : w.heap.size + 1 ≤ w1.heap.size := by omega
    try have : w.heap.size + 1 + 1 < w1.heap.size := by omega
    try have : w.heap.size + 1 + 1 ≤ w1.heap.size := by omega
    go_wp2_with fail
    go_region
    all_goals go_wp2
    all_goals refine bodyPost_ret (v := .tuple #[.agg #[.int .i64 (al), .int .i64 (midI al ah)], .agg #[.int .i64 (midI al ah), .int .i64 (ah)], .int .i64 0]) (by simp only [results, Try.results52]; go_simp) rfl ⟨rfl, (by repeat (first | with_reducible exact Below.refl _ _ | with_reducible refine bdrew ?_ | ((with_reducible first | refine bset ?_ ?_ | refine ball ?_ ?_ | refine bth (by assumption) ?_ ?_); first | omega | (simp <;> omega))))⟩
/-- The width, if it is a number. -/
def wdB (lo hi : Int) : Bool := decide (hi - lo ≤ 9223372036854775807)
def wdI (lo hi : Int) : Int := if wdB lo hi then hi - lo else 0
def wdE (lo hi : Int) : Int := if wdB lo hi then 0 else 4
theorem wd_any (al ah : Int) (i0 : I64 al) (i1 : I64 ah) (w : World) :
    Calls Try.prog 53 #[.agg #[.int .i64 (al), .int .i64 (ah)]] w fun e w' => e = .returned (.tuple #[.int .i64 (okI (vB al ah) (wdI al ah)), .int .i64 (errE (vB al ah) (wdE al ah))]) ∧ Below w.heap.size w w' := by
  have h0 := i0.1
  have b1 := i1.2
  cases hv : vB al ah
  · rw [ok_f, err_f]
    have HV := hide hv
    clear hv i0 i1
    go_enter Try.func53, Try.ntmps53
    go_wp2_with fail
    go_at_call 81
    refine (invalid1 al ah _ _ _ h0 (by go_simp) (by go_simp) (by go_simp) true (by simpa using HV.out)).mono ?_
    rintro e w1 ⟨rfl, hb1⟩
    obtain ⟨hc1, hf1⟩ := bcell hb1
    have hz1 := hb1.size
    try simp only [World.size_alloc, World.size_setCell] at hz1
    try have : w.heap.size < w1.heap.size := by omega
    try have : w.heap.size ≤ w1.heap.size := by omega
    try have : w.heap.size + 1 < w1.heap.size := by omega
    try have : w.heap.size + 1 ≤ w1.heap.size := by omega
    go_wp2
    go_ret2
    exact ⟨rfl, (by repeat (first | with_reducible exact Below.refl _ _ | with_reducible refine bdrew ?_ | ((with_reducible first | refine bset ?_ ?_ | refine ball ?_ ?_ | refine bth (by assumption) ?_ ?_); first | omega | (simp <;> omega))))⟩
  · rw [ok_t, err_t]
    have HV := hide hv
    obtain ⟨v1, v2⟩ := vB_tt hv
    have e1 : ah + -al = ah - al := by omega
    by_cases c : ah - al ≤ 9223372036854775807
    · have E := hide (show wdI al ah = ah - al ∧ wdE al ah = 0 by simp [wdI, wdE, wdB, c])
      have HP := hide (plus_yes ah (-al) ⟨by omega, by omega⟩)
      clear hv i0 i1 c
      go_enter Try.func53, Try.ntmps53
      go_wp2_with fail
      go_at_call 81
      refine (invalid1 al ah _ _ _ h0 (by go_simp) (by go_simp) (by go_simp) false (by simpa using HV.out)).mono ?_
      rintro e w1 ⟨rfl, hb1⟩
      obtain ⟨hc1, hf1⟩ := bcell hb1
      have hz1 := hb1.size
      try simp only [World.size_alloc, World.size_setCell] at hz1
      try have : w.heap.size < w1.heap.size := by omega
      try have : w.heap.size ≤ w1.heap.size := by omega
      try have : w.heap.size + 1 < w1.heap.size := by omega
      try have : w.heap.size + 1 ≤ w1.heap.size := by omega
      go_wp2_with fail
      refine (HP.out _).mono ?_
      rintro e w2 ⟨rfl, hb2⟩
      obtain ⟨hc2, hf2⟩ := bcell hb2
      have hz2 := hb2.size
      try simp only [World.size_alloc, World.size_setCell] at hz2
      try have : w.heap.size < w2.heap.size := by omega
      try have : w.heap.size ≤ w2.heap.size := by omega
      try have : w.heap.size + 1 < w2.heap.size := by omega
      try have : w.heap.size + 1 ≤ w2.heap.size := by omega
      try have : w1.heap.size < w2.heap.size := by omega
      try have : w1.heap.size ≤ w2.heap.size := by omega
      go_wp2
      go_ret2
      exact ⟨by rw [E.out.1, E.out.2]; rfl, (by repeat (first | with_reducible exact Below.refl _ _ | with_reducible refine bdrew ?_ | ((with_reducible first | refine bset ?_ ?_ | refine ball ?_ ?_ | refine bth (by assumption) ?_ ?_); first | omega | (simp <;> omega))))⟩
    · have E := hide (show wdI al ah = 0 ∧ wdE al ah = 4 by simp [wdI, wdE, wdB, c])
      have HP := hide (plus_no ah (-al) i1 (I64.neg v1 (by omega)) (by omega))
      clear hv i0 i1 c
      go_enter Try.func53, Try.ntmps53
      go_wp2_with fail
      go_at_call 81
      refine (invalid1 al ah _ _ _ h0 (by go_simp) (by go_simp) (by go_simp) false (by simpa using HV.out)).mono ?_
      rintro e w1 ⟨rfl, hb1⟩
      obtain ⟨hc1, hf1⟩ := bcell hb1
      have hz1 := hb1.size
      try simp only [World.size_alloc, World.size_setCell] at hz1
      try have : w.heap.size < w1.heap.size := by omega
      try have : w.heap.size ≤ w1.heap.size := by omega
      try have : w.heap.size + 1 < w1.heap.size := by omega
      try have : w.heap.size + 1 ≤ w1.heap.size := by omega
      go_wp2_with fail
      refine (HP.out _).mono ?_
      rintro e w2 ⟨rfl, hb2⟩
      obtain ⟨hc2, hf2⟩ := bcell hb2
      have hz2 := hb2.size
      try simp only [World.size_alloc, World.size_setCell] at hz2
      try have : w.heap.size < w2.heap.size := by omega
      try have : w.heap.size ≤ w2.heap.size := by omega
      try have : w.heap.size + 1 < w2.heap.size := by omega
      try have : w.heap.size + 1 ≤ w2.heap.size := by omega
      try have : w1.heap.size < w2.heap.size := by omega
      try have : w1.heap.size ≤ w2.heap.size := by omega
      go_wp2
      go_ret2
      exact ⟨by rw [E.out.1, E.out.2]; rfl, (by repeat (first | with_reducible exact Below.refl _ _ | with_reducible refine bdrew ?_ | ((with_reducible first | refine bset ?_ ?_ | refine ball ?_ ?_ | refine bth (by assumption) ?_ ?_); first | omega | (simp <;> omega))))⟩
theorem rwd_any (al ah : Int) (i0 : I64 al) (i1 : I64 ah) (w : World) :
    Calls Try.prog 54 #[.agg #[.int .i64 (al), .int .i64 (ah)]] w fun e w' => e = .returned (.tuple #[.int .i64 (okI (vB al ah) (wdI al ah)), .int .i64 (errE (vB al ah) (wdE al ah))]) ∧ Below w.heap.size w w' := by
  cases hv : vB al ah
  · rw [ok_f, err_f]
    have HV := hide (show chkI al ah = 2 by simp [chkI, hv])
    clear hv i0 i1
    go_enter Try.func54, Try.ntmps54
    go_wp2_with fail
    refine (rcheck al ah 2 HV.out _).mono ?_
    rintro e w1 ⟨rfl, hb1⟩
    obtain ⟨hc1, hf1⟩ := bcell hb1
    have hz1 := hb1.size
    try simp only [World.size_alloc, World.size_setCell] at hz1
    try have : w.heap.size < w1.heap.size := by omega
    try have : w.heap.size ≤ w1.heap.size := by omega
    go_wp2
    go_ret2
    exact ⟨rfl, (by repeat (first | with_reducible exact Below.refl _ _ | with_reducible refine bdrew ?_ | ((with_reducible first | refine bset ?_ ?_ | refine ball ?_ ?_ | refine bth (by assumption) ?_ ?_); first | omega | (simp <;> omega))))⟩
  · rw [ok_t, err_t]
    have HV := hide (show chkI al ah = 0 by simp [chkI, hv])
    obtain ⟨v1, v2⟩ := vB_tt hv
    have b1 := i1.2
    have HI0 := hide i0
    have HI1 := hide i1
    have HN : Hid (R126 al) := hide ⟨by have := i0.1; omega, by omega⟩
    have HN2 : Hid (R127 (-al)) := hide ⟨by omega, by omega⟩
    have HN3 : Hid (R127 (ah + -al)) := hide ⟨by omega, by omega⟩
    by_cases c : ah - al ≤ 9223372036854775807
    · have E := hide (show wdI al ah = ah - al ∧ wdE al ah = 0 by simp [wdI, wdE, wdB, c])
      have E2 : Hid (wrap64 (wL (ah + -al)) = ah - al) := hide (by rw [← show ah + -al = ah - al by omega]; exact w64L ⟨by omega, by omega⟩)
      have HC : Hid (decide (9223372036854775807 < ah + -al) = false) := hide (decide_eq_false (by omega))
      clear hv i0 i1 c
      go_enter Try.func54, Try.ntmps54
      go_wp2_with fail
      refine (rcheck al ah 0 HV.out _).mono ?_
      rintro e w1 ⟨rfl, hb1⟩
      obtain ⟨hc1, hf1⟩ := bcell hb1
      have hz1 := hb1.size
      try simp only [World.size_alloc, World.size_setCell] at hz1
      try have : w.heap.size < w1.heap.size := by omega
      try have : w.heap.size ≤ w1.heap.size := by omega
      go_wp2_with fail
      refine QF.region_float_ex 8 22 (QF.FD _ _ (.int .i64 0) (.int .u64 0)) _ (by kernel_rfl) (by kernel_rfl) rfl rfl rfl (show Below _ _ _ from (hb1).drew) ?_
      apply Exists.intro
      refine ⟨fun j => ?h1, ?hf, ?ht⟩
      case h1 =>
        simp only [List.take_succ_cons, List.take_zero, List.drop_succ_cons, List.drop_zero]
        repeat (first
          | go_big_quiet_skip
          | (go_big_quiet_want; go_big_quiet_op; first
            | go_big_quiet_on
            | (apply Exists.intro
               refine ⟨fun _ => ?_, ?_⟩
               · first
                   | rfl
                   | (intro hC; obtain ⟨hcq, hfq⟩ := bcellB (QF.FD.below hC); go_simp; done)
                   | (intro hC; obtain ⟨hcq, hfq⟩ := bcellB (QF.FD.below hC); go_simp; rfl)
                   | (intro hC; go_at_call 85; (first | (with_reducible refine (rwide al HI0.out _).mono ?_) | (with_reducible refine (rwide ah HI1.out _).mono ?_)); (intro e w2 hw; exact ⟨hw.1, QF.FD.call (by simp) hC hw.2⟩))
                   | (intro hC; go_at_call 95; (first | (with_reducible refine (rminus al HN.out _).mono ?_)); (intro e w2 hw; exact ⟨hw.1, QF.FD.call (by simp) hC hw.2⟩))
                   | (intro hC; go_at_call 84; (first | (with_reducible refine (rplus ah (-al) (R127.of64 HI1.out) HN2.out HN3.out _).mono ?_)); (intro e w2 hw; exact ⟨hw.1, QF.FD.call (by simp) hC hw.2⟩))
               go_big_quiet_on)))
        exact wpQuiet_nil rfl
      case hf =>
        intro w8 hD8
        have hm8 := QF.FD.made (t := 77) (by simp) hD8
        go_simp
        simpa [QF.floatRes] using hm8
      case ht =>
        intro u9 w9 hD9
        simp only [List.drop_succ_cons, List.drop_zero]
        obtain ⟨hC9, p9, rfl, hp9, hq9, bc0, bc1, bf0, bf1⟩ := hD9
        obtain ⟨hc9, hf9⟩ := bcellB hC9
        have hz9 := hC9.size
        try simp only [World.size_alloc, World.size_setCell] at hz9 hp9
        try have hs9 : w.heap.size < p9 := by omega
        try have hs9' : w.heap.size ≤ p9 := by omega
        try have ht9 : w.heap.size < w9.heap.size := by omega
        go_wp2_with fail
        have hb20 := hC9
        refine QT.quiet_b (by kernel_rfl) (by kernel_rfl) ?_
        repeat (first
          | go_big_quiet_skip
          | (go_big_quiet_want; go_big_quiet_op; first
            | go_big_quiet_on
            | (apply Exists.intro
               refine ⟨fun _ => ?_, ?_⟩
               · first
                   | rfl
                   | (intro hC; obtain ⟨hcq, hfq⟩ := bcellB hC; go_simp; done)
                   | (intro hC; obtain ⟨hcq, hfq⟩ := bcellB hC; go_simp; rfl)
                   | (intro hC; go_at_call 77; (first | (with_reducible refine (rof 9223372036854775807 i64_hi _).mono ?_)); (intro e w2 hw; exact ⟨hw.1, qtrans (by simp) hC hw.2⟩))
                   | (intro hC; go_at_call 89; (first | (with_reducible refine (rless_r 9223372036854775807 (ah + -al) false HC.out _).mono ?_)); (intro e w2 hw; exact ⟨hw.1, qtrans (by simp) hC hw.2⟩))
               go_big_quiet_on)))
        refine wpQuiet_nil ?_
        intro w9 hC9
        obtain ⟨hc9, hf9⟩ := bcellB hC9
        have hz9 := hC9.size
        go_wp2
        go_ret2
        exact ⟨by rw [E.out.1, E.out.2]; first | rfl | exact congrArg (fun x => Ending.returned (.tuple #[.int .i64 x, .int .i64 0])) E2.out | trace_state, (by repeat (first | with_reducible exact Below.refl _ _ | with_reducible refine bdrew ?_ | ((with_reducible first | refine bset ?_ ?_ | refine ball ?_ ?_ | refine bth (by assumption) ?_ ?_); first | omega | (simp <;> omega))))⟩
    · have E := hide (show wdI al ah = 0 ∧ wdE al ah = 4 by simp [wdI, wdE, wdB, c])
      have HC : Hid (decide (9223372036854775807 < ah + -al) = true) := hide (decide_eq_true (by omega))
      clear hv i0 i1 c
      go_enter Try.func54, Try.ntmps54
      go_wp2_with fail
      refine (rcheck al ah 0 HV.out _).mono ?_
      rintro e w1 ⟨rfl, hb1⟩
      obtain ⟨hc1, hf1⟩ := bcell hb1
      have hz1 := hb1.size
      try simp only [World.size_alloc, World.size_setCell] at hz1
      try have : w.heap.size < w1.heap.size := by omega
      try have : w.heap.size ≤ w1.heap.size := by omega
      go_wp2_with fail
      refine QF.region_float_ex 8 22 (QF.FD _ _ (.int .i64 0) (.int .u64 0)) _ (by kernel_rfl) (by kernel_rfl) rfl rfl rfl (show Below _ _ _ from (hb1).drew) ?_
      apply Exists.intro
      refine ⟨fun j => ?h1, ?hf, ?ht⟩
      case h1 =>
        simp only [List.take_succ_cons, List.take_zero, List.drop_succ_cons, List.drop_zero]
        repeat (first
          | go_big_quiet_skip
          | (go_big_quiet_want; go_big_quiet_op; first
            | go_big_quiet_on
            | (apply Exists.intro
               refine ⟨fun _ => ?_, ?_⟩
               · first
                   | rfl
                   | (intro hC; obtain ⟨hcq, hfq⟩ := bcellB (QF.FD.below hC); go_simp; done)
                   | (intro hC; obtain ⟨hcq, hfq⟩ := bcellB (QF.FD.below hC); go_simp; rfl)
                   | (intro hC; go_at_call 85; (first | (with_reducible refine (rwide al HI0.out _).mono ?_) | (with_reducible refine (rwide ah HI1.out _).mono ?_)); (intro e w2 hw; exact ⟨hw.1, QF.FD.call (by simp) hC hw.2⟩))
                   | (intro hC; go_at_call 95; (first | (with_reducible refine (rminus al HN.out _).mono ?_)); (intro e w2 hw; exact ⟨hw.1, QF.FD.call (by simp) hC hw.2⟩))
                   | (intro hC; go_at_call 84; (first | (with_reducible refine (rplus ah (-al) (R127.of64 HI1.out) HN2.out HN3.out _).mono ?_)); (intro e w2 hw; exact ⟨hw.1, QF.FD.call (by simp) hC hw.2⟩))
               go_big_quiet_on)))
        exact wpQuiet_nil rfl
      case hf =>
        intro w8 hD8
        have hm8 := QF.FD.made (t := 77) (by simp) hD8
        go_simp
        simpa [QF.floatRes] using hm8
      case ht =>
        intro u9 w9 hD9
        simp only [List.drop_succ_cons, List.drop_zero]
        obtain ⟨hC9, p9, rfl, hp9, hq9, bc0, bc1, bf0, bf1⟩ := hD9
        obtain ⟨hc9, hf9⟩ := bcellB hC9
        have hz9 := hC9.size
        try simp only [World.size_alloc, World.size_setCell] at hz9 hp9
        try have hs9 : w.heap.size < p9 := by omega
        try have hs9' : w.heap.size ≤ p9 := by omega
        try have ht9 : w.heap.size < w9.heap.size := by omega
        go_wp2_with fail
        have hb20 := hC9
        refine QT.quiet_b (by kernel_rfl) (by kernel_rfl) ?_
        repeat (first
          | go_big_quiet_skip
          | (go_big_quiet_want; go_big_quiet_op; first
            | go_big_quiet_on
            | (apply Exists.intro
               refine ⟨fun _ => ?_, ?_⟩
               · first
                   | rfl
                   | (intro hC; obtain ⟨hcq, hfq⟩ := bcellB hC; go_simp; done)
                   | (intro hC; obtain ⟨hcq, hfq⟩ := bcellB hC; go_simp; rfl)
                   | (intro hC; go_at_call 77; (first | (with_reducible refine (rof 9223372036854775807 i64_hi _).mono ?_)); (intro e w2 hw; exact ⟨hw.1, qtrans (by simp) hC hw.2⟩))
                   | (intro hC; go_at_call 89; (first | (with_reducible refine (rless_r 9223372036854775807 (ah + -al) true HC.out _).mono ?_)); (intro e w2 hw; exact ⟨hw.1, qtrans (by simp) hC hw.2⟩))
               go_big_quiet_on)))
        refine wpQuiet_nil ?_
        intro w9 hC9
        obtain ⟨hc9, hf9⟩ := bcellB hC9
        have hz9 := hC9.size
        go_wp2
        go_ret2
        exact ⟨by rw [E.out.1, E.out.2]; first | rfl | exact congrArg (fun x => Ending.returned (.tuple #[.int .i64 x, .int .i64 0])) E2.out | trace_state, (by repeat (first | with_reducible exact Below.refl _ _ | with_reducible refine bdrew ?_ | ((with_reducible first | refine bset ?_ ?_ | refine ball ?_ ?_ | refine bth (by assumption) ?_ ?_); first | omega | (simp <;> omega))))⟩
theorem same_any (x y e : Int) (w : World) :
    Calls Try.prog 20 #[.agg #[.int .i64 (x), .int .i64 (y)], .int .i64 e, .agg #[.int .i64 (x), .int .i64 (y)], .int .i64 e] w fun r w' => r = .returned (.bool true) ∧ Below w.heap.size w w' := by
  go_enter Try.func20, Try.ntmps20
  go_wp2
  go_ret
  exact ⟨rfl, (by repeat (first | with_reducible exact Below.refl _ _ | with_reducible refine bdrew ?_ | ((with_reducible first | refine bset ?_ ?_ | refine ball ?_ ?_ | refine bth (by assumption) ?_ ?_); first | omega | (simp <;> omega))))⟩
end Go.Proofs.Ytbfbnmmgmkbieaa
