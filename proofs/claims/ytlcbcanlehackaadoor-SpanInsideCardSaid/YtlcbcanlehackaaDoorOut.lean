/- What fits: the document's out; sums, negative numbers, differences, and spans that grow, on both sides. -/
import Derived.Test.YtlcbcanlehackaaDoorWide
import Derived.Test.YtlcbcanlehackaaDoorAsk2
set_option linter.unusedVariables false
set_option linter.unusedSimpArgs false
namespace Go.Proofs.YtlcbcanlehackaaDoor
open Go.RowKit
/-- Both are valid numbers of 64 bits. -/
def fits (lo hi : Int) : Bool := decide (-9223372036854775807 ≤ lo ∧ lo ≤ 9223372036854775807 ∧ -9223372036854775807 ≤ hi ∧ hi ≤ 9223372036854775807)
def oLo (lo hi : Int) : Int := if fits lo hi then lo else 0
def oHi (lo hi : Int) : Int := if fits lo hi then hi else 0
def oE (lo hi : Int) : Int := if fits lo hi then 0 else 4
def okI (v : Bool) (x : Int) : Int := if v then x else 0
def errE (v : Bool) (e : Int) : Int := if v then e else 2
theorem out_t {lo hi : Int} (h : fits lo hi = true) : oLo lo hi = lo ∧ oHi lo hi = hi ∧ oE lo hi = 0 := by simp [oLo, oHi, oE, h]
theorem out_f {lo hi : Int} (h : fits lo hi = false) : oLo lo hi = 0 ∧ oHi lo hi = 0 ∧ oE lo hi = 4 := by simp [oLo, oHi, oE, h]
theorem ok_t (x : Int) : okI true x = x := rfl
theorem ok_f (x : Int) : okI false x = 0 := rfl
theorem err_t (x : Int) : errE true x = x := rfl
theorem err_f (x : Int) : errE false x = 2 := rfl

theorem i64_lo : I64 (-9223372036854775807) := by constructor <;> omega
theorem i64_hi : I64 9223372036854775807 := by constructor <;> omega
theorem rless_r (x y : Int) (r : Bool) (hr : decide (x < y) = r) (w : World) :
    Calls Tryd.prog 27 #[.agg #[.int .i64 (wH (x)), .int .u64 (wL (x))], .agg #[.int .i64 (wH (y)), .int .u64 (wL (y))]] w fun e w' => e = .returned (.bool r) ∧ Below w.heap.size w w' := by
  subst hr; exact rless x y w
theorem w64L {x : Int} (h : I64 x) : wrap64 (wL x) = x := by obtain ⟨_, _⟩ := h; unfold wrap64 wL; omega

theorem rout (lo hi : Int) (w : World) :
    Calls Tryd.prog 45 #[.agg #[.int .i64 (wH (lo)), .int .u64 (wL (lo))], .agg #[.int .i64 (wH (hi)), .int .u64 (wL (hi))]] w fun e w' => e = .returned (.tuple #[.agg #[.int .i64 (oLo lo hi), .int .i64 (oHi lo hi)], .int .i64 (oE lo hi)]) ∧ Below w.heap.size w w' := by
  by_cases c1 : lo < -9223372036854775807
  · have E := hide (out_f (lo := lo) (hi := hi) (decide_eq_false (by omega)))
    have k1 : decide (lo < -9223372036854775807) = true := decide_eq_true c1
    go_enter Tryd.func45, Tryd.ntmps45
    go_wp2_with fail
    refine QT.quiet_b (by kernel_rfl) (by kernel_rfl) ?_
    repeat (first
      | go_big_quiet_skip
      | (go_big_quiet_want; go_big_quiet_op; first
        | go_big_quiet_on
        | (apply Exists.intro
           refine ⟨fun _ => ?_, ?_⟩
           · first
               | rfl
               | (intro hC; obtain ⟨hcq, hfq⟩ := bcellB hC; go_simp; done)
               | (intro hC; obtain ⟨hcq, hfq⟩ := bcellB hC; go_simp; rfl)
               | (intro hC; have hcq := bcellG hC; go_simp; done)
               | (intro hC; have hcq := bcellG hC; go_simp; rfl)
               | (intro hC; go_at_call 24; (first | (with_reducible refine (rof (-9223372036854775807) i64_lo _).mono ?_) | (with_reducible refine (rof 9223372036854775807 i64_hi _).mono ?_)); (intro e w2 hw; exact ⟨hw.1, qtrans (by simp) hC hw.2⟩))
               | (intro hC; go_at_call 27; (first | (with_reducible refine (rless_r lo (-9223372036854775807) true k1 _).mono ?_)); (intro e w2 hw; exact ⟨hw.1, qtrans (by simp) hC hw.2⟩))
           go_big_quiet_on)))
    refine wpQuiet_nil ?_
    intro w9 hC9
    obtain ⟨hc9, hf9⟩ := bcellB hC9
    have hz9 := hC9.size
    go_wp2
    rw [E.out.1, E.out.2.1, E.out.2.2]
    refine bodyPost_ret (v := .tuple #[.agg #[.int .i64 (0), .int .i64 (0)], .int .i64 4]) (by simp only [results, Tryd.results45]; go_simp) rfl ⟨rfl, (by repeat (first | with_reducible exact Below.refl _ _ | with_reducible refine bdrew ?_ | ((with_reducible first | refine bset ?_ ?_ | refine ball ?_ ?_ | refine bth (by assumption) ?_ ?_); first | omega | (simp <;> omega))))⟩
  by_cases c2 : 9223372036854775807 < lo
  · have E := hide (out_f (lo := lo) (hi := hi) (decide_eq_false (by omega)))
    have k1 : decide (lo < -9223372036854775807) = false := decide_eq_false c1
    have k2 : decide (9223372036854775807 < lo) = true := decide_eq_true c2
    go_enter Tryd.func45, Tryd.ntmps45
    go_wp2_with fail
    refine QT.quiet_b (by kernel_rfl) (by kernel_rfl) ?_
    repeat (first
      | go_big_quiet_skip
      | (go_big_quiet_want; go_big_quiet_op; first
        | go_big_quiet_on
        | (apply Exists.intro
           refine ⟨fun _ => ?_, ?_⟩
           · first
               | rfl
               | (intro hC; obtain ⟨hcq, hfq⟩ := bcellB hC; go_simp; done)
               | (intro hC; obtain ⟨hcq, hfq⟩ := bcellB hC; go_simp; rfl)
               | (intro hC; have hcq := bcellG hC; go_simp; done)
               | (intro hC; have hcq := bcellG hC; go_simp; rfl)
               | (intro hC; go_at_call 24; (first | (with_reducible refine (rof (-9223372036854775807) i64_lo _).mono ?_) | (with_reducible refine (rof 9223372036854775807 i64_hi _).mono ?_)); (intro e w2 hw; exact ⟨hw.1, qtrans (by simp) hC hw.2⟩))
               | (intro hC; go_at_call 27; (first | (with_reducible refine (rless_r lo (-9223372036854775807) false k1 _).mono ?_) | (with_reducible refine (rless_r 9223372036854775807 lo true k2 _).mono ?_)); (intro e w2 hw; exact ⟨hw.1, qtrans (by simp) hC hw.2⟩))
           go_big_quiet_on)))
    refine wpQuiet_nil ?_
    intro w9 hC9
    obtain ⟨hc9, hf9⟩ := bcellB hC9
    have hz9 := hC9.size
    go_wp2
    rw [E.out.1, E.out.2.1, E.out.2.2]
    refine bodyPost_ret (v := .tuple #[.agg #[.int .i64 (0), .int .i64 (0)], .int .i64 4]) (by simp only [results, Tryd.results45]; go_simp) rfl ⟨rfl, (by repeat (first | with_reducible exact Below.refl _ _ | with_reducible refine bdrew ?_ | ((with_reducible first | refine bset ?_ ?_ | refine ball ?_ ?_ | refine bth (by assumption) ?_ ?_); first | omega | (simp <;> omega))))⟩
  by_cases c3 : hi < -9223372036854775807
  · have E := hide (out_f (lo := lo) (hi := hi) (decide_eq_false (by omega)))
    have k1 : decide (lo < -9223372036854775807) = false := decide_eq_false c1
    have k2 : decide (9223372036854775807 < lo) = false := decide_eq_false c2
    have k3 : decide (hi < -9223372036854775807) = true := decide_eq_true c3
    go_enter Tryd.func45, Tryd.ntmps45
    go_wp2_with fail
    refine QT.quiet_b (by kernel_rfl) (by kernel_rfl) ?_
    repeat (first
      | go_big_quiet_skip
      | (go_big_quiet_want; go_big_quiet_op; first
        | go_big_quiet_on
        | (apply Exists.intro
           refine ⟨fun _ => ?_, ?_⟩
           · first
               | rfl
               | (intro hC; obtain ⟨hcq, hfq⟩ := bcellB hC; go_simp; done)
               | (intro hC; obtain ⟨hcq, hfq⟩ := bcellB hC; go_simp; rfl)
               | (intro hC; have hcq := bcellG hC; go_simp; done)
               | (intro hC; have hcq := bcellG hC; go_simp; rfl)
               | (intro hC; go_at_call 24; (first | (with_reducible refine (rof (-9223372036854775807) i64_lo _).mono ?_) | (with_reducible refine (rof 9223372036854775807 i64_hi _).mono ?_)); (intro e w2 hw; exact ⟨hw.1, qtrans (by simp) hC hw.2⟩))
               | (intro hC; go_at_call 27; (first | (with_reducible refine (rless_r lo (-9223372036854775807) false k1 _).mono ?_) | (with_reducible refine (rless_r 9223372036854775807 lo false k2 _).mono ?_) | (with_reducible refine (rless_r hi (-9223372036854775807) true k3 _).mono ?_)); (intro e w2 hw; exact ⟨hw.1, qtrans (by simp) hC hw.2⟩))
           go_big_quiet_on)))
    refine wpQuiet_nil ?_
    intro w9 hC9
    obtain ⟨hc9, hf9⟩ := bcellB hC9
    have hz9 := hC9.size
    go_wp2
    rw [E.out.1, E.out.2.1, E.out.2.2]
    refine bodyPost_ret (v := .tuple #[.agg #[.int .i64 (0), .int .i64 (0)], .int .i64 4]) (by simp only [results, Tryd.results45]; go_simp) rfl ⟨rfl, (by repeat (first | with_reducible exact Below.refl _ _ | with_reducible refine bdrew ?_ | ((with_reducible first | refine bset ?_ ?_ | refine ball ?_ ?_ | refine bth (by assumption) ?_ ?_); first | omega | (simp <;> omega))))⟩
  by_cases c4 : 9223372036854775807 < hi
  · have E := hide (out_f (lo := lo) (hi := hi) (decide_eq_false (by omega)))
    have k1 : decide (lo < -9223372036854775807) = false := decide_eq_false c1
    have k2 : decide (9223372036854775807 < lo) = false := decide_eq_false c2
    have k3 : decide (hi < -9223372036854775807) = false := decide_eq_false c3
    have k4 : decide (9223372036854775807 < hi) = true := decide_eq_true c4
    go_enter Tryd.func45, Tryd.ntmps45
    go_wp2_with fail
    refine QT.quiet_b (by kernel_rfl) (by kernel_rfl) ?_
    repeat (first
      | go_big_quiet_skip
      | (go_big_quiet_want; go_big_quiet_op; first
        | go_big_quiet_on
        | (apply Exists.intro
           refine ⟨fun _ => ?_, ?_⟩
           · first
               | rfl
               | (intro hC; obtain ⟨hcq, hfq⟩ := bcellB hC; go_simp; done)
               | (intro hC; obtain ⟨hcq, hfq⟩ := bcellB hC; go_simp; rfl)
               | (intro hC; have hcq := bcellG hC; go_simp; done)
               | (intro hC; have hcq := bcellG hC; go_simp; rfl)
               | (intro hC; go_at_call 24; (first | (with_reducible refine (rof (-9223372036854775807) i64_lo _).mono ?_) | (with_reducible refine (rof 9223372036854775807 i64_hi _).mono ?_)); (intro e w2 hw; exact ⟨hw.1, qtrans (by simp) hC hw.2⟩))
               | (intro hC; go_at_call 27; (first | (with_reducible refine (rless_r lo (-9223372036854775807) false k1 _).mono ?_) | (with_reducible refine (rless_r 9223372036854775807 lo false k2 _).mono ?_) | (with_reducible refine (rless_r hi (-9223372036854775807) false k3 _).mono ?_) | (with_reducible refine (rless_r 9223372036854775807 hi true k4 _).mono ?_)); (intro e w2 hw; exact ⟨hw.1, qtrans (by simp) hC hw.2⟩))
           go_big_quiet_on)))
    refine wpQuiet_nil ?_
    intro w9 hC9
    obtain ⟨hc9, hf9⟩ := bcellB hC9
    have hz9 := hC9.size
    go_wp2
    rw [E.out.1, E.out.2.1, E.out.2.2]
    refine bodyPost_ret (v := .tuple #[.agg #[.int .i64 (0), .int .i64 (0)], .int .i64 4]) (by simp only [results, Tryd.results45]; go_simp) rfl ⟨rfl, (by repeat (first | with_reducible exact Below.refl _ _ | with_reducible refine bdrew ?_ | ((with_reducible first | refine bset ?_ ?_ | refine ball ?_ ?_ | refine bth (by assumption) ?_ ?_); first | omega | (simp <;> omega))))⟩
  · have E := hide (out_t (lo := lo) (hi := hi) (decide_eq_true (by omega)))
    have e1 : wrap64 (wL lo) = lo := w64L (by constructor <;> omega)
    have e2 : wrap64 (wL hi) = hi := w64L (by constructor <;> omega)
    have k1 : decide (lo < -9223372036854775807) = false := decide_eq_false c1
    have k2 : decide (9223372036854775807 < lo) = false := decide_eq_false c2
    have k3 : decide (hi < -9223372036854775807) = false := decide_eq_false c3
    have k4 : decide (9223372036854775807 < hi) = false := decide_eq_false c4
    go_enter Tryd.func45, Tryd.ntmps45
    go_wp2_with fail
    refine QT.quiet_b (by kernel_rfl) (by kernel_rfl) ?_
    repeat (first
      | go_big_quiet_skip
      | (go_big_quiet_want; go_big_quiet_op; first
        | go_big_quiet_on
        | (apply Exists.intro
           refine ⟨fun _ => ?_, ?_⟩
           · first
               | rfl
               | (intro hC; obtain ⟨hcq, hfq⟩ := bcellB hC; go_simp; done)
               | (intro hC; obtain ⟨hcq, hfq⟩ := bcellB hC; go_simp; rfl)
               | (intro hC; have hcq := bcellG hC; go_simp; done)
               | (intro hC; have hcq := bcellG hC; go_simp; rfl)
               | (intro hC; go_at_call 24; (first | (with_reducible refine (rof (-9223372036854775807) i64_lo _).mono ?_) | (with_reducible refine (rof 9223372036854775807 i64_hi _).mono ?_)); (intro e w2 hw; exact ⟨hw.1, qtrans (by simp) hC hw.2⟩))
               | (intro hC; go_at_call 27; (first | (with_reducible refine (rless_r lo (-9223372036854775807) false k1 _).mono ?_) | (with_reducible refine (rless_r 9223372036854775807 lo false k2 _).mono ?_) | (with_reducible refine (rless_r hi (-9223372036854775807) false k3 _).mono ?_) | (with_reducible refine (rless_r 9223372036854775807 hi false k4 _).mono ?_)); (intro e w2 hw; exact ⟨hw.1, qtrans (by simp) hC hw.2⟩))
           go_big_quiet_on)))
    refine wpQuiet_nil ?_
    intro w9 hC9
    obtain ⟨hc9, hf9⟩ := bcellB hC9
    have hz9 := hC9.size
    go_wp2
    rw [E.out.1, E.out.2.1, E.out.2.2]
    refine bodyPost_ret (v := .tuple #[.agg #[.int .i64 (lo), .int .i64 (hi)], .int .i64 0]) (by simp only [results, Tryd.results45]; go_simp) rfl ⟨rfl, (by repeat (first | with_reducible exact Below.refl _ _ | with_reducible refine bdrew ?_ | ((with_reducible first | refine bset ?_ ?_ | refine ball ?_ ?_ | refine bth (by assumption) ?_ ?_); first | omega | (simp <;> omega))))⟩
end Go.Proofs.YtlcbcanlehackaaDoor
