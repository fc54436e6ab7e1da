/- Packed: Div64. -/
import Derived.Deep.CutBlock
import Derived.Deep.CutRange
import Derived.Test.YtacpahebbnnckaaP17
set_option linter.unusedVariables false
set_option linter.unusedSimpArgs false
namespace Go.Proofs.Ytacpahebbnnckaa
section
open Go.RowKit
theorem div64_s (lo y : Int) (hl : 0 ≤ lo ∧ lo < 18446744073709551616) (hy : 0 < y ∧ y < 18446744073709551616) (w : World) :
  Calls Try.prog 140 #[.int .u64 0, .int .u64 lo, .int .u64 y] w fun e w' => e = .returned (.tuple #[.int .u64 (lo / y), .int .u64 (lo % y)]) ∧ Below w.heap.size w w' := by
 obtain ⟨e1, e2⟩ := quo_u64 (a := lo) (b := y) hl hy.1
 have c1 : ¬ y = 0 := by omega
 have c2 : ¬ y ≤ 0 := by omega
 have c3 : 0 < y := hy.1
 go_enter Try.func140, Try.ntmps140
 go_wp2_with fail
 go_region
 all_goals go_wp2
 all_goals go_ret2
 all_goals exact ⟨rfl, blw_⟩
theorem quo_rest (U v1 : Int) (hU : 0 ≤ U ∧ U < 18446744073709551616) (hv : 0 < v1) : ∃ q r : Int, IntKind.u64.wrap (U.tdiv v1) = q ∧ IntKind.u64.wrap (U - IntKind.u64.wrap (q * v1)) = r ∧ q = U / v1 ∧ r = U % v1 := by
 have h0 := (quo_u64 (a := U) (b := v1) hU hv).1
 have h1 := Int.mul_ediv_add_emod U v1
 have h2 := Int.emod_nonneg U (show v1 ≠ 0 by omega)
 have h3 : 0 ≤ v1 * (U / v1) := Int.mul_nonneg (by omega) (Int.ediv_nonneg hU.1 (by omega))
 refine ⟨_, _, h0, rfl, rfl, ?_⟩
 rw [Int.mul_comm (U / v1) v1]
 generalize v1 * (U / v1) = m at *
 generalize U % v1 = r at *
 rw [IntKind.wrap_u64, IntKind.wrap_u64]
 omega
theorem rest_wrap (V U u Q : Int) (hV : 0 < V ∧ V < 18446744073709551616) (hQ : (U * 4294967296 + u) / V = Q) : IntKind.u64.wrap (IntKind.u64.wrap (IntKind.u64.wrap (U * 4294967296) + u) - IntKind.u64.wrap (Q * V)) = (U * 4294967296 + u) % V := by
 have h1 := Int.mul_ediv_add_emod (U * 4294967296 + u) V
 have h2 := Int.emod_nonneg (U * 4294967296 + u) (show V ≠ 0 by omega)
 have h3 := Int.emod_lt_of_pos (U * 4294967296 + u) hV.1
 rw [hQ, Int.mul_comm V Q] at h1
 generalize Q * V = m at *
 generalize (U * 4294967296 + u) % V = r at *
 rw [IntKind.wrap_u64, IntKind.wrap_u64, IntKind.wrap_u64, IntKind.wrap_u64]
 omega
set_option maxHeartbeats 2000000 in
theorem div64_b (hi lo y : Int) (hh : 0 < hi ∧ hi < y) (hl : 0 ≤ lo ∧ lo < 18446744073709551616) (hy : y < 18446744073709551616) (w : World) :
  Calls Try.prog 140 #[.int .u64 hi, .int .u64 lo, .int .u64 y] w fun e w' => e = .returned (.tuple #[.int .u64 ((hi * 18446744073709551616 + lo) / y), .int .u64 ((hi * 18446744073709551616 + lo) % y)]) ∧ Below w.heap.size w w' := by
 have hz := lz_spec y (by omega) hy
 have HC := hide (clz64 y ⟨by omega, hy⟩)
 obtain ⟨s, hs⟩ : ∃ s, lz y = s := ⟨_, rfl⟩
 rw [hs] at hz HC
 obtain ⟨V, U, L, hV, eV, eL, eU, L0, L1, U0, U1, eN⟩ := shifted hi lo y s ⟨by omega, hh.2⟩ hl hz.1 hz.2.1 hz.2.2
 have V0 : 9223372036854775808 ≤ V := by omega
 have V1 : V < 18446744073709551616 := by omega
 have aV := andB V ⟨by omega, V1⟩
 have aL := andB L ⟨L0, L1⟩
 obtain ⟨v1, hv1⟩ : ∃ v1, V / 4294967296 = v1 := ⟨_, rfl⟩
 obtain ⟨v0, hv0⟩ : ∃ v0, V % 4294967296 = v0 := ⟨_, rfl⟩
 obtain ⟨u1, hu1⟩ : ∃ u1, L / 4294967296 = u1 := ⟨_, rfl⟩
 obtain ⟨u0, hu0⟩ : ∃ u0, L % 4294967296 = u0 := ⟨_, rfl⟩
 rw [hv0] at aV
 rw [hu0] at aL
 have HB1 : Hid (2147483648 ≤ v1 ∧ v1 < 4294967296) := hide (by omega)
 have HB0 : Hid (0 ≤ v0 ∧ v0 < 4294967296) := hide (by omega)
 have K1 : Hid (KNum V U u1) := hide ⟨V0, V1, U0, U1, by omega, by omega⟩
 obtain ⟨q1, r1, eq1, er1, dq1, dr1⟩ := quo_rest U v1 ⟨U0, by omega⟩ (by omega)
 have S1 : Hid (KInv V U u1 q1 r1) := hide (by rw [dq1, dr1, ← hv1]; exact kinv_start K1.out)
 obtain ⟨Q1, hQ1⟩ : ∃ Q, (U * 4294967296 + u1) / V = Q := ⟨_, rfl⟩
 have HQ1 := hide hQ1
 have W1 := rest_wrap V U u1 Q1 ⟨by omega, V1⟩ hQ1
 obtain ⟨R1, hR1⟩ : ∃ R, (U * 4294967296 + u1) % V = R := ⟨_, rfl⟩
 rw [hR1] at W1
 have R10 : 0 ≤ R1 := by rw [← hR1]; exact Int.emod_nonneg _ (by omega)
 have R11 : R1 < V := by rw [← hR1]; exact Int.emod_lt_of_pos _ (by omega)
 have K2 : Hid (KNum V R1 u0) := hide ⟨V0, V1, R10, R11, by omega, by omega⟩
 obtain ⟨q0, r0, eq0, er0, dq0, dr0⟩ := quo_rest R1 v1 ⟨R10, by omega⟩ (by omega)
 have S2 : Hid (KInv V R1 u0 q0 r0) := hide (by rw [dq0, dr0, ← hv1]; exact kinv_start K2.out)
 obtain ⟨Q0, hQ0⟩ : ∃ Q, (R1 * 4294967296 + u0) / V = Q := ⟨_, rfl⟩
 have HQ0 := hide hQ0
 have W2 := rest_wrap V R1 u0 Q0 ⟨by omega, V1⟩ hQ0
 have hQ1b := digit_lt K1.out
 have hQ0b := digit_lt K2.out
 rw [hQ1] at hQ1b
 rw [hQ0] at hQ0b
 have hQ10 : 0 ≤ Q1 := by rw [← hQ1]; exact Int.ediv_nonneg (by have := K1.out.u0; omega) (by omega)
 have hQ00 : 0 ≤ Q0 := by rw [← hQ0]; exact Int.ediv_nonneg (by have := K2.out.u0; omega) (by omega)
 have eF : IntKind.u64.wrap (IntKind.u64.wrap (Q1 * 4294967296) + Q0) = Q1 * 4294967296 + Q0 := by rw [IntKind.wrap_u64, IntKind.wrap_u64]; omega
 have FIN := two_digits (hi * 18446744073709551616 + lo) y (2 ^ s) V U u1 u0 (Int.pow_pos (by omega)) (by omega) hV (by rw [eN]; omega)
 rw [hR1, hQ1, hQ0] at FIN
 have HF := hide FIN
 have HV1 := hide hv1
 have HV0 := hide hv0
 have c0 : ¬ y = 0 := by omega
 have c1 : ¬ y ≤ hi := by omega
 have c2 : ¬ hi = 0 := by omega
 have c3 : (s : Int) < 64 := by have := hz.1; omega
 have c4 : IntKind.u64.wrap (s : Int) = s := by rw [IntKind.wrap_u64]; omega
 have c5 : ¬ v1 = 0 := by omega
 clear hz hs hV hv0 hu0 hQ1 hQ0 hR1 dq1 dr1 dq0 dr0 FIN eN hh hl hy L0 L1 U0 U1 V0 V1 R10 R11 hQ1b hQ0b hQ10 hQ00
 go_enter Try.func140, Try.ntmps140
 go_wp2_with fail
 refine (HC.out _).mono ?_
 rintro e w ⟨rfl, rfl⟩
 have HQ := HQ1
 go_upto_block 0 with fail
 go_cut [15, 16] from 67 to 85 (fun sq sr wd => ∃ x : Int, sq = .int .u64 Q1 ∧ sr = .int .u64 x ∧ wd = w)
 case first =>
  go_wp2_with fail
  go_loopw [15, 16] (fun sq sr wr => ∃ a b : Int, sq = .int .u64 a ∧ sr = .int .u64 b ∧ KInv V U u1 a b ∧ wr = w) (fun sq _ _ => (intOf sq).toNat)
  case atStart => exact ⟨q1, r1, rfl, rfl, S1.out, rfl⟩
  case round =>
   obtain ⟨a, b, rfl, rfl, hI, rfl⟩ := hrel
   have HI := hide hI
   obtain ⟨a0, a1, b0, b1, _, _⟩ := hI
   have ku0 := K1.out.u0
   have ku1 := K1.out.u1
   have kv1 := HB1.out
   have kv0 := HB0.out
   have eb : IntKind.u64.wrap (b + v1) = b + v1 := by rw [IntKind.wrap_u64]; omega
   by_cases c1 : 4294967296 ≤ a
   ·have C := hide (show 4294967296 ≤ a ∨ 4294967296 * b + u1 < a * (V % 4294967296) from Or.inl c1)
    have ea : IntKind.u64.wrap (a - 1) = a - 1 := by rw [IntKind.wrap_u64]; omega
    by_cases c2 : 4294967296 ≤ b + v1
    ·have HL := hide (show a - 1 = Q1 from (kinv_last K1.out HI.out C.out (by rw [HV1.out]; exact c2)).trans HQ.out)
     clear ku0 ku1 kv1 kv0 a0 a1 b0 b1
     go_wp2
     go_meet
     exact ⟨_, by rw [HL.out], rfl, rfl⟩
    ·have HL := hide (kinv_next K1.out HI.out C.out (by rw [HV1.out]; omega))
     clear ku0 ku1 kv1 kv0 a1 b0 b1
     go_wp2
     go_roundw
     case rel => exact ⟨_, _, rfl, by rw [HV1.out], HL.out, by first | rfl | trivial⟩
     case measure => simp [intOf]; omega
   ·have m1 : 0 ≤ a * v0 := Int.mul_nonneg a0 kv0.1
    have m2 : a * v0 ≤ 4294967296 * 4294967296 - 4294967296 := by
     have := Int.mul_le_mul (show a ≤ 4294967296 by omega) (show v0 ≤ 4294967295 by omega) kv0.1 (by omega)
     omega
    have ec : IntKind.u64.wrap (a * v0) = a * v0 := by rw [IntKind.wrap_u64]; omega
    have ed : IntKind.u64.wrap (4294967296 * b) = 4294967296 * b := by rw [IntKind.wrap_u64]; omega
    have ee : IntKind.u64.wrap (4294967296 * b + u1) = 4294967296 * b + u1 := by rw [IntKind.wrap_u64]; omega
    by_cases c3 : 4294967296 * b + u1 < a * v0
    ·have C := hide (show 4294967296 ≤ a ∨ 4294967296 * b + u1 < a * (V % 4294967296) from Or.inr (by rw [HV0.out]; exact c3))
     have o1 := (kinv_over K1.out HI.out C.out).2
     have ea : IntKind.u64.wrap (a - 1) = a - 1 := by rw [IntKind.wrap_u64]; omega
     by_cases c2 : 4294967296 ≤ b + v1
     ·have HL := hide (show a - 1 = Q1 from (kinv_last K1.out HI.out C.out (by rw [HV1.out]; exact c2)).trans HQ.out)
      clear ku0 ku1 kv1 kv0 a0 a1 b0 b1 m1 m2 o1
      go_wp2
      go_meet
      exact ⟨_, by rw [HL.out], rfl, rfl⟩
     ·have HL := hide (kinv_next K1.out HI.out C.out (by rw [HV1.out]; omega))
      clear ku0 ku1 kv1 kv0 a1 b0 b1 m1 m2
      go_wp2
      go_roundw
      case rel => exact ⟨_, _, rfl, by rw [HV1.out], HL.out, by first | rfl | trivial⟩
      case measure => simp [intOf]; omega
    ·have HL := hide (show a = Q1 from (kinv_done K1.out HI.out (by rw [HV0.out]; omega)).trans HQ.out)
     clear ku0 ku1 kv1 kv0 a0 a1 b0 b1 m1 m2
     go_wp2
     go_meet
     exact ⟨_, by rw [HL.out], rfl, rfl⟩
 case rest =>
  obtain ⟨x, rfl, rfl, rfl⟩ := hcut
  have HQ := HQ0
  go_upto_block 2 with fail
  go_cut [18, 16] from 102 to 120 (fun sq sr wd => ∃ x : Int, sq = .int .u64 Q0 ∧ sr = .int .u64 x ∧ wd = wc)
  case first =>
   go_wp2_with fail
   go_loopw [18, 16] (fun sq sr wr => ∃ a b : Int, sq = .int .u64 a ∧ sr = .int .u64 b ∧ KInv V R1 u0 a b ∧ wr = wc) (fun sq _ _ => (intOf sq).toNat)
   case atStart => exact ⟨q0, r0, rfl, rfl, S2.out, rfl⟩
   case round =>
    obtain ⟨a, b, rfl, rfl, hI, rfl⟩ := hrel
    have HI := hide hI
    obtain ⟨a0, a1, b0, b1, _, _⟩ := hI
    have ku0 := K2.out.u0
    have ku1 := K2.out.u1
    have kv1 := HB1.out
    have kv0 := HB0.out
    have eb : IntKind.u64.wrap (b + v1) = b + v1 := by rw [IntKind.wrap_u64]; omega
    by_cases c1 : 4294967296 ≤ a
    ·have C := hide (show 4294967296 ≤ a ∨ 4294967296 * b + u0 < a * (V % 4294967296) from Or.inl c1)
     have ea : IntKind.u64.wrap (a - 1) = a - 1 := by rw [IntKind.wrap_u64]; omega
     by_cases c2 : 4294967296 ≤ b + v1
     ·have HL := hide (show a - 1 = Q0 from (kinv_last K2.out HI.out C.out (by rw [HV1.out]; exact c2)).trans HQ.out)
      clear ku0 ku1 kv1 kv0 a0 a1 b0 b1
      go_wp2
      go_meet
      exact ⟨_, by rw [HL.out], rfl, rfl⟩
     ·have HL := hide (kinv_next K2.out HI.out C.out (by rw [HV1.out]; omega))
      clear ku0 ku1 kv1 kv0 a1 b0 b1
      go_wp2
      go_roundw
      case rel => exact ⟨_, _, rfl, by rw [HV1.out], HL.out, by first | rfl | trivial⟩
      case measure => simp [intOf]; omega
    ·have m1 : 0 ≤ a * v0 := Int.mul_nonneg a0 kv0.1
     have m2 : a * v0 ≤ 4294967296 * 4294967296 - 4294967296 := by
      have := Int.mul_le_mul (show a ≤ 4294967296 by omega) (show v0 ≤ 4294967295 by omega) kv0.1 (by omega)
      omega
     have ec : IntKind.u64.wrap (a * v0) = a * v0 := by rw [IntKind.wrap_u64]; omega
     have ed : IntKind.u64.wrap (4294967296 * b) = 4294967296 * b := by rw [IntKind.wrap_u64]; omega
     have ee : IntKind.u64.wrap (4294967296 * b + u0) = 4294967296 * b + u0 := by rw [IntKind.wrap_u64]; omega
     by_cases c3 : 4294967296 * b + u0 < a * v0
     ·have C := hide (show 4294967296 ≤ a ∨ 4294967296 * b + u0 < a * (V % 4294967296) from Or.inr (by rw [HV0.out]; exact c3))
      have o1 := (kinv_over K2.out HI.out C.out).2
      have ea : IntKind.u64.wrap (a - 1) = a - 1 := by rw [IntKind.wrap_u64]; omega
      by_cases c2 : 4294967296 ≤ b + v1
      ·have HL := hide (show a - 1 = Q0 from (kinv_last K2.out HI.out C.out (by rw [HV1.out]; exact c2)).trans HQ.out)
       clear ku0 ku1 kv1 kv0 a0 a1 b0 b1 m1 m2 o1
       go_wp2
       go_meet
       exact ⟨_, by rw [HL.out], rfl, rfl⟩
      ·have HL := hide (kinv_next K2.out HI.out C.out (by rw [HV1.out]; omega))
       clear ku0 ku1 kv1 kv0 a1 b0 b1 m1 m2
       go_wp2
       go_roundw
       case rel => exact ⟨_, _, rfl, by rw [HV1.out], HL.out, by first | rfl | trivial⟩
       case measure => simp [intOf]; omega
     ·have HL := hide (show a = Q0 from (kinv_done K2.out HI.out (by rw [HV0.out]; omega)).trans HQ.out)
      clear ku0 ku1 kv1 kv0 a0 a1 b0 b1 m1 m2
      go_wp2
      go_meet
      exact ⟨_, by rw [HL.out], rfl, rfl⟩
  case rest =>
   obtain ⟨x2, rfl, rfl, rfl⟩ := hcut
   go_wp2
   go_ret2
   refine ⟨?_, blw_⟩
   rw [← HF.out.1, ← HF.out.2]
   rfl
end
end Go.Proofs.Ytacpahebbnnckaa
