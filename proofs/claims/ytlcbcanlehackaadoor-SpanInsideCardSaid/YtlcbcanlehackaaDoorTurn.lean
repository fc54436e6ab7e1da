/- Directions: the program's. -/
import Derived.Test.YtlcbcanlehackaaDoorRoot2
import Derived.Test.YtlcbcanlehackaaDoorTurnM
set_option linter.unusedVariables false
set_option linter.unusedSimpArgs false
namespace Go.Proofs.YtlcbcanlehackaaDoor
open Go.RowKit
set_option maxHeartbeats 1000000 in
theorem great34 (C : World → Prop) (hC : Kept C) (g : FuncId) (p q : Value) (hent : ∀ args w, (callFunc g args).run Tryd.prog w = .ok (.enter g args) w)
    (r : Int) (hr : 0 ≤ r ∧ r < 17179869184) (A1 : ∀ n, 0 ≤ n → n < 562949953421312 → AnswersB C g #[p, q] n (decide (n ≤ r))) (w : World) (hw : C w) :
    Calls Tryd.prog 78 #[.int .i64 34, .func (Fn.func g) #[] #[p, q]] w fun e w' => e = .returned (.int .u64 r) ∧ Below w.heap.size w w' := by
  have A1' : Hid (∀ n b, 0 ≤ n → n < 562949953421312 → decide (n ≤ r) = b → ∀ w, C w → Calls Tryd.prog g #[.int .u64 n, p, q] w fun e w' => e = .returned (.bool b) ∧ Below w.heap.size w w') := hide (fun n b h1 h2 h3 => h3 ▸ A1 n h1 h2)
  have HR := hide hr
  clear A1 hr
  go_enter Tryd.func78, Tryd.ntmps78
  go_wp2
  go_loopw [5, 6] (fun s5 s6 wr => ∃ n c : Int, s5 = .int .u64 n ∧ s6 = .int .u64 (c / 2) ∧ GreatInv r n c ∧ Below w.heap.size w wr) (fun _ s6 _ => (intOf s6).toNat)
  case atStart =>
    have := HR.out
    exact ⟨0, 17179869184, rfl, by first | rfl | go_num, ⟨⟨34, 0, by omega, rfl, by simp⟩, by omega, by omega⟩, (by repeat (first | with_reducible exact Below.refl _ _ | with_reducible refine bdrew ?_ | ((with_reducible first | refine bset ?_ ?_ | refine ball ?_ ?_ | refine bth (by assumption) ?_ ?_); first | omega | (simp <;> omega))))⟩
  case round =>
    obtain ⟨n, c, rfl, rfl, hI, hB⟩ := hrel
    by_cases hc : c = 1
    · subst hc
      have HL : Hid (n = r) := hide (by have := hI.le; have := hI.lt; omega)
      clear hI
      go_wp2
      go_ret
      exact ⟨by rw [HL.out]; rfl, hB⟩
    · obtain ⟨d, rfl, d1, d2, n0, nd, hor, hlo, hhi⟩ := hI.half (by have := HR.out.2; omega) hc
      have e0 : (2 * d) / 2 = d := by omega
      rw [e0]
      have nr := hI.le
      have HLO := hide hlo
      have HHI := hide hhi
      clear hI hlo hhi hc e0
      have hd0 : 0 < d := by omega
      by_cases cc : n + d ≤ r
      · have AN := hide (A1'.out (n + d) true (by omega) nd (decide_eq_true cc))
        have HN := hide (HHI.out cc)
        clear cc
        go_wp2_with fail
        refine (AN.out _ (hC.below hw hB)).mono ?_
        rintro e w1 ⟨rfl, hb1⟩
        go_wp2
        go_roundw
        case rel => exact ⟨n + d, d, by first | rfl | go_num, by first | rfl | go_num, HN.out, hB.trans (hb1.mono hB.size)⟩
        case measure => simp [intOf]; omega
      · have AN := hide (A1'.out (n + d) false (by omega) nd (decide_eq_false cc))
        have HN := hide (HLO.out nr (by omega))
        clear cc
        go_wp2_with fail
        refine (AN.out _ (hC.below hw hB)).mono ?_
        rintro e w1 ⟨rfl, hb1⟩
        go_wp2
        go_roundw
        case rel => exact ⟨n, d, by first | rfl | go_num, by first | rfl | go_num, HN.out, hB.trans (hb1.mono hB.size)⟩
        case measure => simp [intOf]; omega
/-- n times the divisor, as two halves. -/
def tmH (n q : Int) : Int := n * (q % 18446744073709551616) / 18446744073709551616 + n * (q / 18446744073709551616 + 1)
def tmL (n q : Int) : Int := n * (q % 18446744073709551616) % 18446744073709551616
theorem tm_eq (n q : Int) : n * (18446744073709551616 + q) = tmH n q * 18446744073709551616 + tmL n q := by
  have e : q = q / 18446744073709551616 * 18446744073709551616 + q % 18446744073709551616 := by omega
  unfold tmH tmL
  generalize q % 18446744073709551616 = L at *
  generalize q / 18446744073709551616 = H at *
  rw [e, Int.mul_add, Int.mul_add, Int.mul_add n H 1, ← Int.mul_assoc n H]
  generalize n * L = m
  generalize n * H = k
  omega
structure HasT (lo hi tm dd : Nat) (q dbl : Int) (w : World) : Prop where
  cl : w.cell? ⟨lo, 0, none⟩ = some (.int .u64 (q % 18446744073709551616))
  ch : w.cell? ⟨hi, 0, none⟩ = some (.int .u64 (q / 18446744073709551616))
  ct : w.cell? ⟨tm, 0, none⟩ = some (.func (Fn.func 90) #[] #[.pointer (some ⟨lo, 0, none⟩), .pointer (some ⟨hi, 0, none⟩)])
  cd : w.cell? ⟨dd, 0, none⟩ = some (.int .u64 dbl)
  l1 : lo < w.heap.size
  l2 : hi < w.heap.size
  l3 : tm < w.heap.size
  l4 : dd < w.heap.size
theorem HasT.kept (lo hi tm dd : Nat) (q dbl : Int) : Kept (HasT lo hi tm dd q dbl) := ⟨fun h hb => by
  have hc := (bcell hb).1
  have hs := hb.size
  exact ⟨(hc lo 0 h.l1).trans h.cl, (hc hi 0 h.l2).trans h.ch, (hc tm 0 h.l3).trans h.ct, (hc dd 0 h.l4).trans h.cd, Nat.lt_of_lt_of_le h.l1 hs, Nat.lt_of_lt_of_le h.l2 hs, Nat.lt_of_lt_of_le h.l3 hs, Nat.lt_of_lt_of_le h.l4 hs⟩⟩
theorem times_at (lo hi : Nat) (q n : Int) (w : World) (hq : 0 ≤ q ∧ q ≤ 18446744073709551616) (n0 : 0 ≤ n) (n1 : n < 562949953421312)
    (cl : w.cell? ⟨lo, 0, none⟩ = some (.int .u64 (q % 18446744073709551616))) (ch : w.cell? ⟨hi, 0, none⟩ = some (.int .u64 (q / 18446744073709551616))) :
    Calls Tryd.prog 90 #[.int .u64 n, .pointer (some ⟨lo, 0, none⟩), .pointer (some ⟨hi, 0, none⟩)] w fun e w' => e = .returned (.tuple #[.int .u64 (tmH n q), .int .u64 (tmL n q)]) ∧ w = w' := by
  have MU := hide (mul64 n (q % 18446744073709551616) ⟨n0, by omega⟩ ⟨by omega, by omega⟩)
  have hh : q / 18446744073709551616 = 0 ∨ q / 18446744073709551616 = 1 := by omega
  have hm : 0 ≤ n * (q % 18446744073709551616) ∧ n * (q % 18446744073709551616) ≤ 562949953421312 * 18446744073709551616 := ⟨Int.mul_nonneg n0 (by omega), Int.mul_le_mul (by omega) (by omega) (by omega) (by omega)⟩
  unfold tmH tmL
  generalize n * (q % 18446744073709551616) = m at *
  generalize q % 18446744073709551616 = L at *
  rcases hh with hh | hh
  all_goals
    rw [hh] at ch ⊢
    clear hh hq
    go_enter Tryd.func90, Tryd.ntmps90
    go_wp2_with fail
    refine (MU.out _).mono ?_
    rintro e w ⟨rfl, rfl⟩
    go_wp2
    go_ret2
    exact ⟨by simp <;> omega, rfl⟩
end Go.Proofs.YtlcbcanlehackaaDoor
