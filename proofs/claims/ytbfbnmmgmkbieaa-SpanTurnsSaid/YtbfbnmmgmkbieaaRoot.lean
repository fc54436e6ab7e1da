/- The document's roots of whole numbers. -/
import Derived.Test.YtbfbnmmgmkbieaaTimes
set_option linter.unusedVariables false
set_option linter.unusedSimpArgs false
namespace Go.Proofs.Ytbfbnmmgmkbieaa
open Go.RowKit
theorem sq_le {a b : Int} (h0 : 0 ≤ a) (h : a ≤ b) : a * a ≤ b * b := Int.mul_le_mul h h h0 (by omega)
theorem root_lt {a b : Int} (h0 : 0 ≤ b) (h : a * a < b * b) : a < b := by
  by_cases c : a < b
  · exact c
  · have := sq_le h0 (show b ≤ a by omega)
    omega
theorem root_one {a n m : Int} (hn : 0 ≤ n) (hm : 0 ≤ m) (h1 : n * n ≤ a) (h2 : a < (n + 1) * (n + 1)) (k1 : m * m ≤ a) (k2 : a < (m + 1) * (m + 1)) : n = m := by
  have a1 := root_lt (a := n) (b := m + 1) (by omega) (by omega)
  have a2 := root_lt (a := m) (b := n + 1) (by omega) (by omega)
  omega
theorem root_is (a : Nat) : ∃ n : Nat, n * n ≤ a ∧ a < (n + 1) * (n + 1) := by
  induction a with
  | zero => exact ⟨0, by omega, by omega⟩
  | succ a ih =>
    obtain ⟨n, h1, h2⟩ := ih
    by_cases c : a + 1 < (n + 1) * (n + 1)
    · exact ⟨n, by omega, c⟩
    · refine ⟨n + 1, by omega, ?_⟩
      have : (n + 1 + 1) * (n + 1 + 1) = (n + 1) * (n + 1) + 2 * (n + 1) + 1 := by
        rw [Nat.add_mul, Nat.mul_add, Nat.mul_add]; omega
      omega
theorem sq_128 : (0 : Int) ≤ 562949953421312 := by omega
/-- The search's bounds: what is found, and twice the bit that is tried next. -/
structure RootInv (a n c : Int) : Prop where
  n0 : 0 ≤ n
  c1 : 1 ≤ c
  pow : ∃ j : Nat, j ≤ 49 ∧ c = 2 ^ j
  le : n * n ≤ a
  lt : a < (n + c) * (n + c)
theorem RootInv.half {a n c : Int} (h : RootInv a n c) (hc : ¬ c = 1) : ∃ d, c = 2 * d ∧ 1 ≤ d ∧ d ≤ 281474976710656 ∧ ∃ j : Nat, j ≤ 49 ∧ d = 2 ^ j := by
  obtain ⟨j, hj, rfl⟩ := h.pow
  cases j with
  | zero => exact absurd rfl hc
  | succ k =>
    refine ⟨2 ^ k, by rw [Int.pow_succ]; omega, ?_, ?_, k, by omega, rfl⟩
    · have : 0 < (2 : Int) ^ k := Int.pow_pos (by omega)
      omega
    · have h1 : (2 : Nat) ^ k ≤ 2 ^ 48 := Nat.pow_le_pow_right (by omega) (by omega)
      have h2 : (((2 : Nat) ^ k : Nat) : Int) ≤ ((2 ^ 48 : Nat) : Int) := by exact_mod_cast h1
      rw [Int.natCast_pow] at h2
      exact h2
set_option maxHeartbeats 1000000 in
theorem rroot (a r : Int) (ha : 0 ≤ a ∧ a < 79228162514264337593543950336) (hr : 0 ≤ r) (h1 : r * r ≤ a) (h2 : a < (r + 1) * (r + 1)) (w : World) :
    Calls Try.prog 100 #[.agg #[.int .i64 (wH (a)), .int .u64 (wL (a))]] w fun e w' => e = .returned (.int .i64 r) ∧ Below w.heap.size w w' := by
  have HU : Hid (∀ n, 0 ≤ n → n * n ≤ a → a < (n + 1) * (n + 1) → n = r) := hide (fun n hn k1 k2 => root_one hn hr k1 k2 h1 h2)
  have HA := hide ha
  clear ha hr h1 h2
  go_enter Try.func100, Try.ntmps100
  go_wp2
  go_loopw [3, 4, 5] (fun s3 s4 _ wr => ∃ n c : Int, s3 = .int .i64 n ∧ s4 = .int .i64 (c / 2) ∧ RootInv a n c ∧ Below w.heap.size w wr ∧ w.heap.size < wr.heap.size ∧ wr.cell? ⟨w.heap.size, 0, none⟩ = some (.int .i64 (wH a)) ∧ wr.cell? ⟨w.heap.size, 1, none⟩ = some (.int .u64 (wL a))) (fun _ s4 _ _ => (intOf s4).toNat)
  case atStart =>
    have := HA.out
    exact ⟨0, 562949953421312, rfl, rfl, ⟨by omega, by omega, ⟨49, by omega, rfl⟩, by omega, by omega⟩, (by repeat (first | with_reducible exact Below.refl _ _ | with_reducible refine bdrew ?_ | ((with_reducible first | refine bset ?_ ?_ | refine ball ?_ ?_ | refine bth (by assumption) ?_ ?_); first | omega | (simp <;> omega)))), by simp, by go_simp, by go_simp⟩
  case round =>
    obtain ⟨n, c, rfl, rfl, hI, hB, hsz, cl0, cl1⟩ := hrel
    have n0 := hI.n0
    have nb : n < 281474976710656 := root_lt (by omega) (by have := hI.le; have := HA.out; omega)
    by_cases hc : c = 1
    · subst hc
      have HL := hide (HU.out n n0 hI.le hI.lt)
      clear hI
      go_wp2
      go_ret
      exact ⟨by rw [HL.out]; rfl, hB⟩
    · obtain ⟨d, rfl, d1, d2, hd⟩ := hI.half hc
      have e0 : (2 * d) / 2 = d := by omega
      rw [e0]
      have HI := hide hI
      have HD := hide hd
      clear hI hd hc e0
      have TM := hide (rtimes (n + d) (n + d) ⟨by omega, by omega⟩ ⟨by omega, by omega⟩)
      have hbr : Below wr.heap.size wr wr := Below.refl _ _
      have hd0 : 0 < d := by omega
      have hdiv : d.tdiv 2 = d / 2 := Int.tdiv_eq_ediv_of_nonneg (by omega)
      have hdw : wrap64 (d / 2) = d / 2 := by unfold wrap64; omega
      by_cases cc : a < (n + d) * (n + d)
      · have LS := hide (rless_r a ((n + d) * (n + d)) true (decide_eq_true cc))
        have HN : Hid (RootInv a n d) := hide ⟨n0, d1, HD.out, HI.out.le, cc⟩
        clear cc
        go_wp2_with fail
        refine QT.quiet_c hbr (by kernel_rfl) (by kernel_rfl) ?_
        repeat (first
          | go_big_quiet_skip
          | (go_big_quiet_want; go_big_quiet_op; first
            | go_big_quiet_on
            | (apply Exists.intro
               refine ⟨fun _ => ?_, ?_⟩
               · first
                   | rfl
                   | (intro hC; obtain ⟨hcq, hfq⟩ := bcellB hC; go_simp; done)
                   | (intro hC; obtain ⟨hcq, hfq⟩ := bcellB hC; go_simp; rfl)
                   | (intro hC; go_at_call 88; (first | (with_reducible refine (TM.out _).mono ?_)); (intro e w2 hw; exact ⟨hw.1, qtrans (by simp) hC hw.2⟩))
                   | (intro hC; go_at_call 89; (first | (with_reducible refine (LS.out _).mono ?_)); (intro e w2 hw; exact ⟨hw.1, qtrans (by simp) hC hw.2⟩))
               go_big_quiet_on)))
        refine wpQuiet_nil ?_
        intro w9 hC9
        obtain ⟨hc9, hf9⟩ := bcellB hC9
        have hz9 := hC9.size
        go_wp2
        go_roundw
        case rel => exact ⟨n, d, by first | rfl | go_num, by first | rfl | go_num, HN.out, hB.trans (by repeat (first | with_reducible exact Below.refl _ _ | with_reducible refine bdrew ?_ | ((with_reducible first | refine bset ?_ ?_ | refine ball ?_ ?_ | refine bth (by assumption) ?_ ?_); first | omega | (simp <;> omega)))), by omega, by go_simp, by go_simp⟩
        case measure => simp [intOf]; omega
      · have LS := hide (rless_r a ((n + d) * (n + d)) false (decide_eq_false cc))
        have HN : Hid (RootInv a (n + d) d) := hide ⟨by omega, d1, HD.out, by omega, by have := HI.out.lt; rw [show n + d + d = n + 2 * d by omega]; exact this⟩
        clear cc
        go_wp2_with fail
        refine QT.quiet_c hbr (by kernel_rfl) (by kernel_rfl) ?_
        repeat (first
          | go_big_quiet_skip
          | (go_big_quiet_want; go_big_quiet_op; first
            | go_big_quiet_on
            | (apply Exists.intro
               refine ⟨fun _ => ?_, ?_⟩
               · first
                   | rfl
                   | (intro hC; obtain ⟨hcq, hfq⟩ := bcellB hC; go_simp; done)
                   | (intro hC; obtain ⟨hcq, hfq⟩ := bcellB hC; go_simp; rfl)
                   | (intro hC; go_at_call 88; (first | (with_reducible refine (TM.out _).mono ?_)); (intro e w2 hw; exact ⟨hw.1, qtrans (by simp) hC hw.2⟩))
                   | (intro hC; go_at_call 89; (first | (with_reducible refine (LS.out _).mono ?_)); (intro e w2 hw; exact ⟨hw.1, qtrans (by simp) hC hw.2⟩))
               go_big_quiet_on)))
        refine wpQuiet_nil ?_
        intro w9 hC9
        obtain ⟨hc9, hf9⟩ := bcellB hC9
        have hz9 := hC9.size
        go_wp2
        go_roundw
        case rel => exact ⟨n + d, d, by first | rfl | go_num, by first | rfl | go_num, HN.out, hB.trans (by repeat (first | with_reducible exact Below.refl _ _ | with_reducible refine bdrew ?_ | ((with_reducible first | refine bset ?_ ?_ | refine ball ?_ ?_ | refine bth (by assumption) ?_ ?_); first | omega | (simp <;> omega)))), by omega, by go_simp, by go_simp⟩
        case measure => simp [intOf]; omega
end Go.Proofs.Ytbfbnmmgmkbieaa
