/- The greatest number that is small enough, bit by bit. -/
import Derived.Test.YtlcbcanlehackaaDoorEnds
import Derived.Test.YtlcbcanlehackaaDoorKn2
set_option linter.unusedVariables false
set_option linter.unusedSimpArgs false
namespace Go.Proofs.YtlcbcanlehackaaDoor
open Go.RowKit
/-- What a question that is handed in answers. -/
def AnswersB (C : World → Prop) (g : FuncId) (caps : Array Value) (n : Int) (r : Bool) : Prop :=
  ∀ w, C w → Calls Tryd.prog g (#[.int .u64 n] ++ caps) w fun e w' => e = .returned (.bool r) ∧ Below w.heap.size w w'
structure GreatInv (r n c : Int) : Prop where
  pow : ∃ j h : Nat, j ≤ 48 ∧ c = 2 ^ j ∧ n = h * 2 ^ j
  le : n ≤ r
  lt : r < n + c
theorem GreatInv.half {r n c : Int} (h : GreatInv r n c) (hr : r < 281474976710656) (hc : ¬ c = 1) :
    ∃ d, c = 2 * d ∧ 1 ≤ d ∧ d ≤ 140737488355328 ∧ 0 ≤ n ∧ n + d < 562949953421312 ∧ bits .or .u64 n d = n + d ∧ (n ≤ r → r < n + d → GreatInv r n d) ∧ (n + d ≤ r → GreatInv r (n + d) d) := by
  obtain ⟨j, k, hj, rfl, rfl⟩ := h.pow
  have hle := h.le
  have hlt := h.lt
  cases j with
  | zero => exact absurd rfl hc
  | succ j =>
    have p0 : 0 < (2 : Int) ^ j := Int.pow_pos (by omega)
    have h1 : (2 : Nat) ^ j ≤ 2 ^ 47 := Nat.pow_le_pow_right (by omega) (by omega)
    have h2 : (((2 : Nat) ^ j : Nat) : Int) ≤ ((2 ^ 47 : Nat) : Int) := by exact_mod_cast h1
    rw [Int.natCast_pow] at h2
    have h2' : (2 : Int) ^ j ≤ 140737488355328 := h2
    have e : (2 : Int) ^ (j + 1) = 2 * 2 ^ j := by rw [Int.pow_succ]; omega
    have en : (k : Int) * 2 ^ (j + 1) = ((2 * k : Nat) : Int) * 2 ^ j := by
      rw [e, Int.natCast_mul, ← Int.mul_assoc, Int.mul_comm (k : Int) 2]; rfl
    have k0 : 0 ≤ (k : Int) * 2 ^ (j + 1) := Int.mul_nonneg (by omega) (by omega)
    refine ⟨2 ^ j, e, by omega, h2', k0, by omega, ?_, ?_, ?_⟩
    · have q : k * 2 ^ (j + 1) < 281474976710656 := by
        have : ((k * 2 ^ (j + 1) : Nat) : Int) < 281474976710656 := by rw [Int.natCast_mul, Int.natCast_pow]; show (k : Int) * 2 ^ (j + 1) < _; omega
        omega
      have o := orP k (2 ^ j) (j + 1) (by rw [Nat.pow_succ]; have := Nat.two_pow_pos j; omega) (by omega)
      rw [Int.natCast_mul, Int.natCast_pow, Int.natCast_pow, Int.natCast_add, Int.natCast_mul, Int.natCast_pow, Int.natCast_pow] at o
      exact o
    · intro _ hl
      exact ⟨⟨j, 2 * k, by omega, rfl, en⟩, hle, hl⟩
    · intro hl
      refine ⟨⟨j, 2 * k + 1, by omega, rfl, ?_⟩, hl, by omega⟩
      rw [en, Int.natCast_add, Int.add_mul]
      omega
set_option maxHeartbeats 1000000 in
theorem great48 (C : World → Prop) (hC : Kept C) (g : FuncId) (p q : Value) (hent : ∀ args w, (callFunc g args).run Tryd.prog w = .ok (.enter g args) w)
    (r : Int) (hr : 0 ≤ r ∧ r < 281474976710656) (A1 : ∀ n, 0 ≤ n → n < 562949953421312 → AnswersB C g #[p, q] n (decide (n ≤ r))) (w : World) (hw : C w) :
    Calls Tryd.prog 78 #[.int .i64 48, .func (Fn.func g) #[] #[p, q]] w fun e w' => e = .returned (.int .u64 r) ∧ Below w.heap.size w w' := by
  have A1' : Hid (∀ n b, 0 ≤ n → n < 562949953421312 → decide (n ≤ r) = b → ∀ w, C w → Calls Tryd.prog g #[.int .u64 n, p, q] w fun e w' => e = .returned (.bool b) ∧ Below w.heap.size w w') := hide (fun n b h1 h2 h3 => h3 ▸ A1 n h1 h2)
  have HR := hide hr
  clear A1 hr
  go_enter Tryd.func78, Tryd.ntmps78
  go_wp2
  go_loopw [5, 6] (fun s5 s6 wr => ∃ n c : Int, s5 = .int .u64 n ∧ s6 = .int .u64 (c / 2) ∧ GreatInv r n c ∧ Below w.heap.size w wr) (fun _ s6 _ => (intOf s6).toNat)
  case atStart =>
    have := HR.out
    exact ⟨0, 281474976710656, rfl, by first | rfl | go_num, ⟨⟨48, 0, by omega, rfl, by simp⟩, by omega, by omega⟩, (by repeat (first | with_reducible exact Below.refl _ _ | with_reducible refine bdrew ?_ | ((with_reducible first | refine bset ?_ ?_ | refine ball ?_ ?_ | refine bth (by assumption) ?_ ?_); first | omega | (simp <;> omega))))⟩
  case round =>
    obtain ⟨n, c, rfl, rfl, hI, hB⟩ := hrel
    by_cases hc : c = 1
    · subst hc
      have HL : Hid (n = r) := hide (by have := hI.le; have := hI.lt; omega)
      clear hI
      go_wp2
      go_ret
      exact ⟨by rw [HL.out]; rfl, hB⟩
    · obtain ⟨d, rfl, d1, d2, n0, nd, hor, hlo, hhi⟩ := hI.half HR.out.2 hc
      have e0 : (2 * d) / 2 = d := by omega
      rw [e0]
      have nr := hI.le
      have HLO := hide hlo
      have HHI := hide hhi
      clear hI hlo hhi hc e0
      have hd0 : 0 < d := by omega
      by_cases cc : n + d ≤ r
      · have AN := hide (A1'.out (n + d) true (by omega) nd (decide_eq_true cc))
        have HN := hide (HHI.out cc)
        clear cc
        go_wp2_with fail
        refine (AN.out _ (hC.below hw hB)).mono ?_
        rintro e w1 ⟨rfl, hb1⟩
        go_wp2
        go_roundw
        case rel => exact ⟨n + d, d, by first | rfl | go_num, by first | rfl | go_num, HN.out, hB.trans (hb1.mono hB.size)⟩
        case measure => simp [intOf]; omega
      · have AN := hide (A1'.out (n + d) false (by omega) nd (decide_eq_false cc))
        have HN := hide (HLO.out nr (by omega))
        clear cc
        go_wp2_with fail
        refine (AN.out _ (hC.below hw hB)).mono ?_
        rintro e w1 ⟨rfl, hb1⟩
        go_wp2
        go_roundw
        case rel => exact ⟨n, d, by first | rfl | go_num, by first | rfl | go_num, HN.out, hB.trans (hb1.mono hB.size)⟩
        case measure => simp [intOf]; omega
end Go.Proofs.YtlcbcanlehackaaDoor
