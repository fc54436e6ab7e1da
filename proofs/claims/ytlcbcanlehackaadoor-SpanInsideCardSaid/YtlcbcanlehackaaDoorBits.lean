/- Integers of 128 bits (the document's): Up, Down32, bit: what they come to, said of integers. -/
import Derived.Test.YtlcbcanlehackaaDoorSum
set_option linter.unusedVariables false
set_option linter.unusedSimpArgs false
namespace Go.Proofs.YtlcbcanlehackaaDoor
open Go.RowKit
theorem rup32 (x : Int) (h : -39614081257132168796771975168 ≤ x ∧ x < 39614081257132168796771975168) (w : World) :
    Calls Tryd.prog 26 #[.agg #[.int .i64 (wH (x)), .int .u64 (wL (x))], .int .i64 32] w fun e w' => e = .returned (.agg #[.int .i64 (wH (x * 4294967296)), .int .u64 (wL (x * 4294967296))]) ∧ Below w.heap.size w w' := by
  have e1 := hide (show wrap64 (wrap64 (wH x * 4294967296) + wrap64 (wL x / 4294967296)) = wH (x * 4294967296) by unfold wrap64 wH wL; omega)
  have e2 := hide (show IntKind.u64.wrap (wL x * 4294967296) = wL (x * 4294967296) by rw [u64w]; unfold wL; omega)
  clear h
  go_enter Tryd.func26, Tryd.ntmps26
  go_wp2_with fail
  refine QT.tail_b 16 (by kernel_rfl) (by kernel_rfl) ?_
  simp only [List.take_succ_cons, List.take_zero, List.drop_succ_cons, List.drop_zero]
  repeat (first
    | go_big_quiet_skip
    | (go_big_quiet_want; go_big_quiet_op; first
      | go_big_quiet_on
      | (apply Exists.intro
         refine ⟨fun _ => ?_, ?_⟩
         · first
             | rfl
             | (intro hC; obtain ⟨hcq, hfq⟩ := bcellB hC; go_simp; done)
             | (intro hC; obtain ⟨hcq, hfq⟩ := bcellB hC; go_simp; rfl)
             | (intro hC; have hcq := bcellG hC; go_simp; done)
             | (intro hC; have hcq := bcellG hC; go_simp; rfl)
         go_big_quiet_on)))
  refine wpQuiet_nil ?_
  intro w9 hC9
  obtain ⟨hc9, hf9⟩ := bcellB hC9
  have hz9 := hC9.size
  go_wp2
  rw [← e1.out, ← e2.out]
  refine bodyPost_ret (v := .agg #[.int .i64 (wrap64 (wrap64 (wH x * 4294967296) + wrap64 (wL x / 4294967296))), .int .u64 (IntKind.u64.wrap (wL x * 4294967296))]) (by simp only [results, Tryd.results26]; go_simp) rfl ⟨rfl, (by repeat (first | with_reducible exact Below.refl _ _ | with_reducible refine bdrew ?_ | ((with_reducible first | refine bset ?_ ?_ | refine ball ?_ ?_ | refine bth (by assumption) ?_ ?_); first | omega | (simp <;> omega))))⟩
theorem rup65 (x : Int) (h : -4611686018427387904 ≤ x ∧ x < 4611686018427387904) (w : World) :
    Calls Tryd.prog 26 #[.agg #[.int .i64 (wH (x)), .int .u64 (wL (x))], .int .i64 65] w fun e w' => e = .returned (.agg #[.int .i64 (wH (x * 36893488147419103232)), .int .u64 (wL (x * 36893488147419103232))]) ∧ Below w.heap.size w w' := by
  have e1 := hide (show wrap64 (IntKind.u64.wrap (wL x * 2)) = wH (x * 36893488147419103232) by rw [u64w]; unfold wrap64 wH wL; omega)
  have e2 := hide (show (0 : Int) = wL (x * 36893488147419103232) by unfold wL; omega)
  clear h
  go_enter Tryd.func26, Tryd.ntmps26
  go_wp2
  rw [← e1.out, ← e2.out]
  refine bodyPost_ret (v := .agg #[.int .i64 (wrap64 (IntKind.u64.wrap (wL x * 2))), .int .u64 0]) (by simp only [results, Tryd.results26]; go_simp) rfl ⟨rfl, (by repeat (first | with_reducible exact Below.refl _ _ | with_reducible refine bdrew ?_ | ((with_reducible first | refine bset ?_ ?_ | refine ball ?_ ?_ | refine bth (by assumption) ?_ ?_); first | omega | (simp <;> omega))))⟩
theorem down_n {h l : Int} (c : h.tmod 4294967296 < 0) (hh : I64 h) (hl : 0 ≤ l ∧ l < 18446744073709551616) :
    wrap64 (wrap64 (h.tdiv 4294967296) - 1) = h / 4294967296 ∧
    IntKind.u64.wrap (IntKind.u64.wrap (IntKind.u64.wrap (wrap64 (h - wrap64 (wrap64 (wrap64 (h.tdiv 4294967296) - 1) * 4294967296))) * 4294967296) + IntKind.u64.wrap (l.tdiv 4294967296)) = (h % 4294967296) * 4294967296 + l / 4294967296 := by
  obtain ⟨_, _⟩ := hh
  have e0 : l.tdiv 4294967296 = l / 4294967296 := Int.tdiv_eq_ediv_of_nonneg hl.1
  have hneg : h < 0 := by
    by_cases hp : 0 ≤ h
    · have := Int.tmod_nonneg 4294967296 hp; omega
    · omega
  have e1 : h.tdiv 4294967296 = -((-h) / 4294967296) := by
    have h2 := Int.neg_tdiv (a := -h) (b := 4294967296)
    rw [Int.neg_neg] at h2
    rw [h2, Int.tdiv_eq_ediv_of_nonneg (by omega)]
  have e2 : h.tmod 4294967296 = -((-h) % 4294967296) := by
    have h2 := Int.neg_tmod (a := -h) (b := 4294967296)
    rw [Int.neg_neg] at h2
    rw [h2, Int.tmod_eq_emod_of_nonneg (by omega)]
  rw [e2] at c
  rw [e0, e1]
  simp only [u64w]
  unfold wrap64
  constructor <;> omega
theorem down_p {h l : Int} (c : 0 ≤ h.tmod 4294967296) (hh : I64 h) (hl : 0 ≤ l ∧ l < 18446744073709551616) :
    wrap64 (h.tdiv 4294967296) = h / 4294967296 ∧
    IntKind.u64.wrap (IntKind.u64.wrap (IntKind.u64.wrap (wrap64 (h - wrap64 (wrap64 (h.tdiv 4294967296) * 4294967296))) * 4294967296) + IntKind.u64.wrap (l.tdiv 4294967296)) = (h % 4294967296) * 4294967296 + l / 4294967296 := by
  obtain ⟨_, _⟩ := hh
  have e0 : l.tdiv 4294967296 = l / 4294967296 := Int.tdiv_eq_ediv_of_nonneg hl.1
  have e1 : h.tdiv 4294967296 = h / 4294967296 := by
    by_cases hp : 0 ≤ h
    · exact Int.tdiv_eq_ediv_of_nonneg hp
    · have h2 := Int.neg_tdiv (a := -h) (b := 4294967296)
      have h3 := Int.neg_tmod (a := -h) (b := 4294967296)
      rw [Int.neg_neg] at h2 h3
      rw [h3, Int.tmod_eq_emod_of_nonneg (by omega)] at c
      rw [h2, Int.tdiv_eq_ediv_of_nonneg (by omega)]
      omega
  rw [e0, e1]
  simp only [u64w]
  unfold wrap64
  constructor <;> omega
theorem R127.H {x : Int} (h : R127 x) : I64 (wH x) := by obtain ⟨_, _⟩ := h; unfold wH I64; omega
theorem wL_bd (x : Int) : 0 ≤ wL x ∧ wL x < 18446744073709551616 := by unfold wL; omega
theorem down_e (x : Int) : wH x / 4294967296 = wH (x / 4294967296) ∧ (wH x % 4294967296) * 4294967296 + wL x / 4294967296 = wL (x / 4294967296) := by unfold wH wL; constructor <;> omega
theorem and1_u64 (y : Int) (h0 : 0 ≤ y) (h1 : y < 18446744073709551616) : bits .and .u64 y 1 = y % 2 := by
  show IntKind.u64.wrap ((BitVec.ofInt 64 y &&& BitVec.ofInt 64 1).toNat : Int) = _
  rw [BitVec.toNat_and, BitVec.toNat_ofInt, show (BitVec.ofInt 64 1).toNat = 1 from by decide, Nat.and_one_is_mod, u64w]
  omega
theorem and1_i64 (y : Int) (h0 : 0 ≤ y) (h1 : y < 9223372036854775808) : bits .and .i64 y 1 = y % 2 := by
  show IntKind.i64.wrap ((BitVec.ofInt 64 y &&& BitVec.ofInt 64 1).toNat : Int) = _
  rw [BitVec.toNat_and, BitVec.toNat_ofInt, show (BitVec.ofInt 64 1).toNat = 1 from by decide, Nat.and_one_is_mod, IntKind.wrap_i64]
  omega
/-- The k-th bit of a number. -/
def bitB (n k : Nat) : Bool := n.testBit k
theorem bit_low (n k : Nat) (hk : k < 64) : (bits .and .u64 (wL (n : Int) / 2 ^ k) 1 == 1) = bitB n k := by
  have e : wL (n : Int) / 2 ^ k = ((n % 2 ^ 64 / 2 ^ k : Nat) : Int) := by simp [wL]
  have hb : n % 2 ^ 64 / 2 ^ k < 2 ^ 64 := Nat.lt_of_le_of_lt (Nat.div_le_self _ _) (Nat.mod_lt _ (by decide))
  rw [e]
  generalize hm : n % 2 ^ 64 / 2 ^ k = m at *
  rw [and1_u64 _ (by omega) (by omega)]
  have h := Nat.testBit_mod_two_pow n 64 k
  rw [decide_eq_true hk, Bool.true_and, Nat.testBit_eq_decide_div_mod_eq] at h
  unfold bitB
  rw [← h, hm, Bool.eq_iff_iff, beq_iff_eq, decide_eq_true_eq]
  omega
theorem bit_high (n k : Nat) (hn : n < 2 ^ 127) (hk : 64 ≤ k) : (bits .and .i64 (wH (n : Int) / 2 ^ (k - 64)) 1 == 1) = bitB n k := by
  have e : wH (n : Int) / 2 ^ (k - 64) = ((n / 2 ^ k : Nat) : Int) := by
    have h2 : 2 ^ k = 2 ^ 64 * 2 ^ (k - 64) := by rw [← Nat.pow_add]; congr 1; omega
    rw [h2, ← Nat.div_div_eq_div_mul]
    simp [wH]
  have hb : n / 2 ^ k < 2 ^ 63 := by
    refine Nat.lt_of_le_of_lt (Nat.div_le_div_left (Nat.pow_le_pow_right (by decide) hk) (by decide)) ?_
    omega
  unfold bitB
  rw [e, Nat.testBit_eq_decide_div_mod_eq]
  generalize n / 2 ^ k = m at *
  rw [and1_i64 _ (by omega) (by omega), Bool.eq_iff_iff, beq_iff_eq, decide_eq_true_eq]
  omega
end Go.Proofs.YtlcbcanlehackaaDoor
