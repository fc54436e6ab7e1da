/- Shares of products, rounded outward. -/
import Derived.Test.YtlcbcanlehackaaDoorDiv64
import Derived.Test.YtlcbcanlehackaaDoorOut
import Derived.Test.YtlcbcanlehackaaDoorQuo
set_option linter.unusedVariables false
set_option linter.unusedSimpArgs false
namespace Go.Proofs.YtlcbcanlehackaaDoor
open Go.RowKit
/-- The absolute value. -/
def ab (x : Int) : Int := if x < 0 then -x else x
theorem ab_n {x : Int} (h : x < 0) : ab x = -x := if_pos h
theorem ab_p {x : Int} (h : 0 ≤ x) : ab x = x := if_neg (by omega)
theorem ab_bd {x : Int} (h : I64 x) : 0 ≤ ab x ∧ ab x ≤ 9223372036854775808 := by obtain ⟨_, _⟩ := h; unfold ab; split <;> omega
theorem size_any (x : Int) (h : I64 x) (w : World) :
    Calls Tryd.prog 47 #[.int .i64 x] w fun e w' => e = .returned (.int .u64 (ab x)) ∧ Below w.heap.size w w' := by
  obtain ⟨h0, h1⟩ := h
  by_cases c : x < 0
  · have E := hide (ab_n c)
    have e1 : IntKind.u64.wrap (-IntKind.u64.wrap x) = -x := by rw [IntKind.wrap_u64, IntKind.wrap_u64]; omega
    go_enter Tryd.func47, Tryd.ntmps47
    go_wp2
    go_ret
    exact ⟨by rw [E.out]; rfl, (by repeat (first | with_reducible exact Below.refl _ _ | with_reducible refine bdrew ?_ | ((with_reducible first | refine bset ?_ ?_ | refine ball ?_ ?_ | refine bth (by assumption) ?_ ?_); first | omega | (simp <;> omega))))⟩
  · have E := hide (ab_p (x := x) (by omega))
    have e1 : IntKind.u64.wrap x = x := by rw [IntKind.wrap_u64]; omega
    go_enter Tryd.func47, Tryd.ntmps47
    go_wp2
    go_ret
    exact ⟨by rw [E.out]; rfl, (by repeat (first | with_reducible exact Below.refl _ _ | with_reducible refine bdrew ?_ | ((with_reducible first | refine bset ?_ ?_ | refine ball ?_ ?_ | refine bth (by assumption) ?_ ?_); first | omega | (simp <;> omega))))⟩
def bI (b : Bool) : Int := if b then 1 else 0
theorem outward_any (neg rest : Bool) (n lo hi : Int) (hn : 0 ≤ n ∧ n < 18446744073709551616) (hlo : lo = if neg then -(n + bI rest) else n) (hhi : hi = if neg then -n else n + bI rest) (w : World) :
    Calls Tryd.prog 42 #[.bool neg, .int .u64 n, .bool rest] w fun e w' => e = .returned (.tuple #[.agg #[.int .i64 (oLo lo hi), .int .i64 (oHi lo hi)], .int .i64 (oE lo hi)]) ∧ Below w.heap.size w w' := by
  by_cases c1 : 9223372036854775807 < n
  · have E := hide (out_f (lo := lo) (hi := hi) (decide_eq_false (by cases neg <;> cases rest <;> simp [bI] at hlo hhi <;> omega)))
    clear hlo hhi
    go_enter Tryd.func42, Tryd.ntmps42
    go_wp2
    rw [E.out.1, E.out.2.1, E.out.2.2]
    refine bodyPost_ret (v := .tuple #[.agg #[.int .i64 (0), .int .i64 (0)], .int .i64 4]) (by simp only [results, Tryd.results42]; go_simp) rfl ⟨rfl, (by repeat (first | with_reducible exact Below.refl _ _ | with_reducible refine bdrew ?_ | ((with_reducible first | refine bset ?_ ?_ | refine ball ?_ ?_ | refine bth (by assumption) ?_ ?_); first | omega | (simp <;> omega))))⟩
  · by_cases c2 : n = 9223372036854775807
    · cases rest
      · have E := hide (out_t (lo := lo) (hi := hi) (decide_eq_true (by cases neg <;> simp [bI] at hlo hhi <;> omega)))
        have e1 : IntKind.i64.wrap n = n := by rw [IntKind.wrap_i64]; omega
        cases neg
        · simp [bI] at hlo hhi
          have HL := hide hlo
          have HH := hide hhi
          clear hlo hhi
          go_enter Tryd.func42, Tryd.ntmps42
          go_wp2
          rw [E.out.1, E.out.2.1, E.out.2.2, HL.out, HH.out]
          refine bodyPost_ret (v := .tuple #[.agg #[.int .i64 (n), .int .i64 (n)], .int .i64 0]) (by simp only [results, Tryd.results42]; go_simp) rfl ⟨rfl, (by repeat (first | with_reducible exact Below.refl _ _ | with_reducible refine bdrew ?_ | ((with_reducible first | refine bset ?_ ?_ | refine ball ?_ ?_ | refine bth (by assumption) ?_ ?_); first | omega | (simp <;> omega))))⟩
        · simp [bI] at hlo hhi
          have HL := hide hlo
          have HH := hide hhi
          clear hlo hhi
          go_enter Tryd.func42, Tryd.ntmps42
          go_wp2
          rw [E.out.1, E.out.2.1, E.out.2.2, HL.out, HH.out]
          refine bodyPost_ret (v := .tuple #[.agg #[.int .i64 (-n), .int .i64 (-n)], .int .i64 0]) (by simp only [results, Tryd.results42]; go_simp) rfl ⟨rfl, (by repeat (first | with_reducible exact Below.refl _ _ | with_reducible refine bdrew ?_ | ((with_reducible first | refine bset ?_ ?_ | refine ball ?_ ?_ | refine bth (by assumption) ?_ ?_); first | omega | (simp <;> omega))))⟩
      · have E := hide (out_f (lo := lo) (hi := hi) (decide_eq_false (by cases neg <;> simp [bI] at hlo hhi <;> omega)))
        clear hlo hhi
        go_enter Tryd.func42, Tryd.ntmps42
        go_wp2
        rw [E.out.1, E.out.2.1, E.out.2.2]
        refine bodyPost_ret (v := .tuple #[.agg #[.int .i64 (0), .int .i64 (0)], .int .i64 4]) (by simp only [results, Tryd.results42]; go_simp) rfl ⟨rfl, (by repeat (first | with_reducible exact Below.refl _ _ | with_reducible refine bdrew ?_ | ((with_reducible first | refine bset ?_ ?_ | refine ball ?_ ?_ | refine bth (by assumption) ?_ ?_); first | omega | (simp <;> omega))))⟩
    · have E := hide (out_t (lo := lo) (hi := hi) (decide_eq_true (by cases neg <;> cases rest <;> simp [bI] at hlo hhi <;> omega)))
      have e1 : IntKind.i64.wrap n = n := by rw [IntKind.wrap_i64]; omega
      have e2 : IntKind.i64.wrap (n + 1) = n + 1 := by rw [IntKind.wrap_i64]; omega
      cases rest
      · cases neg
        · simp [bI] at hlo hhi
          have HL := hide hlo
          have HH := hide hhi
          clear hlo hhi
          go_enter Tryd.func42, Tryd.ntmps42
          go_wp2
          rw [E.out.1, E.out.2.1, E.out.2.2, HL.out, HH.out]
          refine bodyPost_ret (v := .tuple #[.agg #[.int .i64 (n), .int .i64 (n)], .int .i64 0]) (by simp only [results, Tryd.results42]; go_simp) rfl ⟨rfl, (by repeat (first | with_reducible exact Below.refl _ _ | with_reducible refine bdrew ?_ | ((with_reducible first | refine bset ?_ ?_ | refine ball ?_ ?_ | refine bth (by assumption) ?_ ?_); first | omega | (simp <;> omega))))⟩
        · simp [bI] at hlo hhi
          have HL := hide hlo
          have HH := hide hhi
          clear hlo hhi
          go_enter Tryd.func42, Tryd.ntmps42
          go_wp2
          rw [E.out.1, E.out.2.1, E.out.2.2, HL.out, HH.out]
          refine bodyPost_ret (v := .tuple #[.agg #[.int .i64 (-n), .int .i64 (-n)], .int .i64 0]) (by simp only [results, Tryd.results42]; go_simp) rfl ⟨rfl, (by repeat (first | with_reducible exact Below.refl _ _ | with_reducible refine bdrew ?_ | ((with_reducible first | refine bset ?_ ?_ | refine ball ?_ ?_ | refine bth (by assumption) ?_ ?_); first | omega | (simp <;> omega))))⟩
      · cases neg
        · simp [bI] at hlo hhi
          have HL := hide hlo
          have HH := hide hhi
          clear hlo hhi
          go_enter Tryd.func42, Tryd.ntmps42
          go_wp2
          rw [E.out.1, E.out.2.1, E.out.2.2, HL.out, HH.out]
          refine bodyPost_ret (v := .tuple #[.agg #[.int .i64 (n), .int .i64 (n + 1)], .int .i64 0]) (by simp only [results, Tryd.results42]; go_simp) rfl ⟨rfl, (by repeat (first | with_reducible exact Below.refl _ _ | with_reducible refine bdrew ?_ | ((with_reducible first | refine bset ?_ ?_ | refine ball ?_ ?_ | refine bth (by assumption) ?_ ?_); first | omega | (simp <;> omega))))⟩
        · simp only [bI, if_true] at hlo hhi
          have HL := hide hlo
          have HH := hide hhi
          clear hlo hhi
          go_enter Tryd.func42, Tryd.ntmps42
          go_wp2
          rw [E.out.1, E.out.2.1, E.out.2.2, HL.out, HH.out]
          refine bodyPost_ret (v := .tuple #[.agg #[.int .i64 (-(n + 1)), .int .i64 (-n)], .int .i64 0]) (by simp only [results, Tryd.results42]; go_simp) rfl ⟨rfl, (by repeat (first | with_reducible exact Below.refl _ _ | with_reducible refine bdrew ?_ | ((with_reducible first | refine bset ?_ ?_ | refine ball ?_ ?_ | refine bth (by assumption) ?_ ?_); first | omega | (simp <;> omega))))⟩
/-- The numerator with the divisor's sign taken to it. -/
def sN (x y d : Int) : Int := if d < 0 then -(x * y) else x * y
def sL (x y d : Int) : Int := sN x y d / ab d
def sH (x y d : Int) : Int := cdiv (sN x y d) (ab d)
def sneg (x y d : Int) : Bool := (decide (x < 0) != decide (y < 0)) != decide (d < 0)
theorem ab_mul (x y : Int) : ab x * ab y = if (decide (x < 0) != decide (y < 0)) then -(x * y) else x * y := by
  by_cases hx : x < 0 <;> by_cases hy : y < 0 <;> simp [ab, hx, hy, Int.neg_mul, Int.mul_neg]
theorem sN_eq (x y d : Int) : sN x y d = if sneg x y d then -(ab x * ab y) else ab x * ab y := by
  rw [ab_mul]
  unfold sN sneg
  cases (decide (x < 0) != decide (y < 0)) <;> by_cases hd : d < 0 <;> simp [hd]
theorem share_ends (M b S : Int) (neg : Bool) (hb : 0 < b) (h : S = if neg then -M else M) :
    S / b = (if neg then -(M / b + bI (!(M % b == 0))) else M / b) ∧ cdiv S b = (if neg then -(M / b) else M / b + bI (!(M % b == 0))) := by
  subst h
  have hc : cdiv M b = M / b + bI (!(M % b == 0)) := by
    by_cases h : M % b = 0
    · rw [cdiv_zero h]; simp [bI, h]
    · rw [cdiv_pos hb h]; simp [bI, h]
  cases neg
  · exact ⟨rfl, hc⟩
  · simp only [if_true]
    refine ⟨?_, ?_⟩
    · rw [← hc]; unfold cdiv; omega
    · unfold cdiv; rw [Int.neg_neg]
theorem share_no {M b S : Int} (neg : Bool) (hb : 0 < b) (h : S = if neg then -M else M) (hM : b * 18446744073709551616 ≤ M) : fits (S / b) (cdiv S b) = false := by
  obtain ⟨e1, e2⟩ := share_ends M b S neg hb h
  have q : 18446744073709551616 ≤ M / b := (Int.le_ediv_iff_mul_le hb).2 (by omega)
  have r : 0 ≤ bI (!(M % b == 0)) := by unfold bI; split <;> omega
  rw [e1, e2]
  apply decide_eq_false
  cases neg
  · simp only [Bool.false_eq_true, if_false]; omega
  · simp only [if_true]; omega
set_option maxHeartbeats 1000000 in
theorem share_any (x y d : Int) (ix : I64 x) (iy : I64 y) (jd : I64 d) (hd : ¬ d = 0) (w : World) :
    Calls Tryd.prog 62 #[.int .i64 x, .int .i64 y, .int .i64 d] w fun e w' => e = .returned (.tuple #[.agg #[.int .i64 (oLo (sL x y d) (sH x y d)), .int .i64 (oHi (sL x y d) (sH x y d))], .int .i64 (oE (sL x y d) (sH x y d))]) ∧ Below w.heap.size w w' := by
  have SX := hide (size_any x ix)
  have SY := hide (size_any y iy)
  have SD := hide (size_any d jd)
  obtain ⟨bx0, bx1⟩ := ab_bd ix
  obtain ⟨by0, by1⟩ := ab_bd iy
  obtain ⟨bd0, bd1⟩ := ab_bd jd
  have bd2 : 0 < ab d := by unfold ab; split <;> omega
  have hS := sN_eq x y d
  have MU := hide (mul64 (ab x) (ab y) ⟨bx0, by omega⟩ ⟨by0, by omega⟩)
  have m0 : 0 ≤ ab x * ab y := Int.mul_nonneg bx0 by0
  have m1 : ab x * ab y ≤ 9223372036854775808 * 9223372036854775808 := Int.mul_le_mul bx1 by1 by0 (by omega)
  have hends := share_ends (ab x * ab y) (ab d) (sN x y d) (sneg x y d) bd2 hS
  have hno := share_no (M := ab x * ab y) (b := ab d) (S := sN x y d) (sneg x y d) bd2 hS
  change sL x y d = _ ∧ sH x y d = _ at hends
  change _ → fits (sL x y d) (sH x y d) = false at hno
  obtain ⟨NG, hNG⟩ : ∃ b, sneg x y d = b := ⟨_, rfl⟩
  have hNG' : ((decide (x < 0) != decide (y < 0)) != decide (d < 0)) = NG := hNG
  rw [hNG] at hends
  generalize ab x * ab y = M at *
  generalize ab x = X at *
  generalize ab y = Y at *
  generalize ab d = D at *
  generalize sL x y d = LO at *
  generalize sH x y d = HI at *
  clear hS
  have HNG := hide hNG'
  clear hNG hNG'
  by_cases c : D ≤ M / 18446744073709551616
  · have E := hide (out_f (lo := LO) (hi := HI) (hno (by omega)))
    clear hends hno ix iy jd bx0 bx1 by0 by1 m0 m1 bd0 bd1 bd2
    go_enter Tryd.func62, Tryd.ntmps62
    go_wp2_with fail
    refine (SX.out _).mono ?_
    rintro e w1 ⟨rfl, hb1⟩
    obtain ⟨hc1, hf1⟩ := bcell hb1
    have hz1 := hb1.size
    try simp only [World.size_alloc, World.size_setCell] at hz1
    try have : w.heap.size < w1.heap.size := by omega
    try have : w.heap.size ≤ w1.heap.size := by omega
    go_wp2_with fail
    refine (SY.out _).mono ?_
    rintro e w2 ⟨rfl, hb2⟩
    obtain ⟨hc2, hf2⟩ := bcell hb2
    have hz2 := hb2.size
    try simp only [World.size_alloc, World.size_setCell] at hz2
    try have : w.heap.size < w2.heap.size := by omega
    try have : w.heap.size ≤ w2.heap.size := by omega
    try have : w1.heap.size < w2.heap.size := by omega
    try have : w1.heap.size ≤ w2.heap.size := by omega
    go_wp2_with fail
    refine (MU.out _).mono ?_
    rintro e w3 ⟨rfl, rfl⟩
    go_wp2_with fail
    refine (SD.out _).mono ?_
    rintro e w4 ⟨rfl, hb4⟩
    obtain ⟨hc4, hf4⟩ := bcell hb4
    have hz4 := hb4.size
    try simp only [World.size_alloc, World.size_setCell] at hz4
    try have : w.heap.size < w4.heap.size := by omega
    try have : w.heap.size ≤ w4.heap.size := by omega
    go_wp2
    rw [E.out.1, E.out.2.1, E.out.2.2]
    refine bodyPost_ret (v := .tuple #[.agg #[.int .i64 (0), .int .i64 (0)], .int .i64 4]) (by simp only [results, Tryd.results62]; go_simp) rfl ⟨rfl, (by repeat (first | with_reducible exact Below.refl _ _ | with_reducible refine bdrew ?_ | ((with_reducible first | refine bset ?_ ?_ | refine ball ?_ ?_ | refine bth (by assumption) ?_ ?_); first | omega | (simp <;> omega))))⟩
  · have hq : 0 ≤ M / D := Int.ediv_nonneg m0 (by omega)
    have hq2 : M / D < 18446744073709551616 := Int.ediv_lt_of_lt_mul bd2 (by omega)
    have ow := outward_any NG (!(M % D == 0)) (M / D) LO HI ⟨hq, hq2⟩ hends.1 hends.2
    rw [← HNG.out] at ow
    have OW := hide ow
    clear ow
    have hsplit : M / 18446744073709551616 * 18446744073709551616 + M % 18446744073709551616 = M := by omega
    have DV : Hid (∀ w : World, Calls Tryd.prog 77 #[.int .u64 (M / 18446744073709551616), .int .u64 (M % 18446744073709551616), .int .u64 D] w fun e w' => e = .returned (.tuple #[.int .u64 (M / D), .int .u64 (M % D)]) ∧ Below w.heap.size w w') := hide (by
      intro w
      by_cases z : M / 18446744073709551616 = 0
      · have := div64_s (M % 18446744073709551616) D (by omega) (by omega) w
        have e : M % 18446744073709551616 = M := by omega
        rw [z]
        rw [e] at this ⊢
        exact this
      · have := div64_b (M / 18446744073709551616) (M % 18446744073709551616) D (by omega) (by omega) (by omega) w
        rw [hsplit] at this
        exact this)
    clear hends hno ix iy jd bx0 bx1 by0 by1 m0 m1 bd0 bd1 bd2 hq hq2 hsplit
    go_enter Tryd.func62, Tryd.ntmps62
    go_wp2_with fail
    refine (SX.out _).mono ?_
    rintro e w1 ⟨rfl, hb1⟩
    obtain ⟨hc1, hf1⟩ := bcell hb1
    have hz1 := hb1.size
    try simp only [World.size_alloc, World.size_setCell] at hz1
    try have : w.heap.size < w1.heap.size := by omega
    try have : w.heap.size ≤ w1.heap.size := by omega
    go_wp2_with fail
    refine (SY.out _).mono ?_
    rintro e w2 ⟨rfl, hb2⟩
    obtain ⟨hc2, hf2⟩ := bcell hb2
    have hz2 := hb2.size
    try simp only [World.size_alloc, World.size_setCell] at hz2
    try have : w.heap.size < w2.heap.size := by omega
    try have : w.heap.size ≤ w2.heap.size := by omega
    try have : w1.heap.size < w2.heap.size := by omega
    try have : w1.heap.size ≤ w2.heap.size := by omega
    go_wp2_with fail
    refine (MU.out _).mono ?_
    rintro e w3 ⟨rfl, rfl⟩
    go_wp2_with fail
    refine (SD.out _).mono ?_
    rintro e w4 ⟨rfl, hb4⟩
    obtain ⟨hc4, hf4⟩ := bcell hb4
    have hz4 := hb4.size
    try simp only [World.size_alloc, World.size_setCell] at hz4
    try have : w.heap.size < w4.heap.size := by omega
    try have : w.heap.size ≤ w4.heap.size := by omega
    go_wp2_with fail
    refine (DV.out _).mono ?_
    rintro e w5 ⟨rfl, hb5⟩
    obtain ⟨hc5, hf5⟩ := bcell hb5
    have hz5 := hb5.size
    try simp only [World.size_alloc, World.size_setCell] at hz5
    try have : w.heap.size < w5.heap.size := by omega
    try have : w.heap.size ≤ w5.heap.size := by omega
    try have : w4.heap.size < w5.heap.size := by omega
    try have : w4.heap.size ≤ w5.heap.size := by omega
    go_wp2_with fail
    refine (OW.out _).mono ?_
    rintro e w6 ⟨rfl, hb6⟩
    obtain ⟨hc6, hf6⟩ := bcell hb6
    have hz6 := hb6.size
    try simp only [World.size_alloc, World.size_setCell] at hz6
    try have : w.heap.size < w6.heap.size := by omega
    try have : w.heap.size ≤ w6.heap.size := by omega
    try have : w4.heap.size < w6.heap.size := by omega
    try have : w4.heap.size ≤ w6.heap.size := by omega
    try have : w5.heap.size < w6.heap.size := by omega
    try have : w5.heap.size ≤ w6.heap.size := by omega
    go_wp2
    refine bodyPost_ret (v := .tuple #[.agg #[.int .i64 (oLo LO HI), .int .i64 (oHi LO HI)], .int .i64 (oE LO HI)]) (by simp only [results, Tryd.results62]; go_simp) rfl ⟨rfl, (by repeat (first | with_reducible exact Below.refl _ _ | with_reducible refine bdrew ?_ | ((with_reducible first | refine bset ?_ ?_ | refine ball ?_ ?_ | refine bth (by assumption) ?_ ?_); first | omega | (simp <;> omega))))⟩
end Go.Proofs.YtlcbcanlehackaaDoor
