/- Packed: Share Ends Times Scale Mul. -/
import Derived.Test.YtacpahebbnnckaaP5
import Derived.Test.YtacpahebbnnckaaP6
import Derived.Test.YtacpahebbnnckaaP18
import Derived.Test.YtacpahebbnnckaaP19
set_option linter.unusedVariables false
set_option linter.unusedSimpArgs false
namespace Go.Proofs.Ytacpahebbnnckaa
section
open Go.RowKit
def ab (x : Int) : Int := if x < 0 then -x else x
theorem ab_n {x : Int} (h : x < 0) : ab x = -x := if_pos h
theorem ab_p {x : Int} (h : 0 ≤ x) : ab x = x := if_neg (by omega)
theorem ab_bd {x : Int} (h : I64 x) : 0 ≤ ab x ∧ ab x ≤ 9223372036854775808 := by obtain ⟨_, _⟩ := h; unfold ab; split <;> omega
theorem size_any (x : Int) (h : I64 x) (w : World) :
  Calls Try.prog 139 #[.int .i64 x] w fun e w' => e = .returned (.int .u64 (ab x)) ∧ Below w.heap.size w w' := by
 obtain ⟨h0, h1⟩ := h
 by_cases c : x < 0
 ·have E := hide (ab_n c)
  have e1 : IntKind.u64.wrap (-IntKind.u64.wrap x) = -x := by rw [IntKind.wrap_u64, IntKind.wrap_u64]; omega
  go_enter Try.func139, Try.ntmps139
  go_wp2
  go_ret
  exact ⟨by rw [E.out]; rfl, blw_⟩
 ·have E := hide (ab_p (x := x) (by omega))
  have e1 : IntKind.u64.wrap x = x := by rw [IntKind.wrap_u64]; omega
  go_enter Try.func139, Try.ntmps139
  go_wp2
  go_ret
  exact ⟨by rw [E.out]; rfl, blw_⟩
def bI (b : Bool) : Int := if b then 1 else 0
theorem outward_any (neg rest : Bool) (n lo hi : Int) (hn : 0 ≤ n ∧ n < 18446744073709551616) (hlo : lo = if neg then -(n + bI rest) else n) (hhi : hi = if neg then -n else n + bI rest) (w : World) :
  Calls Try.prog 141 #[.bool neg, .int .u64 n, .bool rest] w fun e w' => e = .returned (.tuple #[.agg #[.int .i64 (oLo lo hi), .int .i64 (oHi lo hi)], .int .i64 (oE lo hi)]) ∧ Below w.heap.size w w' := by
 by_cases c1 : 9223372036854775807 < n
 ·have E := hide (out_f (lo := lo) (hi := hi) (decide_eq_false (by cases neg <;> cases rest <;> simp [bI] at hlo hhi <;> omega)))
  clear hlo hhi
  go_enter Try.func141, Try.ntmps141
  go_wp2
  rw [E.out.1, E.out.2.1, E.out.2.2]
  refine bodyPost_ret (v := .tuple #[.agg #[.int .i64 (0), .int .i64 (0)], .int .i64 4]) (by simp only [results, Try.results141]; go_simp) rfl ⟨rfl, blw_⟩
 ·by_cases c2 : n = 9223372036854775807
  ·cases rest
   ·have E := hide (out_t (lo := lo) (hi := hi) (decide_eq_true (by cases neg <;> simp [bI] at hlo hhi <;> omega)))
    have e1 : IntKind.i64.wrap n = n := by rw [IntKind.wrap_i64]; omega
    cases neg
    ·simp [bI] at hlo hhi
     have HL := hide hlo
     have HH := hide hhi
     clear hlo hhi
     go_enter Try.func141, Try.ntmps141
     go_wp2
     rw [E.out.1, E.out.2.1, E.out.2.2, HL.out, HH.out]
     refine bodyPost_ret (v := .tuple #[.agg #[.int .i64 (n), .int .i64 (n)], .int .i64 0]) (by simp only [results, Try.results141]; go_simp) rfl ⟨rfl, blw_⟩
    ·simp [bI] at hlo hhi
     have HL := hide hlo
     have HH := hide hhi
     clear hlo hhi
     go_enter Try.func141, Try.ntmps141
     go_wp2
     rw [E.out.1, E.out.2.1, E.out.2.2, HL.out, HH.out]
     refine bodyPost_ret (v := .tuple #[.agg #[.int .i64 (-n), .int .i64 (-n)], .int .i64 0]) (by simp only [results, Try.results141]; go_simp) rfl ⟨rfl, blw_⟩
   ·have E := hide (out_f (lo := lo) (hi := hi) (decide_eq_false (by cases neg <;> simp [bI] at hlo hhi <;> omega)))
    clear hlo hhi
    go_enter Try.func141, Try.ntmps141
    go_wp2
    rw [E.out.1, E.out.2.1, E.out.2.2]
    refine bodyPost_ret (v := .tuple #[.agg #[.int .i64 (0), .int .i64 (0)], .int .i64 4]) (by simp only [results, Try.results141]; go_simp) rfl ⟨rfl, blw_⟩
  ·have E := hide (out_t (lo := lo) (hi := hi) (decide_eq_true (by cases neg <;> cases rest <;> simp [bI] at hlo hhi <;> omega)))
   have e1 : IntKind.i64.wrap n = n := by rw [IntKind.wrap_i64]; omega
   have e2 : IntKind.i64.wrap (n + 1) = n + 1 := by rw [IntKind.wrap_i64]; omega
   cases rest
   ·cases neg
    ·simp [bI] at hlo hhi
     have HL := hide hlo
     have HH := hide hhi
     clear hlo hhi
     go_enter Try.func141, Try.ntmps141
     go_wp2
     rw [E.out.1, E.out.2.1, E.out.2.2, HL.out, HH.out]
     refine bodyPost_ret (v := .tuple #[.agg #[.int .i64 (n), .int .i64 (n)], .int .i64 0]) (by simp only [results, Try.results141]; go_simp) rfl ⟨rfl, blw_⟩
    ·simp [bI] at hlo hhi
     have HL := hide hlo
     have HH := hide hhi
     clear hlo hhi
     go_enter Try.func141, Try.ntmps141
     go_wp2
     rw [E.out.1, E.out.2.1, E.out.2.2, HL.out, HH.out]
     refine bodyPost_ret (v := .tuple #[.agg #[.int .i64 (-n), .int .i64 (-n)], .int .i64 0]) (by simp only [results, Try.results141]; go_simp) rfl ⟨rfl, blw_⟩
   ·cases neg
    ·simp [bI] at hlo hhi
     have HL := hide hlo
     have HH := hide hhi
     clear hlo hhi
     go_enter Try.func141, Try.ntmps141
     go_wp2
     rw [E.out.1, E.out.2.1, E.out.2.2, HL.out, HH.out]
     refine bodyPost_ret (v := .tuple #[.agg #[.int .i64 (n), .int .i64 (n + 1)], .int .i64 0]) (by simp only [results, Try.results141]; go_simp) rfl ⟨rfl, blw_⟩
    ·simp only [bI, if_true] at hlo hhi
     have HL := hide hlo
     have HH := hide hhi
     clear hlo hhi
     go_enter Try.func141, Try.ntmps141
     go_wp2
     rw [E.out.1, E.out.2.1, E.out.2.2, HL.out, HH.out]
     refine bodyPost_ret (v := .tuple #[.agg #[.int .i64 (-(n + 1)), .int .i64 (-n)], .int .i64 0]) (by simp only [results, Try.results141]; go_simp) rfl ⟨rfl, blw_⟩
def sN (x y d : Int) : Int := if d < 0 then -(x * y) else x * y
def sL (x y d : Int) : Int := sN x y d / ab d
def sH (x y d : Int) : Int := cdiv (sN x y d) (ab d)
def sneg (x y d : Int) : Bool := (decide (x < 0) != decide (y < 0)) != decide (d < 0)
theorem ab_mul (x y : Int) : ab x * ab y = if (decide (x < 0) != decide (y < 0)) then -(x * y) else x * y := by
 by_cases hx : x < 0 <;> by_cases hy : y < 0 <;> simp [ab, hx, hy, Int.neg_mul, Int.mul_neg]
theorem sN_eq (x y d : Int) : sN x y d = if sneg x y d then -(ab x * ab y) else ab x * ab y := by
 rw [ab_mul]
 unfold sN sneg
 cases (decide (x < 0) != decide (y < 0)) <;> by_cases hd : d < 0 <;> simp [hd]
theorem share_ends (M b S : Int) (neg : Bool) (hb : 0 < b) (h : S = if neg then -M else M) :
  S / b = (if neg then -(M / b + bI (!(M % b == 0))) else M / b) ∧ cdiv S b = (if neg then -(M / b) else M / b + bI (!(M % b == 0))) := by
 subst h
 have hc : cdiv M b = M / b + bI (!(M % b == 0)) := by
  by_cases h : M % b = 0
  ·rw [cdiv_zero h]; simp [bI, h]
  ·rw [cdiv_pos hb h]; simp [bI, h]
 cases neg
 ·exact ⟨rfl, hc⟩
 ·simp only [if_true]
  refine ⟨?_, ?_⟩
  ·rw [← hc]; unfold cdiv; omega
  ·unfold cdiv; rw [Int.neg_neg]
theorem share_no {M b S : Int} (neg : Bool) (hb : 0 < b) (h : S = if neg then -M else M) (hM : b * 18446744073709551616 ≤ M) : fits (S / b) (cdiv S b) = false := by
 obtain ⟨e1, e2⟩ := share_ends M b S neg hb h
 have q : 18446744073709551616 ≤ M / b := (Int.le_ediv_iff_mul_le hb).2 (by omega)
 have r : 0 ≤ bI (!(M % b == 0)) := by unfold bI; split <;> omega
 rw [e1, e2]
 apply decide_eq_false
 cases neg
 ·simp only [Bool.false_eq_true, if_false]; omega
 ·simp only [if_true]; omega
set_option maxHeartbeats 1000000 in
theorem share_any (x y d : Int) (ix : I64 x) (iy : I64 y) (jd : I64 d) (hd : ¬ d = 0) (w : World) :
  Calls Try.prog 125 #[.int .i64 x, .int .i64 y, .int .i64 d] w fun e w' => e = .returned (.tuple #[.agg #[.int .i64 (oLo (sL x y d) (sH x y d)), .int .i64 (oHi (sL x y d) (sH x y d))], .int .i64 (oE (sL x y d) (sH x y d))]) ∧ Below w.heap.size w w' := by
 have SX := hide (size_any x ix)
 have SY := hide (size_any y iy)
 have SD := hide (size_any d jd)
 obtain ⟨bx0, bx1⟩ := ab_bd ix
 obtain ⟨by0, by1⟩ := ab_bd iy
 obtain ⟨bd0, bd1⟩ := ab_bd jd
 have bd2 : 0 < ab d := by unfold ab; split <;> omega
 have hS := sN_eq x y d
 have MU := hide (mul64 (ab x) (ab y) ⟨bx0, by omega⟩ ⟨by0, by omega⟩)
 have m0 : 0 ≤ ab x * ab y := Int.mul_nonneg bx0 by0
 have m1 : ab x * ab y ≤ 9223372036854775808 * 9223372036854775808 := Int.mul_le_mul bx1 by1 by0 (by omega)
 have hends := share_ends (ab x * ab y) (ab d) (sN x y d) (sneg x y d) bd2 hS
 have hno := share_no (M := ab x * ab y) (b := ab d) (S := sN x y d) (sneg x y d) bd2 hS
 change sL x y d = _ ∧ sH x y d = _ at hends
 change _ → fits (sL x y d) (sH x y d) = false at hno
 obtain ⟨NG, hNG⟩ : ∃ b, sneg x y d = b := ⟨_, rfl⟩
 have hNG' : ((decide (x < 0) != decide (y < 0)) != decide (d < 0)) = NG := hNG
 rw [hNG] at hends
 generalize ab x * ab y = M at *
 generalize ab x = X at *
 generalize ab y = Y at *
 generalize ab d = D at *
 generalize sL x y d = LO at *
 generalize sH x y d = HI at *
 clear hS
 have HNG := hide hNG'
 clear hNG hNG'
 by_cases c : D ≤ M / 18446744073709551616
 ·have E := hide (out_f (lo := LO) (hi := HI) (hno (by omega)))
  clear hends hno ix iy jd bx0 bx1 by0 by1 m0 m1 bd0 bd1 bd2
  go_enter Try.func125, Try.ntmps125
  go_wp2_with fail
  refine (SX.out _).mono ?_
  rintro e w1 ⟨rfl, hb1⟩
  obtain ⟨hc1, hf1⟩ := bcell hb1
  have hz1 := hb1.size
  try simp only [World.size_alloc, World.size_setCell] at hz1
  try refine zw1 w w1 (by omega) fun _ _ => ?_
  go_wp2_with fail
  refine (SY.out _).mono ?_
  rintro e w2 ⟨rfl, hb2⟩
  obtain ⟨hc2, hf2⟩ := bcell hb2
  have hz2 := hb2.size
  try simp only [World.size_alloc, World.size_setCell] at hz2
  try refine zw1 w w2 (by omega) fun _ _ => ?_
  try have : w1.heap.size < w2.heap.size := by omega
  try have : w1.heap.size ≤ w2.heap.size := by omega
  go_wp2_with fail
  refine (MU.out _).mono ?_
  rintro e w3 ⟨rfl, rfl⟩
  go_wp2_with fail
  refine (SD.out _).mono ?_
  rintro e w4 ⟨rfl, hb4⟩
  obtain ⟨hc4, hf4⟩ := bcell hb4
  have hz4 := hb4.size
  try simp only [World.size_alloc, World.size_setCell] at hz4
  try refine zw1 w w4 (by omega) fun _ _ => ?_
  go_wp2
  rw [E.out.1, E.out.2.1, E.out.2.2]
  refine bodyPost_ret (v := .tuple #[.agg #[.int .i64 (0), .int .i64 (0)], .int .i64 4]) (by simp only [results, Try.results125]; go_simp) rfl ⟨rfl, blw_⟩
 ·have hq : 0 ≤ M / D := Int.ediv_nonneg m0 (by omega)
  have hq2 : M / D < 18446744073709551616 := Int.ediv_lt_of_lt_mul bd2 (by omega)
  have ow := outward_any NG (!(M % D == 0)) (M / D) LO HI ⟨hq, hq2⟩ hends.1 hends.2
  rw [← HNG.out] at ow
  have OW := hide ow
  clear ow
  have hsplit : M / 18446744073709551616 * 18446744073709551616 + M % 18446744073709551616 = M := by omega
  have DV : Hid (∀ w : World, Calls Try.prog 140 #[.int .u64 (M / 18446744073709551616), .int .u64 (M % 18446744073709551616), .int .u64 D] w fun e w' => e = .returned (.tuple #[.int .u64 (M / D), .int .u64 (M % D)]) ∧ Below w.heap.size w w') := hide (by
   intro w
   by_cases z : M / 18446744073709551616 = 0
   ·have := div64_s (M % 18446744073709551616) D (by omega) (by omega) w
    have e : M % 18446744073709551616 = M := by omega
    rw [z]
    rw [e] at this ⊢
    exact this
   ·have := div64_b (M / 18446744073709551616) (M % 18446744073709551616) D (by omega) (by omega) (by omega) w
    rw [hsplit] at this
    exact this)
  clear hends hno ix iy jd bx0 bx1 by0 by1 m0 m1 bd0 bd1 bd2 hq hq2 hsplit
  go_enter Try.func125, Try.ntmps125
  go_wp2_with fail
  refine (SX.out _).mono ?_
  rintro e w1 ⟨rfl, hb1⟩
  obtain ⟨hc1, hf1⟩ := bcell hb1
  have hz1 := hb1.size
  try simp only [World.size_alloc, World.size_setCell] at hz1
  try refine zw1 w w1 (by omega) fun _ _ => ?_
  go_wp2_with fail
  refine (SY.out _).mono ?_
  rintro e w2 ⟨rfl, hb2⟩
  obtain ⟨hc2, hf2⟩ := bcell hb2
  have hz2 := hb2.size
  try simp only [World.size_alloc, World.size_setCell] at hz2
  try refine zw1 w w2 (by omega) fun _ _ => ?_
  try have : w1.heap.size < w2.heap.size := by omega
  try have : w1.heap.size ≤ w2.heap.size := by omega
  go_wp2_with fail
  refine (MU.out _).mono ?_
  rintro e w3 ⟨rfl, rfl⟩
  go_wp2_with fail
  refine (SD.out _).mono ?_
  rintro e w4 ⟨rfl, hb4⟩
  obtain ⟨hc4, hf4⟩ := bcell hb4
  have hz4 := hb4.size
  try simp only [World.size_alloc, World.size_setCell] at hz4
  try refine zw1 w w4 (by omega) fun _ _ => ?_
  go_wp2_with fail
  refine (DV.out _).mono ?_
  rintro e w5 ⟨rfl, hb5⟩
  obtain ⟨hc5, hf5⟩ := bcell hb5
  have hz5 := hb5.size
  try simp only [World.size_alloc, World.size_setCell] at hz5
  try refine zw1 w w5 (by omega) fun _ _ => ?_
  try have : w4.heap.size < w5.heap.size := by omega
  try have : w4.heap.size ≤ w5.heap.size := by omega
  go_wp2_with fail
  refine (OW.out _).mono ?_
  rintro e w6 ⟨rfl, hb6⟩
  obtain ⟨hc6, hf6⟩ := bcell hb6
  have hz6 := hb6.size
  try simp only [World.size_alloc, World.size_setCell] at hz6
  try refine zw1 w w6 (by omega) fun _ _ => ?_
  try have : w4.heap.size < w6.heap.size := by omega
  try have : w4.heap.size ≤ w6.heap.size := by omega
  try have : w5.heap.size < w6.heap.size := by omega
  try have : w5.heap.size ≤ w6.heap.size := by omega
  go_wp2
  refine bodyPost_ret (v := .tuple #[.agg #[.int .i64 (oLo LO HI), .int .i64 (oHi LO HI)], .int .i64 (oE LO HI)]) (by simp only [results, Try.results125]; go_simp) rfl ⟨rfl, blw_⟩
end
section
open Go.RowKit
def enL (l1 e1 l2 e2 : Int) (s : Bool) : Int := if e1 ≠ 0 ∨ s = true then l1 else if e2 ≠ 0 then 0 else mi l1 l2
def enH (h1 e1 h2 e2 : Int) (s : Bool) : Int := if e1 ≠ 0 ∨ s = true then h1 else if e2 ≠ 0 then 0 else mx h1 h2
def enE (e1 e2 : Int) (s : Bool) : Int := if e1 ≠ 0 ∨ s = true then e1 else e2
def Answers (C : World → Prop) (g : FuncId) (caps : Array Value) (x l h e : Int) : Prop :=
 ∀ w, C w → Calls Try.prog g (#[.int .i64 x] ++ caps) w fun r w' => r = .returned (.tuple #[.agg #[.int .i64 (l), .int .i64 (h)], .int .i64 e]) ∧ Below w.heap.size w w'
structure Kept (C : World → Prop) : Prop where
 below : ∀ {w w'}, C w → Below w.heap.size w w' → C w'
set_option maxHeartbeats 1000000 in
theorem ends_1 (C : World → Prop) (hC : Kept C) (g : FuncId) (p : Value) (hent : ∀ args w, (callFunc g args).run Try.prog w = .ok (.enter g args) w)
  (al ah l1 h1 e1 l2 h2 e2 : Int) (A1 : Answers C g #[p] al l1 h1 e1) (A2 : Answers C g #[p] ah l2 h2 e2) (w : World) (hw : C w) :
  Calls Try.prog 105 #[.agg #[.int .i64 (al), .int .i64 (ah)], .func (Fn.func g) #[] #[p]] w fun e w' => e = .returned (.tuple #[.agg #[.int .i64 (enL l1 e1 l2 e2 (al == ah)), .int .i64 (enH h1 e1 h2 e2 (al == ah))], .int .i64 (enE e1 e2 (al == ah))]) ∧ Below w.heap.size w w' := by
 have A1' : ∀ w, C w → Calls Try.prog g #[.int .i64 al, p] w fun r w' => r = .returned (.tuple #[.agg #[.int .i64 (l1), .int .i64 (h1)], .int .i64 e1]) ∧ Below w.heap.size w w' := A1
 have A2' : ∀ w, C w → Calls Try.prog g #[.int .i64 ah, p] w fun r w' => r = .returned (.tuple #[.agg #[.int .i64 (l2), .int .i64 (h2)], .int .i64 e2]) ∧ Below w.heap.size w w' := A2
 clear A1 A2
 by_cases c1 : e1 = 0
 ·subst c1
  by_cases c2 : al = ah
  ·subst c2
   have E : enL l1 0 l2 e2 (al == al) = l1 ∧ enH h1 0 h2 e2 (al == al) = h1 ∧ enE 0 e2 (al == al) = 0 := by simp [enL, enH, enE]
   rw [E.1, E.2.1, E.2.2]
   clear E
   go_enter Try.func105, Try.ntmps105
   go_wp2_with fail
   refine (A1' _ (hC.below hw blw_)).mono ?_
   rintro e w1 ⟨rfl, hb1⟩
   obtain ⟨hc1, hf1⟩ := bcell hb1
   have hz1 := hb1.size
   try simp only [World.size_alloc, World.size_setCell] at hz1
   try have : w.heap.size < w1.heap.size := by omega
   try have : w.heap.size < w1.heap.size + 1 := by omega
   try have : w.heap.size ≤ w1.heap.size := by omega
   try have : w.heap.size + 1 < w1.heap.size := by omega
   try have : w.heap.size + 1 < w1.heap.size + 1 := by omega
   try have : w.heap.size + 1 ≤ w1.heap.size := by omega
   have c1_0_0 := zci w1 w.heap.size 0 (al) (by go_simp)
   have c1_0_1 := zci w1 w.heap.size 1 (al) (by go_simp)
   have c1_1_0 := zci w1 (w.heap.size + 1) 0 (0) (by go_simp)
   have g1_1_0 := zfe w1 (w.heap.size + 1) 0 (by go_simp)
   have c1_1_1 := zci w1 (w.heap.size + 1) 1 (0) (by go_simp)
   have g1_1_1 := zfe w1 (w.heap.size + 1) 1 (by go_simp)
   clear hc1 hf1
   go_wp2
   refine bodyPost_ret (v := .tuple #[.agg #[.int .i64 (l1), .int .i64 (h1)], .int .i64 0]) (by simp only [results, Try.results105]; go_simp) rfl ⟨rfl, blw_⟩
  ·have c2' : (al == ah) = false := by simp [c2]
   by_cases c3 : e2 = 0
   ·have E : enL l1 0 l2 e2 (al == ah) = mi l1 l2 ∧ enH h1 0 h2 e2 (al == ah) = mx h1 h2 ∧ enE 0 e2 (al == ah) = 0 := by simp [enL, enH, enE, c2, c3]
    rw [E.1, E.2.1, E.2.2]
    have SB := hide (sboth l1 h1 l2 h2)
    subst c3
    clear E
    go_enter Try.func105, Try.ntmps105
    go_wp2_with fail
    refine (A1' _ (hC.below hw blw_)).mono ?_
    rintro e w1 ⟨rfl, hb1⟩
    obtain ⟨hc1, hf1⟩ := bcell hb1
    have hz1 := hb1.size
    try simp only [World.size_alloc, World.size_setCell] at hz1
    try have : w.heap.size < w1.heap.size := by omega
    try have : w.heap.size < w1.heap.size + 1 := by omega
    try have : w.heap.size ≤ w1.heap.size := by omega
    try have : w.heap.size + 1 < w1.heap.size := by omega
    try have : w.heap.size + 1 < w1.heap.size + 1 := by omega
    try have : w.heap.size + 1 ≤ w1.heap.size := by omega
    have c1_0_0 := zci w1 w.heap.size 0 (al) (by go_simp)
    have c1_0_1 := zci w1 w.heap.size 1 (ah) (by go_simp)
    have c1_1_0 := zci w1 (w.heap.size + 1) 0 (0) (by go_simp)
    have g1_1_0 := zfe w1 (w.heap.size + 1) 0 (by go_simp)
    have c1_1_1 := zci w1 (w.heap.size + 1) 1 (0) (by go_simp)
    have g1_1_1 := zfe w1 (w.heap.size + 1) 1 (by go_simp)
    clear hc1 hf1
    go_wp2_with fail
    refine (A2' _ (hC.below hw blw_)).mono ?_
    rintro e w2 ⟨rfl, hb2⟩
    obtain ⟨hc2, hf2⟩ := bcell hb2
    have hz2 := hb2.size
    try simp only [World.size_alloc, World.size_setCell] at hz2
    try have : w.heap.size < w2.heap.size := by omega
    try have : w.heap.size < w2.heap.size + 1 := by omega
    try have : w.heap.size ≤ w2.heap.size := by omega
    try have : w.heap.size + 1 < w2.heap.size := by omega
    try have : w.heap.size + 1 < w2.heap.size + 1 := by omega
    try have : w.heap.size + 1 ≤ w2.heap.size := by omega
    try have : w1.heap.size < w2.heap.size := by omega
    try have : w1.heap.size < w2.heap.size + 1 := by omega
    try have : w1.heap.size ≤ w2.heap.size := by omega
    have c2_0_0 := zci w2 w.heap.size 0 (al) (by go_simp)
    have c2_0_1 := zci w2 w.heap.size 1 (ah) (by go_simp)
    have c2_1_0 := zci w2 (w.heap.size + 1) 0 (0) (by go_simp)
    have g2_1_0 := zfe w2 (w.heap.size + 1) 0 (by go_simp)
    have c2_1_1 := zci w2 (w.heap.size + 1) 1 (0) (by go_simp)
    have g2_1_1 := zfe w2 (w.heap.size + 1) 1 (by go_simp)
    have c2_2_0 := zci w2 w1.heap.size 0 (l1) (by go_simp)
    have c2_2_1 := zci w2 w1.heap.size 1 (h1) (by go_simp)
    clear hc2 hf2 c1_0_0 c1_0_1 c1_1_0 g1_1_0 c1_1_1 g1_1_1
    go_wp2_with fail
    refine (SB.out _).mono ?_
    rintro e w3 ⟨rfl, hb3⟩
    obtain ⟨hc3, hf3⟩ := bcell hb3
    have hz3 := hb3.size
    try simp only [World.size_alloc, World.size_setCell] at hz3
    try refine zw2 w w3 (by omega) fun _ _ _ _ => ?_
    try have : w1.heap.size < w3.heap.size := by omega
    try have : w1.heap.size ≤ w3.heap.size := by omega
    try have : w2.heap.size < w3.heap.size := by omega
    try have : w2.heap.size ≤ w3.heap.size := by omega
    have c3_0_0 := zci w3 w.heap.size 0 (al) (by go_simp)
    have c3_0_1 := zci w3 w.heap.size 1 (ah) (by go_simp)
    have c3_1_0 := zci w3 (w.heap.size + 1) 0 (0) (by go_simp)
    have g3_1_0 := zfe w3 (w.heap.size + 1) 0 (by go_simp)
    have c3_1_1 := zci w3 (w.heap.size + 1) 1 (0) (by go_simp)
    have g3_1_1 := zfe w3 (w.heap.size + 1) 1 (by go_simp)
    have c3_2_0 := zci w3 w1.heap.size 0 (l1) (by go_simp)
    have c3_2_1 := zci w3 w1.heap.size 1 (h1) (by go_simp)
    have c3_3_0 := zci w3 w2.heap.size 0 (l2) (by go_simp)
    have c3_3_1 := zci w3 w2.heap.size 1 (h2) (by go_simp)
    clear hc3 hf3 c2_0_0 c2_0_1 c2_1_0 g2_1_0 c2_1_1 g2_1_1 c2_2_0 c2_2_1
    go_wp2
    refine bodyPost_ret (v := .tuple #[.agg #[.int .i64 (mi l1 l2), .int .i64 (mx h1 h2)], .int .i64 0]) (by simp only [results, Try.results105]; go_simp) rfl ⟨rfl, blw_⟩
   ·have E : enL l1 0 l2 e2 (al == ah) = 0 ∧ enH h1 0 h2 e2 (al == ah) = 0 ∧ enE 0 e2 (al == ah) = e2 := by simp [enL, enH, enE, c2, c3]
    rw [E.1, E.2.1, E.2.2]
    clear E
    go_enter Try.func105, Try.ntmps105
    go_wp2_with fail
    refine (A1' _ (hC.below hw blw_)).mono ?_
    rintro e w1 ⟨rfl, hb1⟩
    obtain ⟨hc1, hf1⟩ := bcell hb1
    have hz1 := hb1.size
    try simp only [World.size_alloc, World.size_setCell] at hz1
    try have : w.heap.size < w1.heap.size := by omega
    try have : w.heap.size < w1.heap.size + 1 := by omega
    try have : w.heap.size ≤ w1.heap.size := by omega
    try have : w.heap.size + 1 < w1.heap.size := by omega
    try have : w.heap.size + 1 < w1.heap.size + 1 := by omega
    try have : w.heap.size + 1 ≤ w1.heap.size := by omega
    have c1_0_0 := zci w1 w.heap.size 0 (al) (by go_simp)
    have c1_0_1 := zci w1 w.heap.size 1 (ah) (by go_simp)
    have c1_1_0 := zci w1 (w.heap.size + 1) 0 (0) (by go_simp)
    have g1_1_0 := zfe w1 (w.heap.size + 1) 0 (by go_simp)
    have c1_1_1 := zci w1 (w.heap.size + 1) 1 (0) (by go_simp)
    have g1_1_1 := zfe w1 (w.heap.size + 1) 1 (by go_simp)
    clear hc1 hf1
    go_wp2_with fail
    refine (A2' _ (hC.below hw blw_)).mono ?_
    rintro e w2 ⟨rfl, hb2⟩
    obtain ⟨hc2, hf2⟩ := bcell hb2
    have hz2 := hb2.size
    try simp only [World.size_alloc, World.size_setCell] at hz2
    try have : w.heap.size < w2.heap.size := by omega
    try have : w.heap.size < w2.heap.size + 1 := by omega
    try have : w.heap.size ≤ w2.heap.size := by omega
    try have : w.heap.size + 1 < w2.heap.size := by omega
    try have : w.heap.size + 1 < w2.heap.size + 1 := by omega
    try have : w.heap.size + 1 ≤ w2.heap.size := by omega
    try have : w1.heap.size < w2.heap.size := by omega
    try have : w1.heap.size < w2.heap.size + 1 := by omega
    try have : w1.heap.size ≤ w2.heap.size := by omega
    have c2_0_0 := zci w2 w.heap.size 0 (al) (by go_simp)
    have c2_0_1 := zci w2 w.heap.size 1 (ah) (by go_simp)
    have c2_1_0 := zci w2 (w.heap.size + 1) 0 (0) (by go_simp)
    have g2_1_0 := zfe w2 (w.heap.size + 1) 0 (by go_simp)
    have c2_1_1 := zci w2 (w.heap.size + 1) 1 (0) (by go_simp)
    have g2_1_1 := zfe w2 (w.heap.size + 1) 1 (by go_simp)
    have c2_2_0 := zci w2 w1.heap.size 0 (l1) (by go_simp)
    have c2_2_1 := zci w2 w1.heap.size 1 (h1) (by go_simp)
    clear hc2 hf2 c1_0_0 c1_0_1 c1_1_0 g1_1_0 c1_1_1 g1_1_1
    go_wp2
    refine bodyPost_ret (v := .tuple #[.agg #[.int .i64 (0), .int .i64 (0)], .int .i64 e2]) (by simp only [results, Try.results105]; go_simp) rfl ⟨rfl, blw_⟩
 ·have E : enL l1 e1 l2 e2 (al == ah) = l1 ∧ enH h1 e1 h2 e2 (al == ah) = h1 ∧ enE e1 e2 (al == ah) = e1 := by simp [enL, enH, enE, c1]
  rw [E.1, E.2.1, E.2.2]
  clear E
  go_enter Try.func105, Try.ntmps105
  go_wp2_with fail
  refine (A1' _ (hC.below hw blw_)).mono ?_
  rintro e w1 ⟨rfl, hb1⟩
  obtain ⟨hc1, hf1⟩ := bcell hb1
  have hz1 := hb1.size
  try simp only [World.size_alloc, World.size_setCell] at hz1
  try have : w.heap.size < w1.heap.size := by omega
  try have : w.heap.size < w1.heap.size + 1 := by omega
  try have : w.heap.size ≤ w1.heap.size := by omega
  try have : w.heap.size + 1 < w1.heap.size := by omega
  try have : w.heap.size + 1 < w1.heap.size + 1 := by omega
  try have : w.heap.size + 1 ≤ w1.heap.size := by omega
  have c1_0_0 := zci w1 w.heap.size 0 (al) (by go_simp)
  have c1_0_1 := zci w1 w.heap.size 1 (ah) (by go_simp)
  have c1_1_0 := zci w1 (w.heap.size + 1) 0 (0) (by go_simp)
  have g1_1_0 := zfe w1 (w.heap.size + 1) 0 (by go_simp)
  have c1_1_1 := zci w1 (w.heap.size + 1) 1 (0) (by go_simp)
  have g1_1_1 := zfe w1 (w.heap.size + 1) 1 (by go_simp)
  clear hc1 hf1
  go_wp2
  refine bodyPost_ret (v := .tuple #[.agg #[.int .i64 (l1), .int .i64 (h1)], .int .i64 e1]) (by simp only [results, Try.results105]; go_simp) rfl ⟨rfl, blw_⟩
set_option maxHeartbeats 1000000 in
theorem ends_0 (C : World → Prop) (hC : Kept C) (g : FuncId) (hent : ∀ args w, (callFunc g args).run Try.prog w = .ok (.enter g args) w)
  (al ah l1 h1 e1 l2 h2 e2 : Int) (A1 : Answers C g #[] al l1 h1 e1) (A2 : Answers C g #[] ah l2 h2 e2) (w : World) (hw : C w) :
  Calls Try.prog 105 #[.agg #[.int .i64 (al), .int .i64 (ah)], .func (Fn.func g) #[] #[]] w fun e w' => e = .returned (.tuple #[.agg #[.int .i64 (enL l1 e1 l2 e2 (al == ah)), .int .i64 (enH h1 e1 h2 e2 (al == ah))], .int .i64 (enE e1 e2 (al == ah))]) ∧ Below w.heap.size w w' := by
 have A1' : ∀ w, C w → Calls Try.prog g #[.int .i64 al] w fun r w' => r = .returned (.tuple #[.agg #[.int .i64 (l1), .int .i64 (h1)], .int .i64 e1]) ∧ Below w.heap.size w w' := A1
 have A2' : ∀ w, C w → Calls Try.prog g #[.int .i64 ah] w fun r w' => r = .returned (.tuple #[.agg #[.int .i64 (l2), .int .i64 (h2)], .int .i64 e2]) ∧ Below w.heap.size w w' := A2
 clear A1 A2
 by_cases c1 : e1 = 0
 ·subst c1
  by_cases c2 : al = ah
  ·subst c2
   have E : enL l1 0 l2 e2 (al == al) = l1 ∧ enH h1 0 h2 e2 (al == al) = h1 ∧ enE 0 e2 (al == al) = 0 := by simp [enL, enH, enE]
   rw [E.1, E.2.1, E.2.2]
   clear E
   go_enter Try.func105, Try.ntmps105
   go_wp2_with fail
   refine (A1' _ (hC.below hw blw_)).mono ?_
   rintro e w1 ⟨rfl, hb1⟩
   obtain ⟨hc1, hf1⟩ := bcell hb1
   have hz1 := hb1.size
   try simp only [World.size_alloc, World.size_setCell] at hz1
   try have : w.heap.size < w1.heap.size := by omega
   try have : w.heap.size < w1.heap.size + 1 := by omega
   try have : w.heap.size ≤ w1.heap.size := by omega
   try have : w.heap.size + 1 < w1.heap.size := by omega
   try have : w.heap.size + 1 < w1.heap.size + 1 := by omega
   try have : w.heap.size + 1 ≤ w1.heap.size := by omega
   have c1_0_0 := zci w1 w.heap.size 0 (al) (by go_simp)
   have c1_0_1 := zci w1 w.heap.size 1 (al) (by go_simp)
   have c1_1_0 := zci w1 (w.heap.size + 1) 0 (0) (by go_simp)
   have g1_1_0 := zfe w1 (w.heap.size + 1) 0 (by go_simp)
   have c1_1_1 := zci w1 (w.heap.size + 1) 1 (0) (by go_simp)
   have g1_1_1 := zfe w1 (w.heap.size + 1) 1 (by go_simp)
   clear hc1 hf1
   go_wp2
   refine bodyPost_ret (v := .tuple #[.agg #[.int .i64 (l1), .int .i64 (h1)], .int .i64 0]) (by simp only [results, Try.results105]; go_simp) rfl ⟨rfl, blw_⟩
  ·have c2' : (al == ah) = false := by simp [c2]
   by_cases c3 : e2 = 0
   ·have E : enL l1 0 l2 e2 (al == ah) = mi l1 l2 ∧ enH h1 0 h2 e2 (al == ah) = mx h1 h2 ∧ enE 0 e2 (al == ah) = 0 := by simp [enL, enH, enE, c2, c3]
    rw [E.1, E.2.1, E.2.2]
    have SB := hide (sboth l1 h1 l2 h2)
    subst c3
    clear E
    go_enter Try.func105, Try.ntmps105
    go_wp2_with fail
    refine (A1' _ (hC.below hw blw_)).mono ?_
    rintro e w1 ⟨rfl, hb1⟩
    obtain ⟨hc1, hf1⟩ := bcell hb1
    have hz1 := hb1.size
    try simp only [World.size_alloc, World.size_setCell] at hz1
    try have : w.heap.size < w1.heap.size := by omega
    try have : w.heap.size < w1.heap.size + 1 := by omega
    try have : w.heap.size ≤ w1.heap.size := by omega
    try have : w.heap.size + 1 < w1.heap.size := by omega
    try have : w.heap.size + 1 < w1.heap.size + 1 := by omega
    try have : w.heap.size + 1 ≤ w1.heap.size := by omega
    have c1_0_0 := zci w1 w.heap.size 0 (al) (by go_simp)
    have c1_0_1 := zci w1 w.heap.size 1 (ah) (by go_simp)
    have c1_1_0 := zci w1 (w.heap.size + 1) 0 (0) (by go_simp)
    have g1_1_0 := zfe w1 (w.heap.size + 1) 0 (by go_simp)
    have c1_1_1 := zci w1 (w.heap.size + 1) 1 (0) (by go_simp)
    have g1_1_1 := zfe w1 (w.heap.size + 1) 1 (by go_simp)
    clear hc1 hf1
    go_wp2_with fail
    refine (A2' _ (hC.below hw blw_)).mono ?_
    rintro e w2 ⟨rfl, hb2⟩
    obtain ⟨hc2, hf2⟩ := bcell hb2
    have hz2 := hb2.size
    try simp only [World.size_alloc, World.size_setCell] at hz2
    try have : w.heap.size < w2.heap.size := by omega
    try have : w.heap.size < w2.heap.size + 1 := by omega
    try have : w.heap.size ≤ w2.heap.size := by omega
    try have : w.heap.size + 1 < w2.heap.size := by omega
    try have : w.heap.size + 1 < w2.heap.size + 1 := by omega
    try have : w.heap.size + 1 ≤ w2.heap.size := by omega
    try have : w1.heap.size < w2.heap.size := by omega
    try have : w1.heap.size < w2.heap.size + 1 := by omega
    try have : w1.heap.size ≤ w2.heap.size := by omega
    have c2_0_0 := zci w2 w.heap.size 0 (al) (by go_simp)
    have c2_0_1 := zci w2 w.heap.size 1 (ah) (by go_simp)
    have c2_1_0 := zci w2 (w.heap.size + 1) 0 (0) (by go_simp)
    have g2_1_0 := zfe w2 (w.heap.size + 1) 0 (by go_simp)
    have c2_1_1 := zci w2 (w.heap.size + 1) 1 (0) (by go_simp)
    have g2_1_1 := zfe w2 (w.heap.size + 1) 1 (by go_simp)
    have c2_2_0 := zci w2 w1.heap.size 0 (l1) (by go_simp)
    have c2_2_1 := zci w2 w1.heap.size 1 (h1) (by go_simp)
    clear hc2 hf2 c1_0_0 c1_0_1 c1_1_0 g1_1_0 c1_1_1 g1_1_1
    go_wp2_with fail
    refine (SB.out _).mono ?_
    rintro e w3 ⟨rfl, hb3⟩
    obtain ⟨hc3, hf3⟩ := bcell hb3
    have hz3 := hb3.size
    try simp only [World.size_alloc, World.size_setCell] at hz3
    try refine zw2 w w3 (by omega) fun _ _ _ _ => ?_
    try have : w1.heap.size < w3.heap.size := by omega
    try have : w1.heap.size ≤ w3.heap.size := by omega
    try have : w2.heap.size < w3.heap.size := by omega
    try have : w2.heap.size ≤ w3.heap.size := by omega
    have c3_0_0 := zci w3 w.heap.size 0 (al) (by go_simp)
    have c3_0_1 := zci w3 w.heap.size 1 (ah) (by go_simp)
    have c3_1_0 := zci w3 (w.heap.size + 1) 0 (0) (by go_simp)
    have g3_1_0 := zfe w3 (w.heap.size + 1) 0 (by go_simp)
    have c3_1_1 := zci w3 (w.heap.size + 1) 1 (0) (by go_simp)
    have g3_1_1 := zfe w3 (w.heap.size + 1) 1 (by go_simp)
    have c3_2_0 := zci w3 w1.heap.size 0 (l1) (by go_simp)
    have c3_2_1 := zci w3 w1.heap.size 1 (h1) (by go_simp)
    have c3_3_0 := zci w3 w2.heap.size 0 (l2) (by go_simp)
    have c3_3_1 := zci w3 w2.heap.size 1 (h2) (by go_simp)
    clear hc3 hf3 c2_0_0 c2_0_1 c2_1_0 g2_1_0 c2_1_1 g2_1_1 c2_2_0 c2_2_1
    go_wp2
    refine bodyPost_ret (v := .tuple #[.agg #[.int .i64 (mi l1 l2), .int .i64 (mx h1 h2)], .int .i64 0]) (by simp only [results, Try.results105]; go_simp) rfl ⟨rfl, blw_⟩
   ·have E : enL l1 0 l2 e2 (al == ah) = 0 ∧ enH h1 0 h2 e2 (al == ah) = 0 ∧ enE 0 e2 (al == ah) = e2 := by simp [enL, enH, enE, c2, c3]
    rw [E.1, E.2.1, E.2.2]
    clear E
    go_enter Try.func105, Try.ntmps105
    go_wp2_with fail
    refine (A1' _ (hC.below hw blw_)).mono ?_
    rintro e w1 ⟨rfl, hb1⟩
    obtain ⟨hc1, hf1⟩ := bcell hb1
    have hz1 := hb1.size
    try simp only [World.size_alloc, World.size_setCell] at hz1
    try have : w.heap.size < w1.heap.size := by omega
    try have : w.heap.size < w1.heap.size + 1 := by omega
    try have : w.heap.size ≤ w1.heap.size := by omega
    try have : w.heap.size + 1 < w1.heap.size := by omega
    try have : w.heap.size + 1 < w1.heap.size + 1 := by omega
    try have : w.heap.size + 1 ≤ w1.heap.size := by omega
    have c1_0_0 := zci w1 w.heap.size 0 (al) (by go_simp)
    have c1_0_1 := zci w1 w.heap.size 1 (ah) (by go_simp)
    have c1_1_0 := zci w1 (w.heap.size + 1) 0 (0) (by go_simp)
    have g1_1_0 := zfe w1 (w.heap.size + 1) 0 (by go_simp)
    have c1_1_1 := zci w1 (w.heap.size + 1) 1 (0) (by go_simp)
    have g1_1_1 := zfe w1 (w.heap.size + 1) 1 (by go_simp)
    clear hc1 hf1
    go_wp2_with fail
    refine (A2' _ (hC.below hw blw_)).mono ?_
    rintro e w2 ⟨rfl, hb2⟩
    obtain ⟨hc2, hf2⟩ := bcell hb2
    have hz2 := hb2.size
    try simp only [World.size_alloc, World.size_setCell] at hz2
    try have : w.heap.size < w2.heap.size := by omega
    try have : w.heap.size < w2.heap.size + 1 := by omega
    try have : w.heap.size ≤ w2.heap.size := by omega
    try have : w.heap.size + 1 < w2.heap.size := by omega
    try have : w.heap.size + 1 < w2.heap.size + 1 := by omega
    try have : w.heap.size + 1 ≤ w2.heap.size := by omega
    try have : w1.heap.size < w2.heap.size := by omega
    try have : w1.heap.size < w2.heap.size + 1 := by omega
    try have : w1.heap.size ≤ w2.heap.size := by omega
    have c2_0_0 := zci w2 w.heap.size 0 (al) (by go_simp)
    have c2_0_1 := zci w2 w.heap.size 1 (ah) (by go_simp)
    have c2_1_0 := zci w2 (w.heap.size + 1) 0 (0) (by go_simp)
    have g2_1_0 := zfe w2 (w.heap.size + 1) 0 (by go_simp)
    have c2_1_1 := zci w2 (w.heap.size + 1) 1 (0) (by go_simp)
    have g2_1_1 := zfe w2 (w.heap.size + 1) 1 (by go_simp)
    have c2_2_0 := zci w2 w1.heap.size 0 (l1) (by go_simp)
    have c2_2_1 := zci w2 w1.heap.size 1 (h1) (by go_simp)
    clear hc2 hf2 c1_0_0 c1_0_1 c1_1_0 g1_1_0 c1_1_1 g1_1_1
    go_wp2
    refine bodyPost_ret (v := .tuple #[.agg #[.int .i64 (0), .int .i64 (0)], .int .i64 e2]) (by simp only [results, Try.results105]; go_simp) rfl ⟨rfl, blw_⟩
 ·have E : enL l1 e1 l2 e2 (al == ah) = l1 ∧ enH h1 e1 h2 e2 (al == ah) = h1 ∧ enE e1 e2 (al == ah) = e1 := by simp [enL, enH, enE, c1]
  rw [E.1, E.2.1, E.2.2]
  clear E
  go_enter Try.func105, Try.ntmps105
  go_wp2_with fail
  refine (A1' _ (hC.below hw blw_)).mono ?_
  rintro e w1 ⟨rfl, hb1⟩
  obtain ⟨hc1, hf1⟩ := bcell hb1
  have hz1 := hb1.size
  try simp only [World.size_alloc, World.size_setCell] at hz1
  try have : w.heap.size < w1.heap.size := by omega
  try have : w.heap.size < w1.heap.size + 1 := by omega
  try have : w.heap.size ≤ w1.heap.size := by omega
  try have : w.heap.size + 1 < w1.heap.size := by omega
  try have : w.heap.size + 1 < w1.heap.size + 1 := by omega
  try have : w.heap.size + 1 ≤ w1.heap.size := by omega
  have c1_0_0 := zci w1 w.heap.size 0 (al) (by go_simp)
  have c1_0_1 := zci w1 w.heap.size 1 (ah) (by go_simp)
  have c1_1_0 := zci w1 (w.heap.size + 1) 0 (0) (by go_simp)
  have g1_1_0 := zfe w1 (w.heap.size + 1) 0 (by go_simp)
  have c1_1_1 := zci w1 (w.heap.size + 1) 1 (0) (by go_simp)
  have g1_1_1 := zfe w1 (w.heap.size + 1) 1 (by go_simp)
  clear hc1 hf1
  go_wp2
  refine bodyPost_ret (v := .tuple #[.agg #[.int .i64 (l1), .int .i64 (h1)], .int .i64 e1]) (by simp only [results, Try.results105]; go_simp) rfl ⟨rfl, blw_⟩
end
section
open Go.RowKit
theorem rsize_any (x : Int) (h : I64 x) (w : World) :
  Calls Try.prog 133 #[.int .i64 x] w fun e w' => e = .returned (.int .u64 (ab x)) ∧ Below w.heap.size w w' := by
 obtain ⟨h0, h1⟩ := h
 by_cases c : x < 0
 ·have E := hide (ab_n c)
  have e1 : IntKind.u64.wrap (-IntKind.u64.wrap x) = -x := by rw [IntKind.wrap_u64, IntKind.wrap_u64]; omega
  go_enter Try.func133, Try.ntmps133
  go_wp2
  go_ret
  exact ⟨by rw [E.out]; rfl, blw_⟩
 ·have E := hide (ab_p (x := x) (by omega))
  have e1 : IntKind.u64.wrap x = x := by rw [IntKind.wrap_u64]; omega
  go_enter Try.func133, Try.ntmps133
  go_wp2
  go_ret
  exact ⟨by rw [E.out]; rfl, blw_⟩
theorem u64_wp {p : Int} (h0 : 0 ≤ p) (h1 : p < 18446744073709551616) : IntKind.u64.wrap p = p := by rw [IntKind.wrap_u64]; omega
theorem four_parts (a b : Int) : a * b = (a / 4294967296 * (b / 4294967296)) * 18446744073709551616 + (a / 4294967296 * (b % 4294967296) + a % 4294967296 * (b / 4294967296)) * 4294967296 + a % 4294967296 * (b % 4294967296) := by
 have ha : a = a / 4294967296 * 4294967296 + a % 4294967296 := by omega
 have hb : b = b / 4294967296 * 4294967296 + b % 4294967296 := by omega
 generalize a / 4294967296 = a1 at *
 generalize a % 4294967296 = a0 at *
 generalize b / 4294967296 = b1 at *
 generalize b % 4294967296 = b0 at *
 subst ha hb
 have e1 : (a1 * 4294967296 + a0) * (b1 * 4294967296 + b0) = a1 * b1 * 18446744073709551616 + a1 * b0 * 4294967296 + (a0 * b1 * 4294967296 + a0 * b0) := by
  rw [Int.add_mul, Int.mul_add, Int.mul_add]
  rw [show a1 * 4294967296 * (b1 * 4294967296) = a1 * b1 * 18446744073709551616 by rw [Int.mul_assoc, Int.mul_comm 4294967296, Int.mul_assoc b1, ← Int.mul_assoc]; rfl]
  rw [Int.mul_right_comm a1 4294967296 b0, Int.mul_comm a0 (b1 * 4294967296), Int.mul_right_comm b1, Int.mul_comm b1 a0]
 rw [e1]
 omega
theorem rtimes_core (x y a b : Int) (sg : Bool) (hs : ((decide (x < 0) != decide (y < 0))) = sg) (ha : 0 ≤ a ∧ a ≤ 9223372036854775808) (hb : 0 ≤ b ∧ b ≤ 9223372036854775808)
  (hA : ∀ w, Calls Try.prog 133 #[.int .i64 x] w fun e w' => e = .returned (.int .u64 a) ∧ Below w.heap.size w w')
  (hB : ∀ w, Calls Try.prog 133 #[.int .i64 y] w fun e w' => e = .returned (.int .u64 b) ∧ Below w.heap.size w w') (w : World) :
  Calls Try.prog 109 #[.int .i64 x, .int .i64 y] w fun e w' => e = .returned (.agg #[.int .i64 (wH (if sg then -(a * b) else a * b)), .int .u64 (wL (if sg then -(a * b) else a * b))]) ∧ Below w.heap.size w w' := by
 have fp := four_parts a b
 obtain ⟨qa1, qa2⟩ := quo_u64 (a := a) (b := 4294967296) (by omega) (by omega)
 obtain ⟨qb1, qb2⟩ := quo_u64 (a := b) (b := 4294967296) (by omega) (by omega)
 have a10 : 0 ≤ a / 4294967296 := by omega
 have a11 : a / 4294967296 ≤ 2147483648 := by omega
 have a00 : 0 ≤ a % 4294967296 := by omega
 have a01 : a % 4294967296 ≤ 4294967295 := by omega
 have b10 : 0 ≤ b / 4294967296 := by omega
 have b11 : b / 4294967296 ≤ 2147483648 := by omega
 have b00 : 0 ≤ b % 4294967296 := by omega
 have b01 : b % 4294967296 ≤ 4294967295 := by omega
 have M1 := Int.mul_le_mul a11 b11 b10 (by omega)
 have M2 := Int.mul_le_mul a11 b01 b00 (by omega)
 have M3 := Int.mul_le_mul a01 b11 b10 (by omega)
 have M4 := Int.mul_le_mul a01 b01 b00 (by omega)
 have M5 := Int.mul_le_mul ha.2 hb.2 hb.1 (by omega)
 have N5 := Int.mul_nonneg ha.1 hb.1
 have N1 := Int.mul_nonneg a10 b10
 have N2 := Int.mul_nonneg a10 b00
 have N3 := Int.mul_nonneg a00 b10
 have N4 := Int.mul_nonneg a00 b00
 generalize a / 4294967296 = a1 at *
 generalize a % 4294967296 = a0 at *
 generalize b / 4294967296 = b1 at *
 generalize b % 4294967296 = b0 at *
 have k1 := u64_wp (p := a0 * b0) N4 (by omega)
 have k2 := u64_wp (p := a1 * b0) N2 (by omega)
 have k3 := u64_wp (p := a0 * b1) N3 (by omega)
 have k4 := u64_wp (p := a1 * b1) N1 (by omega)
 have k5 := u64_wp (p := a1 * b0 + a0 * b1) (by omega) (by omega)
 have z0 : 0 ≤ a1 * b0 + a0 * b1 := by omega
 have z1 : (a1 * b0 + a0 * b1) * 4294967296 + a0 * b0 < 85070591730234615865843651857942052864 * 2 := by omega
 have PL := rplus ((a1 * b0 + a0 * b1) * 4294967296) (a0 * b0) ⟨by omega, by omega⟩ ⟨by omega, by omega⟩ ⟨by omega, by omega⟩
 rw [show wH ((a1 * b0 + a0 * b1) * 4294967296) = (a1 * b0 + a0 * b1) / 4294967296 by unfold wH; omega, show wL ((a1 * b0 + a0 * b1) * 4294967296) = (a1 * b0 + a0 * b1) % 4294967296 * 4294967296 by unfold wL; omega, show wH (a0 * b0) = 0 by unfold wH; omega, show wL (a0 * b0) = a0 * b0 by unfold wL; omega] at PL
 obtain ⟨AB, hAB⟩ : ∃ v, a * b = v := ⟨_, rfl⟩
 have M5' := M5
 rw [hAB] at fp M5' N5 ⊢
 have ehi : wrap64 (wH ((a1 * b0 + a0 * b1) * 4294967296 + a0 * b0) + a1 * b1) = wH AB := by rw [fp]; unfold wrap64 wH; omega
 have elo : wL ((a1 * b0 + a0 * b1) * 4294967296 + a0 * b0) = wL AB := by rw [fp]; unfold wL; omega
 have MI := hide (rminus AB ⟨by omega, by omega⟩)
 have PL' := hide PL
 have HS := hide hs
 clear hs hAB M5' PL fp
 generalize (a1 * b0 + a0 * b1) * 4294967296 + a0 * b0 = S1 at *
 cases sg
 ·simp only [Bool.false_eq_true, if_false]
  go_enter Try.func109, Try.ntmps109
  go_wp2_with fail
  refine (hA _).mono ?_
  rintro e w1 ⟨rfl, hb1⟩
  obtain ⟨hc1, hf1⟩ := bcell hb1
  have hz1 := hb1.size
  try simp only [World.size_alloc, World.size_setCell] at hz1
  try refine zw1 w w1 (by omega) fun _ _ => ?_
  have c1_0_0 := zci w1 w.heap.size 0 0 (by go_simp)
  have g1_0_0 := zfe w1 w.heap.size 0 (by go_simp)
  have c1_0_1 := zcu w1 w.heap.size 1 0 (by go_simp)
  have g1_0_1 := zfe w1 w.heap.size 1 (by go_simp)
  clear hc1 hf1
  go_wp2_with fail
  refine (hB _).mono ?_
  rintro e w2 ⟨rfl, hb2⟩
  obtain ⟨hc2, hf2⟩ := bcell hb2
  have hz2 := hb2.size
  try simp only [World.size_alloc, World.size_setCell] at hz2
  try refine zw1 w w2 (by omega) fun _ _ => ?_
  have c2_0_0 := zci w2 w.heap.size 0 0 (by go_simp)
  have g2_0_0 := zfe w2 w.heap.size 0 (by go_simp)
  have c2_0_1 := zcu w2 w.heap.size 1 0 (by go_simp)
  have g2_0_1 := zfe w2 w.heap.size 1 (by go_simp)
  clear hc2 hf2 c1_0_0 g1_0_0 c1_0_1 g1_0_1
  go_wp2_with fail
  refine (PL'.out _).mono ?_
  rintro e w3 ⟨rfl, hb3⟩
  obtain ⟨hc3, hf3⟩ := bcell hb3
  have hz3 := hb3.size
  try simp only [World.size_alloc, World.size_setCell] at hz3
  try have : w.heap.size < w3.heap.size := by omega
  try have : w.heap.size < w3.heap.size + 1 := by omega
  try have : w.heap.size ≤ w3.heap.size := by omega
  have c3_0_0 := zci w3 w.heap.size 0 0 (by go_simp)
  have g3_0_0 := zfe w3 w.heap.size 0 (by go_simp)
  have c3_0_1 := zcu w3 w.heap.size 1 0 (by go_simp)
  have g3_0_1 := zfe w3 w.heap.size 1 (by go_simp)
  clear hc3 hf3 c2_0_0 g2_0_0 c2_0_1 g2_0_1
  have hs2 : (!(decide (x < 0) == decide (y < 0))) = false := HS.out
  go_wp2
  refine bodyPost_ret (v := .agg #[.int .i64 (wH (AB)), .int .u64 (wL (AB))]) (by simp only [results, Try.results109]; go_simp) rfl ⟨rfl, blw_⟩
 ·simp only [if_true]
  go_enter Try.func109, Try.ntmps109
  go_wp2_with fail
  refine (hA _).mono ?_
  rintro e w1 ⟨rfl, hb1⟩
  obtain ⟨hc1, hf1⟩ := bcell hb1
  have hz1 := hb1.size
  try simp only [World.size_alloc, World.size_setCell] at hz1
  try refine zw1 w w1 (by omega) fun _ _ => ?_
  have c1_0_0 := zci w1 w.heap.size 0 0 (by go_simp)
  have g1_0_0 := zfe w1 w.heap.size 0 (by go_simp)
  have c1_0_1 := zcu w1 w.heap.size 1 0 (by go_simp)
  have g1_0_1 := zfe w1 w.heap.size 1 (by go_simp)
  clear hc1 hf1
  go_wp2_with fail
  refine (hB _).mono ?_
  rintro e w2 ⟨rfl, hb2⟩
  obtain ⟨hc2, hf2⟩ := bcell hb2
  have hz2 := hb2.size
  try simp only [World.size_alloc, World.size_setCell] at hz2
  try refine zw1 w w2 (by omega) fun _ _ => ?_
  have c2_0_0 := zci w2 w.heap.size 0 0 (by go_simp)
  have g2_0_0 := zfe w2 w.heap.size 0 (by go_simp)
  have c2_0_1 := zcu w2 w.heap.size 1 0 (by go_simp)
  have g2_0_1 := zfe w2 w.heap.size 1 (by go_simp)
  clear hc2 hf2 c1_0_0 g1_0_0 c1_0_1 g1_0_1
  go_wp2_with fail
  refine (PL'.out _).mono ?_
  rintro e w3 ⟨rfl, hb3⟩
  obtain ⟨hc3, hf3⟩ := bcell hb3
  have hz3 := hb3.size
  try simp only [World.size_alloc, World.size_setCell] at hz3
  try have : w.heap.size < w3.heap.size := by omega
  try have : w.heap.size < w3.heap.size + 1 := by omega
  try have : w.heap.size ≤ w3.heap.size := by omega
  have c3_0_0 := zci w3 w.heap.size 0 0 (by go_simp)
  have g3_0_0 := zfe w3 w.heap.size 0 (by go_simp)
  have c3_0_1 := zcu w3 w.heap.size 1 0 (by go_simp)
  have g3_0_1 := zfe w3 w.heap.size 1 (by go_simp)
  clear hc3 hf3 c2_0_0 g2_0_0 c2_0_1 g2_0_1
  have hs2 : (!(decide (x < 0) == decide (y < 0))) = true := HS.out
  go_wp2_with fail
  refine (MI.out _).mono ?_
  rintro e w4 ⟨rfl, hb4⟩
  obtain ⟨hc4, hf4⟩ := bcell hb4
  have hz4 := hb4.size
  try simp only [World.size_alloc, World.size_setCell] at hz4
  try refine zw1 w w4 (by omega) fun _ _ => ?_
  try have : w3.heap.size < w4.heap.size := by omega
  try have : w3.heap.size ≤ w4.heap.size := by omega
  have c4_0_0 := zci w4 w.heap.size 0 0 (by go_simp)
  have g4_0_0 := zfe w4 w.heap.size 0 (by go_simp)
  have c4_0_1 := zcu w4 w.heap.size 1 0 (by go_simp)
  have g4_0_1 := zfe w4 w.heap.size 1 (by go_simp)
  clear hc4 hf4
  go_wp2
  refine bodyPost_ret (v := .agg #[.int .i64 (wH (-AB)), .int .u64 (wL (-AB))]) (by simp only [results, Try.results109]; go_simp) rfl ⟨rfl, blw_⟩
theorem rtimes (x y : Int) (ix : I64 x) (iy : I64 y) (w : World) :
  Calls Try.prog 109 #[.int .i64 x, .int .i64 y] w fun e w' => e = .returned (.agg #[.int .i64 (wH (x * y)), .int .u64 (wL (x * y))]) ∧ Below w.heap.size w w' := by
 have h := rtimes_core x y (ab x) (ab y) _ rfl (ab_bd ix) (ab_bd iy) (rsize_any x ix) (rsize_any y iy) w
 have e : (if (decide (x < 0) != decide (y < 0)) then -(ab x * ab y) else ab x * ab y) = x * y := by
  rw [ab_mul]
  cases (decide (x < 0) != decide (y < 0)) <;> simp
 rw [e] at h
 exact h
end
section
open Go.RowKit
def HasN (b : Nat) (n : Int) (w : World) : Prop := w.cell? ⟨b, 0, none⟩ = some (.int .i64 n) ∧ b < w.heap.size
theorem HasN.kept (b : Nat) (n : Int) : Kept (HasN b n) := ⟨fun h hb => ⟨by rw [(bcell hb).1 b 0 h.2]; exact h.1, Nat.lt_of_lt_of_le h.2 hb.size⟩⟩
end
section
open Go.RowKit
theorem en_out2 (l1 h1 l2 h2 : Int) (s : Bool) (o1 : l1 ≤ h1) (o2 : l2 ≤ h2) (h : s = true → l1 = l2 ∧ h1 = h2) :
  enL (oLo l1 h1) (oE l1 h1) (oLo l2 h2) (oE l2 h2) s = oLo (mi l1 l2) (mx h1 h2) ∧ enH (oHi l1 h1) (oE l1 h1) (oHi l2 h2) (oE l2 h2) s = oHi (mi l1 l2) (mx h1 h2) ∧ enE (oE l1 h1) (oE l2 h2) s = oE (mi l1 l2) (mx h1 h2) := by
 have hm : fits (mi l1 l2) (mx h1 h2) = (fits l1 h1 && fits l2 h2) := by
  unfold fits mi mx
  rw [← Bool.decide_and]
  apply decide_eq_decide.2
  split <;> split <;> omega
 cases s
 ·unfold enL enH enE oLo oHi oE
  rw [hm]
  cases fits l1 h1 <;> cases fits l2 h2 <;> simp
 ·obtain ⟨rfl, rfl⟩ := h rfl
  have e1 : mi l1 l1 = l1 := by unfold mi; split <;> rfl
  have e2 : mx h1 h1 = h1 := by unfold mx; split <;> rfl
  rw [e1, e2]
  simp [enL, enH, enE]
theorem ab_pos {d : Int} (h : ¬ d = 0) : 0 < ab d := by unfold ab; split <;> omega
theorem share_le (x y d : Int) (h : ¬ d = 0) : sL x y d ≤ sH x y d := by
 have hp := ab_pos h
 unfold sL sH
 by_cases z : sN x y d % ab d = 0
 ·rw [cdiv_zero z]; omega
 ·rw [cdiv_pos hp z]; omega
def HasS (b : Nat) (lo hi : Int) (w : World) : Prop := w.cell? ⟨b, 0, none⟩ = some (.int .i64 lo) ∧ w.cell? ⟨b, 1, none⟩ = some (.int .i64 hi) ∧ b < w.heap.size
theorem HasS.kept (b : Nat) (lo hi : Int) : Kept (HasS b lo hi) := ⟨fun h hb => ⟨by rw [(bcell hb).1 b 0 h.2.2]; exact h.1, by rw [(bcell hb).1 b 1 h.2.2]; exact h.2.1, Nat.lt_of_lt_of_le h.2.2 hb.size⟩⟩
theorem product_any (x y : Int) (ix : I64 x) (iy : I64 y) (w : World) :
  Calls Try.prog 128 #[.int .i64 x, .int .i64 y] w fun e w' => e = .returned (.tuple #[.agg #[.int .i64 (oLo (sL x y 4294967296) (sH x y 4294967296)), .int .i64 (oHi (sL x y 4294967296) (sH x y 4294967296))], .int .i64 (oE (sL x y 4294967296) (sH x y 4294967296))]) ∧ Below w.heap.size w w' := by
 have SH := hide (share_any x y 4294967296 ix iy ⟨by omega, by omega⟩ (by omega))
 clear ix iy
 generalize sL x y 4294967296 = LO at *
 generalize sH x y 4294967296 = HI at *
 go_enter Try.func128, Try.ntmps128
 go_wp2_with fail
 refine (SH.out _).mono ?_
 rintro e w1 ⟨rfl, hb1⟩
 obtain ⟨hc1, hf1⟩ := bcell hb1
 have hz1 := hb1.size
 try simp only [World.size_alloc, World.size_setCell] at hz1
 try refine zw1 w w1 (by omega) fun _ _ => ?_
 have c1_0_0 := zci w1 w.heap.size 0 (0) (by go_simp)
 have g1_0_0 := zfe w1 w.heap.size 0 (by go_simp)
 have c1_0_1 := zci w1 w.heap.size 1 (0) (by go_simp)
 have g1_0_1 := zfe w1 w.heap.size 1 (by go_simp)
 clear hc1 hf1
 go_wp2
 refine bodyPost_ret (v := .tuple #[.agg #[.int .i64 (oLo LO HI), .int .i64 (oHi LO HI)], .int .i64 (oE LO HI)]) (by simp only [results, Try.results128]; go_simp) rfl ⟨rfl, blw_⟩
theorem mul_at2 (b : Nat) (x y : Int) (ix : I64 x) (iy : I64 y) : Answers (HasN b x) 127 #[.pointer (some ⟨b, 0, none⟩)] y (oLo (sL x y 4294967296) (sH x y 4294967296)) (oHi (sL x y 4294967296) (sH x y 4294967296)) (oE (sL x y 4294967296) (sH x y 4294967296)) := by
 intro w hw
 obtain ⟨hc, hb⟩ := hw
 have SH := hide (product_any x y ix iy)
 clear ix iy
 have hne : ¬ b = w.heap.size := by omega
 generalize sL x y 4294967296 = LO at *
 generalize sH x y 4294967296 = HI at *
 change Calls Try.prog 127 #[.int .i64 y, .pointer (some ⟨b, 0, none⟩)] w _
 go_enter Try.func127, Try.ntmps127
 go_wp2_with fail
 refine (SH.out _).mono ?_
 rintro e w1 ⟨rfl, hb1⟩
 obtain ⟨hc1, hf1⟩ := bcell hb1
 have hz1 := hb1.size
 try simp only [World.size_alloc, World.size_setCell] at hz1
 try refine zw1 w w1 (by omega) fun _ _ => ?_
 have c1_0_0 := zci w1 w.heap.size 0 (0) (by go_simp)
 have g1_0_0 := zfe w1 w.heap.size 0 (by go_simp)
 have c1_0_1 := zci w1 w.heap.size 1 (0) (by go_simp)
 have g1_0_1 := zfe w1 w.heap.size 1 (by go_simp)
 clear hc1 hf1
 go_wp2
 refine bodyPost_ret (v := .tuple #[.agg #[.int .i64 (oLo LO HI), .int .i64 (oHi LO HI)], .int .i64 (oE LO HI)]) (by simp only [results, Try.results127]; go_simp) rfl ⟨rfl, blw_⟩
def mL (x bl bh : Int) : Int := mi (sL x bl 4294967296) (sL x bh 4294967296)
def mH (x bl bh : Int) : Int := mx (sH x bl 4294967296) (sH x bh 4294967296)
theorem mm_le {l1 h1 l2 h2 : Int} (o1 : l1 ≤ h1) (o2 : l2 ≤ h2) : mi l1 l2 ≤ mx h1 h2 := by unfold mi mx; split <;> split <;> omega
theorem mul_at1 (b : Nat) (bl bh x : Int) (ix : I64 x) (i0 : I64 bl) (i1 : I64 bh) : Answers (HasS b bl bh) 126 #[.pointer (some ⟨b, 0, none⟩)] x (oLo (mL x bl bh) (mH x bl bh)) (oHi (mL x bl bh) (mH x bl bh)) (oE (mL x bl bh) (mH x bl bh)) := by
 intro w hw
 obtain ⟨hc, hc', hb⟩ := hw
 have E := hide (en_out2 (sL x bl 4294967296) (sH x bl 4294967296) (sL x bh 4294967296) (sH x bh 4294967296) (bl == bh) (share_le _ _ _ (by omega)) (share_le _ _ _ (by omega)) (fun h => by rw [eq_of_beq h]; exact ⟨rfl, rfl⟩))
 have hent : ∀ args w, (callFunc 127 args).run Try.prog w = .ok (.enter 127 args) w := enters_of Try.func127 (by kernel_rfl) rfl
 have EN := hide (fun k w hw => ends_1 (HasN k x) (HasN.kept k x) 127 (.pointer (some ⟨k, 0, none⟩)) hent bl bh _ _ _ _ _ _ (mul_at2 k x bl ix i0) (mul_at2 k x bh ix i1) w hw)
 change Calls Try.prog 126 #[.int .i64 x, .pointer (some ⟨b, 0, none⟩)] w _
 unfold mL mH
 rw [← E.out.1, ← E.out.2.1, ← E.out.2.2]
 clear ix i0 i1 hent E
 have hne : ¬ b = w.heap.size := by omega
 have hne2 : ¬ b = w.heap.size + 1 := by omega
 generalize enL (oLo (sL x bl 4294967296) (sH x bl 4294967296)) (oE (sL x bl 4294967296) (sH x bl 4294967296)) (oLo (sL x bh 4294967296) (sH x bh 4294967296)) (oE (sL x bh 4294967296) (sH x bh 4294967296)) (bl == bh) = rl at *
 generalize enH (oHi (sL x bl 4294967296) (sH x bl 4294967296)) (oE (sL x bl 4294967296) (sH x bl 4294967296)) (oHi (sL x bh 4294967296) (sH x bh 4294967296)) (oE (sL x bh 4294967296) (sH x bh 4294967296)) (bl == bh) = rh at *
 generalize enE (oE (sL x bl 4294967296) (sH x bl 4294967296)) (oE (sL x bh 4294967296) (sH x bh 4294967296)) (bl == bh) = re at *
 go_enter Try.func126, Try.ntmps126
 go_wp2_with fail
 refine (EN.out w.heap.size _ ⟨by go_simp, by simp; omega⟩).mono ?_
 rintro e w1 ⟨rfl, hb1⟩
 obtain ⟨hc1, hf1⟩ := bcell hb1
 have hz1 := hb1.size
 try simp only [World.size_alloc, World.size_setCell] at hz1
 try refine zw2 w w1 (by omega) fun _ _ _ _ => ?_
 have c1_0_0 := zci w1 w.heap.size 0 (x) (by go_simp)
 have c1_1_0 := zci w1 (w.heap.size + 1) 0 (0) (by go_simp)
 have g1_1_0 := zfe w1 (w.heap.size + 1) 0 (by go_simp)
 have c1_1_1 := zci w1 (w.heap.size + 1) 1 (0) (by go_simp)
 have g1_1_1 := zfe w1 (w.heap.size + 1) 1 (by go_simp)
 clear hc1 hf1
 go_wp2
 refine bodyPost_ret (v := .tuple #[.agg #[.int .i64 (rl), .int .i64 (rh)], .int .i64 re]) (by simp only [results, Try.results126]; go_simp) rfl ⟨rfl, blw_⟩
theorem mul_any (al ah bl bh : Int) (i0 : I64 al) (j0 : I64 ah) (i1 : I64 bl) (j1 : I64 bh) (w : World) :
  Calls Try.prog 100 #[.agg #[.int .i64 (al), .int .i64 (ah)], .agg #[.int .i64 (bl), .int .i64 (bh)]] w fun e w' => e = .returned (.tuple #[.agg #[.int .i64 (okI (vB al ah && vB bl bh) (oLo (mi (mL al bl bh) (mL ah bl bh)) (mx (mH al bl bh) (mH ah bl bh)))), .int .i64 (okI (vB al ah && vB bl bh) (oHi (mi (mL al bl bh) (mL ah bl bh)) (mx (mH al bl bh) (mH ah bl bh))))], .int .i64 (errE (vB al ah && vB bl bh) (oE (mi (mL al bl bh) (mL ah bl bh)) (mx (mH al bl bh) (mH ah bl bh))))]) ∧ Below w.heap.size w w' := by
 have h0 := i0.1
 have h1 := i1.1
 cases hv : (vB al ah && vB bl bh)
 ·rw [ok_f, ok_f, err_f]
  have HV := hide hv
  clear hv i0 i1 j0 j1
  go_enter Try.func100, Try.ntmps100
  go_wp2_with fail
  go_at_call 116
  refine (invalid2 al ah bl bh _ _ _ h0 h1 (by go_simp) (by go_simp) (by go_simp) (by go_simp) (by go_simp) true (by simpa using HV.out)).mono ?_
  rintro e w1 ⟨rfl, hb1⟩
  obtain ⟨hc1, hf1⟩ := bcell hb1
  have hz1 := hb1.size
  try simp only [World.size_alloc, World.size_setCell] at hz1
  try refine zw3 w w1 (by omega) fun _ _ _ _ _ _ => ?_
  go_wp2
  refine bodyPost_ret (v := .tuple #[.agg #[.int .i64 (0), .int .i64 (0)], .int .i64 2]) (by simp only [results, Try.results100]; go_simp) rfl ⟨rfl, blw_⟩
 ·rw [ok_t, ok_t, err_t]
  have HV := hide hv
  have E := hide (en_out2 (mL al bl bh) (mH al bl bh) (mL ah bl bh) (mH ah bl bh) (al == ah) (mm_le (share_le _ _ _ (by omega)) (share_le _ _ _ (by omega))) (mm_le (share_le _ _ _ (by omega)) (share_le _ _ _ (by omega))) (fun h => by rw [eq_of_beq h]; exact ⟨rfl, rfl⟩))
  have hent : ∀ args w, (callFunc 126 args).run Try.prog w = .ok (.enter 126 args) w := enters_of Try.func126 (by kernel_rfl) rfl
  have EN := hide (fun b w hw => ends_1 (HasS b bl bh) (HasS.kept b bl bh) 126 (.pointer (some ⟨b, 0, none⟩)) hent al ah _ _ _ _ _ _ (mul_at1 b bl bh al i0 i1 j1) (mul_at1 b bl bh ah j0 i1 j1) w hw)
  rw [← E.out.1, ← E.out.2.1, ← E.out.2.2]
  clear hv i0 i1 j0 j1 hent E
  generalize mL al bl bh = l1 at *
  generalize mH al bl bh = h1' at *
  generalize mL ah bl bh = l2 at *
  generalize mH ah bl bh = h2' at *
  generalize enL (oLo l1 h1') (oE l1 h1') (oLo l2 h2') (oE l2 h2') (al == ah) = rl at *
  generalize enH (oHi l1 h1') (oE l1 h1') (oHi l2 h2') (oE l2 h2') (al == ah) = rh at *
  generalize enE (oE l1 h1') (oE l2 h2') (al == ah) = re at *
  go_enter Try.func100, Try.ntmps100
  go_wp2_with fail
  go_at_call 116
  refine (invalid2 al ah bl bh _ _ _ h0 h1 (by go_simp) (by go_simp) (by go_simp) (by go_simp) (by go_simp) false (by simpa using HV.out)).mono ?_
  rintro e w1 ⟨rfl, hb1⟩
  obtain ⟨hc1, hf1⟩ := bcell hb1
  have hz1 := hb1.size
  try simp only [World.size_alloc, World.size_setCell] at hz1
  try refine zw3 w w1 (by omega) fun _ _ _ _ _ _ => ?_
  have c1_0_0 := zci w1 w.heap.size 0 (al) (by go_simp)
  have c1_0_1 := zci w1 w.heap.size 1 (ah) (by go_simp)
  have c1_1_0 := zci w1 (w.heap.size + 1) 0 (bl) (by go_simp)
  have c1_1_1 := zci w1 (w.heap.size + 1) 1 (bh) (by go_simp)
  have c1_2_0 := zci w1 (w.heap.size + 1 + 1) 0 (0) (by go_simp)
  have g1_2_0 := zfe w1 (w.heap.size + 1 + 1) 0 (by go_simp)
  have c1_2_1 := zci w1 (w.heap.size + 1 + 1) 1 (0) (by go_simp)
  have g1_2_1 := zfe w1 (w.heap.size + 1 + 1) 1 (by go_simp)
  clear hc1 hf1
  go_wp2_with fail
  refine (EN.out (w.heap.size + 1) _ ⟨by assumption, by assumption, by assumption⟩).mono ?_
  rintro e w2 ⟨rfl, hb2⟩
  obtain ⟨hc2, hf2⟩ := bcell hb2
  have hz2 := hb2.size
  try simp only [World.size_alloc, World.size_setCell] at hz2
  try refine zw3 w w2 (by omega) fun _ _ _ _ _ _ => ?_
  have c2_0_0 := zci w2 w.heap.size 0 (al) (by go_simp)
  have c2_0_1 := zci w2 w.heap.size 1 (ah) (by go_simp)
  have c2_1_0 := zci w2 (w.heap.size + 1) 0 (bl) (by go_simp)
  have c2_1_1 := zci w2 (w.heap.size + 1) 1 (bh) (by go_simp)
  have c2_2_0 := zci w2 (w.heap.size + 1 + 1) 0 (0) (by go_simp)
  have g2_2_0 := zfe w2 (w.heap.size + 1 + 1) 0 (by go_simp)
  have c2_2_1 := zci w2 (w.heap.size + 1 + 1) 1 (0) (by go_simp)
  have g2_2_1 := zfe w2 (w.heap.size + 1 + 1) 1 (by go_simp)
  clear hc2 hf2 c1_0_0 c1_0_1 c1_1_0 c1_1_1 c1_2_0 g1_2_0 c1_2_1 g1_2_1
  go_wp2
  refine bodyPost_ret (v := .tuple #[.agg #[.int .i64 (rl), .int .i64 (rh)], .int .i64 re]) (by simp only [results, Try.results100]; go_simp) rfl ⟨rfl, blw_⟩
end
end Go.Proofs.Ytacpahebbnnckaa
