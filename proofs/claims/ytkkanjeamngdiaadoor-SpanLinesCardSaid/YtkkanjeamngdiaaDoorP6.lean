/- Packed: Share Ends Times Scale Mul RMul RMul2 Square TurnM Makes RTurn Great Root Root2. -/
import Derived.Test.YtkkanjeamngdiaaDoorP2
import Derived.Test.YtkkanjeamngdiaaDoorP3
import Derived.Test.YtkkanjeamngdiaaDoorP4
import Derived.Test.YtkkanjeamngdiaaDoorP5
set_option linter.unusedVariables false
set_option linter.unusedSimpArgs false
namespace Go.Proofs.YtkkanjeamngdiaaDoor
section
open Go.RowKit
def ab (x : Int) : Int := if x < 0 then -x else x
theorem ab_n {x : Int} (h : x < 0) : ab x = -x := if_pos h
theorem ab_p {x : Int} (h : 0 ≤ x) : ab x = x := if_neg (by omega)
theorem ab_bd {x : Int} (h : I64 x) : 0 ≤ ab x ∧ ab x ≤ 9223372036854775808 := by obtain ⟨_, _⟩ := h; unfold ab; split <;> omega
theorem size_any (x : Int) (h : I64 x) (w : World) :
  Calls Tryd.prog 25 #[.int .i64 x] w fun e w' => e = .returned (.int .u64 (ab x)) ∧ Below w.heap.size w w' := by
 obtain ⟨h0, h1⟩ := h
 by_cases c : x < 0
 ·have E := hide (ab_n c)
  have e1 : IntKind.u64.wrap (-IntKind.u64.wrap x) = -x := by rw [IntKind.wrap_u64, IntKind.wrap_u64]; omega
  go_enter Tryd.func25, Tryd.ntmps25
  go_wp2
  go_ret
  exact ⟨by rw [E.out]; rfl, blw_⟩
 ·have E := hide (ab_p (x := x) (by omega))
  have e1 : IntKind.u64.wrap x = x := by rw [IntKind.wrap_u64]; omega
  go_enter Tryd.func25, Tryd.ntmps25
  go_wp2
  go_ret
  exact ⟨by rw [E.out]; rfl, blw_⟩
def bI (b : Bool) : Int := if b then 1 else 0
theorem outward_any (neg rest : Bool) (n lo hi : Int) (hn : 0 ≤ n ∧ n < 18446744073709551616) (hlo : lo = if neg then -(n + bI rest) else n) (hhi : hi = if neg then -n else n + bI rest) (w : World) :
  Calls Tryd.prog 30 #[.bool neg, .int .u64 n, .bool rest] w fun e w' => e = .returned (.tuple #[.agg #[.int .i64 (oLo lo hi), .int .i64 (oHi lo hi)], .int .i64 (oE lo hi)]) ∧ Below w.heap.size w w' := by
 by_cases c1 : 9223372036854775807 < n
 ·have E := hide (out_f (lo := lo) (hi := hi) (decide_eq_false (by cases neg <;> cases rest <;> simp [bI] at hlo hhi <;> omega)))
  clear hlo hhi
  go_enter Tryd.func30, Tryd.ntmps30
  go_wp2
  rw [E.out.1, E.out.2.1, E.out.2.2]
  refine bodyPost_ret (v := .tuple #[.agg #[.int .i64 (0), .int .i64 (0)], .int .i64 4]) (by simp only [results, Tryd.results30]; go_simp) rfl ⟨rfl, blw_⟩
 ·by_cases c2 : n = 9223372036854775807
  ·cases rest
   ·have E := hide (out_t (lo := lo) (hi := hi) (decide_eq_true (by cases neg <;> simp [bI] at hlo hhi <;> omega)))
    have e1 : IntKind.i64.wrap n = n := by rw [IntKind.wrap_i64]; omega
    cases neg
    ·simp [bI] at hlo hhi
     have HL := hide hlo
     have HH := hide hhi
     clear hlo hhi
     go_enter Tryd.func30, Tryd.ntmps30
     go_wp2
     rw [E.out.1, E.out.2.1, E.out.2.2, HL.out, HH.out]
     refine bodyPost_ret (v := .tuple #[.agg #[.int .i64 (n), .int .i64 (n)], .int .i64 0]) (by simp only [results, Tryd.results30]; go_simp) rfl ⟨rfl, blw_⟩
    ·simp [bI] at hlo hhi
     have HL := hide hlo
     have HH := hide hhi
     clear hlo hhi
     go_enter Tryd.func30, Tryd.ntmps30
     go_wp2
     rw [E.out.1, E.out.2.1, E.out.2.2, HL.out, HH.out]
     refine bodyPost_ret (v := .tuple #[.agg #[.int .i64 (-n), .int .i64 (-n)], .int .i64 0]) (by simp only [results, Tryd.results30]; go_simp) rfl ⟨rfl, blw_⟩
   ·have E := hide (out_f (lo := lo) (hi := hi) (decide_eq_false (by cases neg <;> simp [bI] at hlo hhi <;> omega)))
    clear hlo hhi
    go_enter Tryd.func30, Tryd.ntmps30
    go_wp2
    rw [E.out.1, E.out.2.1, E.out.2.2]
    refine bodyPost_ret (v := .tuple #[.agg #[.int .i64 (0), .int .i64 (0)], .int .i64 4]) (by simp only [results, Tryd.results30]; go_simp) rfl ⟨rfl, blw_⟩
  ·have E := hide (out_t (lo := lo) (hi := hi) (decide_eq_true (by cases neg <;> cases rest <;> simp [bI] at hlo hhi <;> omega)))
   have e1 : IntKind.i64.wrap n = n := by rw [IntKind.wrap_i64]; omega
   have e2 : IntKind.i64.wrap (n + 1) = n + 1 := by rw [IntKind.wrap_i64]; omega
   cases rest
   ·cases neg
    ·simp [bI] at hlo hhi
     have HL := hide hlo
     have HH := hide hhi
     clear hlo hhi
     go_enter Tryd.func30, Tryd.ntmps30
     go_wp2
     rw [E.out.1, E.out.2.1, E.out.2.2, HL.out, HH.out]
     refine bodyPost_ret (v := .tuple #[.agg #[.int .i64 (n), .int .i64 (n)], .int .i64 0]) (by simp only [results, Tryd.results30]; go_simp) rfl ⟨rfl, blw_⟩
    ·simp [bI] at hlo hhi
     have HL := hide hlo
     have HH := hide hhi
     clear hlo hhi
     go_enter Tryd.func30, Tryd.ntmps30
     go_wp2
     rw [E.out.1, E.out.2.1, E.out.2.2, HL.out, HH.out]
     refine bodyPost_ret (v := .tuple #[.agg #[.int .i64 (-n), .int .i64 (-n)], .int .i64 0]) (by simp only [results, Tryd.results30]; go_simp) rfl ⟨rfl, blw_⟩
   ·cases neg
    ·simp [bI] at hlo hhi
     have HL := hide hlo
     have HH := hide hhi
     clear hlo hhi
     go_enter Tryd.func30, Tryd.ntmps30
     go_wp2
     rw [E.out.1, E.out.2.1, E.out.2.2, HL.out, HH.out]
     refine bodyPost_ret (v := .tuple #[.agg #[.int .i64 (n), .int .i64 (n + 1)], .int .i64 0]) (by simp only [results, Tryd.results30]; go_simp) rfl ⟨rfl, blw_⟩
    ·simp only [bI, if_true] at hlo hhi
     have HL := hide hlo
     have HH := hide hhi
     clear hlo hhi
     go_enter Tryd.func30, Tryd.ntmps30
     go_wp2
     rw [E.out.1, E.out.2.1, E.out.2.2, HL.out, HH.out]
     refine bodyPost_ret (v := .tuple #[.agg #[.int .i64 (-(n + 1)), .int .i64 (-n)], .int .i64 0]) (by simp only [results, Tryd.results30]; go_simp) rfl ⟨rfl, blw_⟩
def sN (x y d : Int) : Int := if d < 0 then -(x * y) else x * y
def sL (x y d : Int) : Int := sN x y d / ab d
def sH (x y d : Int) : Int := cdiv (sN x y d) (ab d)
def sneg (x y d : Int) : Bool := (decide (x < 0) != decide (y < 0)) != decide (d < 0)
theorem ab_mul (x y : Int) : ab x * ab y = if (decide (x < 0) != decide (y < 0)) then -(x * y) else x * y := by
 by_cases hx : x < 0 <;> by_cases hy : y < 0 <;> simp [ab, hx, hy, Int.neg_mul, Int.mul_neg]
theorem sN_eq (x y d : Int) : sN x y d = if sneg x y d then -(ab x * ab y) else ab x * ab y := by
 rw [ab_mul]
 unfold sN sneg
 cases (decide (x < 0) != decide (y < 0)) <;> by_cases hd : d < 0 <;> simp [hd]
theorem share_ends (M b S : Int) (neg : Bool) (hb : 0 < b) (h : S = if neg then -M else M) :
  S / b = (if neg then -(M / b + bI (!(M % b == 0))) else M / b) ∧ cdiv S b = (if neg then -(M / b) else M / b + bI (!(M % b == 0))) := by
 subst h
 have hc : cdiv M b = M / b + bI (!(M % b == 0)) := by
  by_cases h : M % b = 0
  ·rw [cdiv_zero h]; simp [bI, h]
  ·rw [cdiv_pos hb h]; simp [bI, h]
 cases neg
 ·exact ⟨rfl, hc⟩
 ·simp only [if_true]
  refine ⟨?_, ?_⟩
  ·rw [← hc]; unfold cdiv; omega
  ·unfold cdiv; rw [Int.neg_neg]
theorem share_no {M b S : Int} (neg : Bool) (hb : 0 < b) (h : S = if neg then -M else M) (hM : b * 18446744073709551616 ≤ M) : fits (S / b) (cdiv S b) = false := by
 obtain ⟨e1, e2⟩ := share_ends M b S neg hb h
 have q : 18446744073709551616 ≤ M / b := (Int.le_ediv_iff_mul_le hb).2 (by omega)
 have r : 0 ≤ bI (!(M % b == 0)) := by unfold bI; split <;> omega
 rw [e1, e2]
 apply decide_eq_false
 cases neg
 ·simp only [Bool.false_eq_true, if_false]; omega
 ·simp only [if_true]; omega
set_option maxHeartbeats 1000000 in
theorem share_any (x y d : Int) (ix : I64 x) (iy : I64 y) (jd : I64 d) (hd : ¬ d = 0) (w : World) :
  Calls Tryd.prog 23 #[.int .i64 x, .int .i64 y, .int .i64 d] w fun e w' => e = .returned (.tuple #[.agg #[.int .i64 (oLo (sL x y d) (sH x y d)), .int .i64 (oHi (sL x y d) (sH x y d))], .int .i64 (oE (sL x y d) (sH x y d))]) ∧ Below w.heap.size w w' := by
 have SX := hide (size_any x ix)
 have SY := hide (size_any y iy)
 have SD := hide (size_any d jd)
 obtain ⟨bx0, bx1⟩ := ab_bd ix
 obtain ⟨by0, by1⟩ := ab_bd iy
 obtain ⟨bd0, bd1⟩ := ab_bd jd
 have bd2 : 0 < ab d := by unfold ab; split <;> omega
 have hS := sN_eq x y d
 have MU := hide (mul64 (ab x) (ab y) ⟨bx0, by omega⟩ ⟨by0, by omega⟩)
 have m0 : 0 ≤ ab x * ab y := Int.mul_nonneg bx0 by0
 have m1 : ab x * ab y ≤ 9223372036854775808 * 9223372036854775808 := Int.mul_le_mul bx1 by1 by0 (by omega)
 have hends := share_ends (ab x * ab y) (ab d) (sN x y d) (sneg x y d) bd2 hS
 have hno := share_no (M := ab x * ab y) (b := ab d) (S := sN x y d) (sneg x y d) bd2 hS
 change sL x y d = _ ∧ sH x y d = _ at hends
 change _ → fits (sL x y d) (sH x y d) = false at hno
 obtain ⟨NG, hNG⟩ : ∃ b, sneg x y d = b := ⟨_, rfl⟩
 have hNG' : ((decide (x < 0) != decide (y < 0)) != decide (d < 0)) = NG := hNG
 rw [hNG] at hends
 generalize ab x * ab y = M at *
 generalize ab x = X at *
 generalize ab y = Y at *
 generalize ab d = D at *
 generalize sL x y d = LO at *
 generalize sH x y d = HI at *
 clear hS
 have HNG := hide hNG'
 clear hNG hNG'
 by_cases c : D ≤ M / 18446744073709551616
 ·have E := hide (out_f (lo := LO) (hi := HI) (hno (by omega)))
  clear hends hno ix iy jd bx0 bx1 by0 by1 m0 m1 bd0 bd1 bd2
  go_enter Tryd.func23, Tryd.ntmps23
  go_wp2_with fail
  refine (SX.out _).mono ?_
  rintro e w1 ⟨rfl, hb1⟩
  obtain ⟨hc1, hf1⟩ := bcell hb1
  have hz1 := hb1.size
  try simp only [World.size_alloc, World.size_setCell] at hz1
  try refine zw1 w w1 (by omega) fun _ _ => ?_
  go_wp2_with fail
  refine (SY.out _).mono ?_
  rintro e w2 ⟨rfl, hb2⟩
  obtain ⟨hc2, hf2⟩ := bcell hb2
  have hz2 := hb2.size
  try simp only [World.size_alloc, World.size_setCell] at hz2
  try refine zw1 w w2 (by omega) fun _ _ => ?_
  try have : w1.heap.size < w2.heap.size := by omega
  try have : w1.heap.size ≤ w2.heap.size := by omega
  go_wp2_with fail
  refine (MU.out _).mono ?_
  rintro e w3 ⟨rfl, rfl⟩
  go_wp2_with fail
  refine (SD.out _).mono ?_
  rintro e w4 ⟨rfl, hb4⟩
  obtain ⟨hc4, hf4⟩ := bcell hb4
  have hz4 := hb4.size
  try simp only [World.size_alloc, World.size_setCell] at hz4
  try refine zw1 w w4 (by omega) fun _ _ => ?_
  go_wp2
  rw [E.out.1, E.out.2.1, E.out.2.2]
  refine bodyPost_ret (v := .tuple #[.agg #[.int .i64 (0), .int .i64 (0)], .int .i64 4]) (by simp only [results, Tryd.results23]; go_simp) rfl ⟨rfl, blw_⟩
 ·have hq : 0 ≤ M / D := Int.ediv_nonneg m0 (by omega)
  have hq2 : M / D < 18446744073709551616 := Int.ediv_lt_of_lt_mul bd2 (by omega)
  have ow := outward_any NG (!(M % D == 0)) (M / D) LO HI ⟨hq, hq2⟩ hends.1 hends.2
  rw [← HNG.out] at ow
  have OW := hide ow
  clear ow
  have hsplit : M / 18446744073709551616 * 18446744073709551616 + M % 18446744073709551616 = M := by omega
  have DV : Hid (∀ w : World, Calls Tryd.prog 29 #[.int .u64 (M / 18446744073709551616), .int .u64 (M % 18446744073709551616), .int .u64 D] w fun e w' => e = .returned (.tuple #[.int .u64 (M / D), .int .u64 (M % D)]) ∧ Below w.heap.size w w') := hide (by
   intro w
   by_cases z : M / 18446744073709551616 = 0
   ·have := div64_s (M % 18446744073709551616) D (by omega) (by omega) w
    have e : M % 18446744073709551616 = M := by omega
    rw [z]
    rw [e] at this ⊢
    exact this
   ·have := div64_b (M / 18446744073709551616) (M % 18446744073709551616) D (by omega) (by omega) (by omega) w
    rw [hsplit] at this
    exact this)
  clear hends hno ix iy jd bx0 bx1 by0 by1 m0 m1 bd0 bd1 bd2 hq hq2 hsplit
  go_enter Tryd.func23, Tryd.ntmps23
  go_wp2_with fail
  refine (SX.out _).mono ?_
  rintro e w1 ⟨rfl, hb1⟩
  obtain ⟨hc1, hf1⟩ := bcell hb1
  have hz1 := hb1.size
  try simp only [World.size_alloc, World.size_setCell] at hz1
  try refine zw1 w w1 (by omega) fun _ _ => ?_
  go_wp2_with fail
  refine (SY.out _).mono ?_
  rintro e w2 ⟨rfl, hb2⟩
  obtain ⟨hc2, hf2⟩ := bcell hb2
  have hz2 := hb2.size
  try simp only [World.size_alloc, World.size_setCell] at hz2
  try refine zw1 w w2 (by omega) fun _ _ => ?_
  try have : w1.heap.size < w2.heap.size := by omega
  try have : w1.heap.size ≤ w2.heap.size := by omega
  go_wp2_with fail
  refine (MU.out _).mono ?_
  rintro e w3 ⟨rfl, rfl⟩
  go_wp2_with fail
  refine (SD.out _).mono ?_
  rintro e w4 ⟨rfl, hb4⟩
  obtain ⟨hc4, hf4⟩ := bcell hb4
  have hz4 := hb4.size
  try simp only [World.size_alloc, World.size_setCell] at hz4
  try refine zw1 w w4 (by omega) fun _ _ => ?_
  go_wp2_with fail
  refine (DV.out _).mono ?_
  rintro e w5 ⟨rfl, hb5⟩
  obtain ⟨hc5, hf5⟩ := bcell hb5
  have hz5 := hb5.size
  try simp only [World.size_alloc, World.size_setCell] at hz5
  try refine zw1 w w5 (by omega) fun _ _ => ?_
  try have : w4.heap.size < w5.heap.size := by omega
  try have : w4.heap.size ≤ w5.heap.size := by omega
  go_wp2_with fail
  refine (OW.out _).mono ?_
  rintro e w6 ⟨rfl, hb6⟩
  obtain ⟨hc6, hf6⟩ := bcell hb6
  have hz6 := hb6.size
  try simp only [World.size_alloc, World.size_setCell] at hz6
  try refine zw1 w w6 (by omega) fun _ _ => ?_
  try have : w4.heap.size < w6.heap.size := by omega
  try have : w4.heap.size ≤ w6.heap.size := by omega
  try have : w5.heap.size < w6.heap.size := by omega
  try have : w5.heap.size ≤ w6.heap.size := by omega
  go_wp2
  refine bodyPost_ret (v := .tuple #[.agg #[.int .i64 (oLo LO HI), .int .i64 (oHi LO HI)], .int .i64 (oE LO HI)]) (by simp only [results, Tryd.results23]; go_simp) rfl ⟨rfl, blw_⟩
end
section
open Go.RowKit
def enL (l1 e1 l2 e2 : Int) (s : Bool) : Int := if e1 ≠ 0 ∨ s = true then l1 else if e2 ≠ 0 then 0 else mi l1 l2
def enH (h1 e1 h2 e2 : Int) (s : Bool) : Int := if e1 ≠ 0 ∨ s = true then h1 else if e2 ≠ 0 then 0 else mx h1 h2
def enE (e1 e2 : Int) (s : Bool) : Int := if e1 ≠ 0 ∨ s = true then e1 else e2
def Answers (C : World → Prop) (g : FuncId) (caps : Array Value) (x l h e : Int) : Prop :=
 ∀ w, C w → Calls Tryd.prog g (#[.int .i64 x] ++ caps) w fun r w' => r = .returned (.tuple #[.agg #[.int .i64 (l), .int .i64 (h)], .int .i64 e]) ∧ Below w.heap.size w w'
structure Kept (C : World → Prop) : Prop where
 below : ∀ {w w'}, C w → Below w.heap.size w w' → C w'
set_option maxHeartbeats 1000000 in
theorem ends_1 (C : World → Prop) (hC : Kept C) (g : FuncId) (p : Value) (hent : ∀ args w, (callFunc g args).run Tryd.prog w = .ok (.enter g args) w)
  (al ah l1 h1 e1 l2 h2 e2 : Int) (A1 : Answers C g #[p] al l1 h1 e1) (A2 : Answers C g #[p] ah l2 h2 e2) (w : World) (hw : C w) :
  Calls Tryd.prog 19 #[.agg #[.int .i64 (al), .int .i64 (ah)], .func (Fn.func g) #[] #[p]] w fun e w' => e = .returned (.tuple #[.agg #[.int .i64 (enL l1 e1 l2 e2 (al == ah)), .int .i64 (enH h1 e1 h2 e2 (al == ah))], .int .i64 (enE e1 e2 (al == ah))]) ∧ Below w.heap.size w w' := by
 have A1' : ∀ w, C w → Calls Tryd.prog g #[.int .i64 al, p] w fun r w' => r = .returned (.tuple #[.agg #[.int .i64 (l1), .int .i64 (h1)], .int .i64 e1]) ∧ Below w.heap.size w w' := A1
 have A2' : ∀ w, C w → Calls Tryd.prog g #[.int .i64 ah, p] w fun r w' => r = .returned (.tuple #[.agg #[.int .i64 (l2), .int .i64 (h2)], .int .i64 e2]) ∧ Below w.heap.size w w' := A2
 clear A1 A2
 by_cases c1 : e1 = 0
 ·subst c1
  by_cases c2 : al = ah
  ·subst c2
   have E : enL l1 0 l2 e2 (al == al) = l1 ∧ enH h1 0 h2 e2 (al == al) = h1 ∧ enE 0 e2 (al == al) = 0 := by simp [enL, enH, enE]
   rw [E.1, E.2.1, E.2.2]
   clear E
   go_enter Tryd.func19, Tryd.ntmps19
   go_wp2_with fail
   refine (A1' _ (hC.below hw blw_)).mono ?_
   rintro e w1 ⟨rfl, hb1⟩
   obtain ⟨hc1, hf1⟩ := bcell hb1
   have hz1 := hb1.size
   try simp only [World.size_alloc, World.size_setCell] at hz1
   try have : w.heap.size < w1.heap.size := by omega
   try have : w.heap.size < w1.heap.size + 1 := by omega
   try have : w.heap.size ≤ w1.heap.size := by omega
   try have : w.heap.size + 1 < w1.heap.size := by omega
   try have : w.heap.size + 1 < w1.heap.size + 1 := by omega
   try have : w.heap.size + 1 ≤ w1.heap.size := by omega
   have c1_0_0 := zci w1 w.heap.size 0 (al) (by go_simp)
   have c1_0_1 := zci w1 w.heap.size 1 (al) (by go_simp)
   have c1_1_0 := zci w1 (w.heap.size + 1) 0 (0) (by go_simp)
   have g1_1_0 := zfe w1 (w.heap.size + 1) 0 (by go_simp)
   have c1_1_1 := zci w1 (w.heap.size + 1) 1 (0) (by go_simp)
   have g1_1_1 := zfe w1 (w.heap.size + 1) 1 (by go_simp)
   clear hc1 hf1
   go_wp2
   refine bodyPost_ret (v := .tuple #[.agg #[.int .i64 (l1), .int .i64 (h1)], .int .i64 0]) (by simp only [results, Tryd.results19]; go_simp) rfl ⟨rfl, blw_⟩
  ·have c2' : (al == ah) = false := by simp [c2]
   by_cases c3 : e2 = 0
   ·have E : enL l1 0 l2 e2 (al == ah) = mi l1 l2 ∧ enH h1 0 h2 e2 (al == ah) = mx h1 h2 ∧ enE 0 e2 (al == ah) = 0 := by simp [enL, enH, enE, c2, c3]
    rw [E.1, E.2.1, E.2.2]
    have SB := hide (sboth l1 h1 l2 h2)
    subst c3
    clear E
    go_enter Tryd.func19, Tryd.ntmps19
    go_wp2_with fail
    refine (A1' _ (hC.below hw blw_)).mono ?_
    rintro e w1 ⟨rfl, hb1⟩
    obtain ⟨hc1, hf1⟩ := bcell hb1
    have hz1 := hb1.size
    try simp only [World.size_alloc, World.size_setCell] at hz1
    try have : w.heap.size < w1.heap.size := by omega
    try have : w.heap.size < w1.heap.size + 1 := by omega
    try have : w.heap.size ≤ w1.heap.size := by omega
    try have : w.heap.size + 1 < w1.heap.size := by omega
    try have : w.heap.size + 1 < w1.heap.size + 1 := by omega
    try have : w.heap.size + 1 ≤ w1.heap.size := by omega
    have c1_0_0 := zci w1 w.heap.size 0 (al) (by go_simp)
    have c1_0_1 := zci w1 w.heap.size 1 (ah) (by go_simp)
    have c1_1_0 := zci w1 (w.heap.size + 1) 0 (0) (by go_simp)
    have g1_1_0 := zfe w1 (w.heap.size + 1) 0 (by go_simp)
    have c1_1_1 := zci w1 (w.heap.size + 1) 1 (0) (by go_simp)
    have g1_1_1 := zfe w1 (w.heap.size + 1) 1 (by go_simp)
    clear hc1 hf1
    go_wp2_with fail
    refine (A2' _ (hC.below hw blw_)).mono ?_
    rintro e w2 ⟨rfl, hb2⟩
    obtain ⟨hc2, hf2⟩ := bcell hb2
    have hz2 := hb2.size
    try simp only [World.size_alloc, World.size_setCell] at hz2
    try have : w.heap.size < w2.heap.size := by omega
    try have : w.heap.size < w2.heap.size + 1 := by omega
    try have : w.heap.size ≤ w2.heap.size := by omega
    try have : w.heap.size + 1 < w2.heap.size := by omega
    try have : w.heap.size + 1 < w2.heap.size + 1 := by omega
    try have : w.heap.size + 1 ≤ w2.heap.size := by omega
    try have : w1.heap.size < w2.heap.size := by omega
    try have : w1.heap.size < w2.heap.size + 1 := by omega
    try have : w1.heap.size ≤ w2.heap.size := by omega
    have c2_0_0 := zci w2 w.heap.size 0 (al) (by go_simp)
    have c2_0_1 := zci w2 w.heap.size 1 (ah) (by go_simp)
    have c2_1_0 := zci w2 (w.heap.size + 1) 0 (0) (by go_simp)
    have g2_1_0 := zfe w2 (w.heap.size + 1) 0 (by go_simp)
    have c2_1_1 := zci w2 (w.heap.size + 1) 1 (0) (by go_simp)
    have g2_1_1 := zfe w2 (w.heap.size + 1) 1 (by go_simp)
    have c2_2_0 := zci w2 w1.heap.size 0 (l1) (by go_simp)
    have c2_2_1 := zci w2 w1.heap.size 1 (h1) (by go_simp)
    clear hc2 hf2 c1_0_0 c1_0_1 c1_1_0 g1_1_0 c1_1_1 g1_1_1
    go_wp2_with fail
    refine (SB.out _).mono ?_
    rintro e w3 ⟨rfl, hb3⟩
    obtain ⟨hc3, hf3⟩ := bcell hb3
    have hz3 := hb3.size
    try simp only [World.size_alloc, World.size_setCell] at hz3
    try refine zw2 w w3 (by omega) fun _ _ _ _ => ?_
    try have : w1.heap.size < w3.heap.size := by omega
    try have : w1.heap.size ≤ w3.heap.size := by omega
    try have : w2.heap.size < w3.heap.size := by omega
    try have : w2.heap.size ≤ w3.heap.size := by omega
    have c3_0_0 := zci w3 w.heap.size 0 (al) (by go_simp)
    have c3_0_1 := zci w3 w.heap.size 1 (ah) (by go_simp)
    have c3_1_0 := zci w3 (w.heap.size + 1) 0 (0) (by go_simp)
    have g3_1_0 := zfe w3 (w.heap.size + 1) 0 (by go_simp)
    have c3_1_1 := zci w3 (w.heap.size + 1) 1 (0) (by go_simp)
    have g3_1_1 := zfe w3 (w.heap.size + 1) 1 (by go_simp)
    have c3_2_0 := zci w3 w1.heap.size 0 (l1) (by go_simp)
    have c3_2_1 := zci w3 w1.heap.size 1 (h1) (by go_simp)
    have c3_3_0 := zci w3 w2.heap.size 0 (l2) (by go_simp)
    have c3_3_1 := zci w3 w2.heap.size 1 (h2) (by go_simp)
    clear hc3 hf3 c2_0_0 c2_0_1 c2_1_0 g2_1_0 c2_1_1 g2_1_1 c2_2_0 c2_2_1
    go_wp2
    refine bodyPost_ret (v := .tuple #[.agg #[.int .i64 (mi l1 l2), .int .i64 (mx h1 h2)], .int .i64 0]) (by simp only [results, Tryd.results19]; go_simp) rfl ⟨rfl, blw_⟩
   ·have E : enL l1 0 l2 e2 (al == ah) = 0 ∧ enH h1 0 h2 e2 (al == ah) = 0 ∧ enE 0 e2 (al == ah) = e2 := by simp [enL, enH, enE, c2, c3]
    rw [E.1, E.2.1, E.2.2]
    clear E
    go_enter Tryd.func19, Tryd.ntmps19
    go_wp2_with fail
    refine (A1' _ (hC.below hw blw_)).mono ?_
    rintro e w1 ⟨rfl, hb1⟩
    obtain ⟨hc1, hf1⟩ := bcell hb1
    have hz1 := hb1.size
    try simp only [World.size_alloc, World.size_setCell] at hz1
    try have : w.heap.size < w1.heap.size := by omega
    try have : w.heap.size < w1.heap.size + 1 := by omega
    try have : w.heap.size ≤ w1.heap.size := by omega
    try have : w.heap.size + 1 < w1.heap.size := by omega
    try have : w.heap.size + 1 < w1.heap.size + 1 := by omega
    try have : w.heap.size + 1 ≤ w1.heap.size := by omega
    have c1_0_0 := zci w1 w.heap.size 0 (al) (by go_simp)
    have c1_0_1 := zci w1 w.heap.size 1 (ah) (by go_simp)
    have c1_1_0 := zci w1 (w.heap.size + 1) 0 (0) (by go_simp)
    have g1_1_0 := zfe w1 (w.heap.size + 1) 0 (by go_simp)
    have c1_1_1 := zci w1 (w.heap.size + 1) 1 (0) (by go_simp)
    have g1_1_1 := zfe w1 (w.heap.size + 1) 1 (by go_simp)
    clear hc1 hf1
    go_wp2_with fail
    refine (A2' _ (hC.below hw blw_)).mono ?_
    rintro e w2 ⟨rfl, hb2⟩
    obtain ⟨hc2, hf2⟩ := bcell hb2
    have hz2 := hb2.size
    try simp only [World.size_alloc, World.size_setCell] at hz2
    try have : w.heap.size < w2.heap.size := by omega
    try have : w.heap.size < w2.heap.size + 1 := by omega
    try have : w.heap.size ≤ w2.heap.size := by omega
    try have : w.heap.size + 1 < w2.heap.size := by omega
    try have : w.heap.size + 1 < w2.heap.size + 1 := by omega
    try have : w.heap.size + 1 ≤ w2.heap.size := by omega
    try have : w1.heap.size < w2.heap.size := by omega
    try have : w1.heap.size < w2.heap.size + 1 := by omega
    try have : w1.heap.size ≤ w2.heap.size := by omega
    have c2_0_0 := zci w2 w.heap.size 0 (al) (by go_simp)
    have c2_0_1 := zci w2 w.heap.size 1 (ah) (by go_simp)
    have c2_1_0 := zci w2 (w.heap.size + 1) 0 (0) (by go_simp)
    have g2_1_0 := zfe w2 (w.heap.size + 1) 0 (by go_simp)
    have c2_1_1 := zci w2 (w.heap.size + 1) 1 (0) (by go_simp)
    have g2_1_1 := zfe w2 (w.heap.size + 1) 1 (by go_simp)
    have c2_2_0 := zci w2 w1.heap.size 0 (l1) (by go_simp)
    have c2_2_1 := zci w2 w1.heap.size 1 (h1) (by go_simp)
    clear hc2 hf2 c1_0_0 c1_0_1 c1_1_0 g1_1_0 c1_1_1 g1_1_1
    go_wp2
    refine bodyPost_ret (v := .tuple #[.agg #[.int .i64 (0), .int .i64 (0)], .int .i64 e2]) (by simp only [results, Tryd.results19]; go_simp) rfl ⟨rfl, blw_⟩
 ·have E : enL l1 e1 l2 e2 (al == ah) = l1 ∧ enH h1 e1 h2 e2 (al == ah) = h1 ∧ enE e1 e2 (al == ah) = e1 := by simp [enL, enH, enE, c1]
  rw [E.1, E.2.1, E.2.2]
  clear E
  go_enter Tryd.func19, Tryd.ntmps19
  go_wp2_with fail
  refine (A1' _ (hC.below hw blw_)).mono ?_
  rintro e w1 ⟨rfl, hb1⟩
  obtain ⟨hc1, hf1⟩ := bcell hb1
  have hz1 := hb1.size
  try simp only [World.size_alloc, World.size_setCell] at hz1
  try have : w.heap.size < w1.heap.size := by omega
  try have : w.heap.size < w1.heap.size + 1 := by omega
  try have : w.heap.size ≤ w1.heap.size := by omega
  try have : w.heap.size + 1 < w1.heap.size := by omega
  try have : w.heap.size + 1 < w1.heap.size + 1 := by omega
  try have : w.heap.size + 1 ≤ w1.heap.size := by omega
  have c1_0_0 := zci w1 w.heap.size 0 (al) (by go_simp)
  have c1_0_1 := zci w1 w.heap.size 1 (ah) (by go_simp)
  have c1_1_0 := zci w1 (w.heap.size + 1) 0 (0) (by go_simp)
  have g1_1_0 := zfe w1 (w.heap.size + 1) 0 (by go_simp)
  have c1_1_1 := zci w1 (w.heap.size + 1) 1 (0) (by go_simp)
  have g1_1_1 := zfe w1 (w.heap.size + 1) 1 (by go_simp)
  clear hc1 hf1
  go_wp2
  refine bodyPost_ret (v := .tuple #[.agg #[.int .i64 (l1), .int .i64 (h1)], .int .i64 e1]) (by simp only [results, Tryd.results19]; go_simp) rfl ⟨rfl, blw_⟩
set_option maxHeartbeats 1000000 in
theorem ends_0 (C : World → Prop) (hC : Kept C) (g : FuncId) (hent : ∀ args w, (callFunc g args).run Tryd.prog w = .ok (.enter g args) w)
  (al ah l1 h1 e1 l2 h2 e2 : Int) (A1 : Answers C g #[] al l1 h1 e1) (A2 : Answers C g #[] ah l2 h2 e2) (w : World) (hw : C w) :
  Calls Tryd.prog 19 #[.agg #[.int .i64 (al), .int .i64 (ah)], .func (Fn.func g) #[] #[]] w fun e w' => e = .returned (.tuple #[.agg #[.int .i64 (enL l1 e1 l2 e2 (al == ah)), .int .i64 (enH h1 e1 h2 e2 (al == ah))], .int .i64 (enE e1 e2 (al == ah))]) ∧ Below w.heap.size w w' := by
 have A1' : ∀ w, C w → Calls Tryd.prog g #[.int .i64 al] w fun r w' => r = .returned (.tuple #[.agg #[.int .i64 (l1), .int .i64 (h1)], .int .i64 e1]) ∧ Below w.heap.size w w' := A1
 have A2' : ∀ w, C w → Calls Tryd.prog g #[.int .i64 ah] w fun r w' => r = .returned (.tuple #[.agg #[.int .i64 (l2), .int .i64 (h2)], .int .i64 e2]) ∧ Below w.heap.size w w' := A2
 clear A1 A2
 by_cases c1 : e1 = 0
 ·subst c1
  by_cases c2 : al = ah
  ·subst c2
   have E : enL l1 0 l2 e2 (al == al) = l1 ∧ enH h1 0 h2 e2 (al == al) = h1 ∧ enE 0 e2 (al == al) = 0 := by simp [enL, enH, enE]
   rw [E.1, E.2.1, E.2.2]
   clear E
   go_enter Tryd.func19, Tryd.ntmps19
   go_wp2_with fail
   refine (A1' _ (hC.below hw blw_)).mono ?_
   rintro e w1 ⟨rfl, hb1⟩
   obtain ⟨hc1, hf1⟩ := bcell hb1
   have hz1 := hb1.size
   try simp only [World.size_alloc, World.size_setCell] at hz1
   try have : w.heap.size < w1.heap.size := by omega
   try have : w.heap.size < w1.heap.size + 1 := by omega
   try have : w.heap.size ≤ w1.heap.size := by omega
   try have : w.heap.size + 1 < w1.heap.size := by omega
   try have : w.heap.size + 1 < w1.heap.size + 1 := by omega
   try have : w.heap.size + 1 ≤ w1.heap.size := by omega
   have c1_0_0 := zci w1 w.heap.size 0 (al) (by go_simp)
   have c1_0_1 := zci w1 w.heap.size 1 (al) (by go_simp)
   have c1_1_0 := zci w1 (w.heap.size + 1) 0 (0) (by go_simp)
   have g1_1_0 := zfe w1 (w.heap.size + 1) 0 (by go_simp)
   have c1_1_1 := zci w1 (w.heap.size + 1) 1 (0) (by go_simp)
   have g1_1_1 := zfe w1 (w.heap.size + 1) 1 (by go_simp)
   clear hc1 hf1
   go_wp2
   refine bodyPost_ret (v := .tuple #[.agg #[.int .i64 (l1), .int .i64 (h1)], .int .i64 0]) (by simp only [results, Tryd.results19]; go_simp) rfl ⟨rfl, blw_⟩
  ·have c2' : (al == ah) = false := by simp [c2]
   by_cases c3 : e2 = 0
   ·have E : enL l1 0 l2 e2 (al == ah) = mi l1 l2 ∧ enH h1 0 h2 e2 (al == ah) = mx h1 h2 ∧ enE 0 e2 (al == ah) = 0 := by simp [enL, enH, enE, c2, c3]
    rw [E.1, E.2.1, E.2.2]
    have SB := hide (sboth l1 h1 l2 h2)
    subst c3
    clear E
    go_enter Tryd.func19, Tryd.ntmps19
    go_wp2_with fail
    refine (A1' _ (hC.below hw blw_)).mono ?_
    rintro e w1 ⟨rfl, hb1⟩
    obtain ⟨hc1, hf1⟩ := bcell hb1
    have hz1 := hb1.size
    try simp only [World.size_alloc, World.size_setCell] at hz1
    try have : w.heap.size < w1.heap.size := by omega
    try have : w.heap.size < w1.heap.size + 1 := by omega
    try have : w.heap.size ≤ w1.heap.size := by omega
    try have : w.heap.size + 1 < w1.heap.size := by omega
    try have : w.heap.size + 1 < w1.heap.size + 1 := by omega
    try have : w.heap.size + 1 ≤ w1.heap.size := by omega
    have c1_0_0 := zci w1 w.heap.size 0 (al) (by go_simp)
    have c1_0_1 := zci w1 w.heap.size 1 (ah) (by go_simp)
    have c1_1_0 := zci w1 (w.heap.size + 1) 0 (0) (by go_simp)
    have g1_1_0 := zfe w1 (w.heap.size + 1) 0 (by go_simp)
    have c1_1_1 := zci w1 (w.heap.size + 1) 1 (0) (by go_simp)
    have g1_1_1 := zfe w1 (w.heap.size + 1) 1 (by go_simp)
    clear hc1 hf1
    go_wp2_with fail
    refine (A2' _ (hC.below hw blw_)).mono ?_
    rintro e w2 ⟨rfl, hb2⟩
    obtain ⟨hc2, hf2⟩ := bcell hb2
    have hz2 := hb2.size
    try simp only [World.size_alloc, World.size_setCell] at hz2
    try have : w.heap.size < w2.heap.size := by omega
    try have : w.heap.size < w2.heap.size + 1 := by omega
    try have : w.heap.size ≤ w2.heap.size := by omega
    try have : w.heap.size + 1 < w2.heap.size := by omega
    try have : w.heap.size + 1 < w2.heap.size + 1 := by omega
    try have : w.heap.size + 1 ≤ w2.heap.size := by omega
    try have : w1.heap.size < w2.heap.size := by omega
    try have : w1.heap.size < w2.heap.size + 1 := by omega
    try have : w1.heap.size ≤ w2.heap.size := by omega
    have c2_0_0 := zci w2 w.heap.size 0 (al) (by go_simp)
    have c2_0_1 := zci w2 w.heap.size 1 (ah) (by go_simp)
    have c2_1_0 := zci w2 (w.heap.size + 1) 0 (0) (by go_simp)
    have g2_1_0 := zfe w2 (w.heap.size + 1) 0 (by go_simp)
    have c2_1_1 := zci w2 (w.heap.size + 1) 1 (0) (by go_simp)
    have g2_1_1 := zfe w2 (w.heap.size + 1) 1 (by go_simp)
    have c2_2_0 := zci w2 w1.heap.size 0 (l1) (by go_simp)
    have c2_2_1 := zci w2 w1.heap.size 1 (h1) (by go_simp)
    clear hc2 hf2 c1_0_0 c1_0_1 c1_1_0 g1_1_0 c1_1_1 g1_1_1
    go_wp2_with fail
    refine (SB.out _).mono ?_
    rintro e w3 ⟨rfl, hb3⟩
    obtain ⟨hc3, hf3⟩ := bcell hb3
    have hz3 := hb3.size
    try simp only [World.size_alloc, World.size_setCell] at hz3
    try refine zw2 w w3 (by omega) fun _ _ _ _ => ?_
    try have : w1.heap.size < w3.heap.size := by omega
    try have : w1.heap.size ≤ w3.heap.size := by omega
    try have : w2.heap.size < w3.heap.size := by omega
    try have : w2.heap.size ≤ w3.heap.size := by omega
    have c3_0_0 := zci w3 w.heap.size 0 (al) (by go_simp)
    have c3_0_1 := zci w3 w.heap.size 1 (ah) (by go_simp)
    have c3_1_0 := zci w3 (w.heap.size + 1) 0 (0) (by go_simp)
    have g3_1_0 := zfe w3 (w.heap.size + 1) 0 (by go_simp)
    have c3_1_1 := zci w3 (w.heap.size + 1) 1 (0) (by go_simp)
    have g3_1_1 := zfe w3 (w.heap.size + 1) 1 (by go_simp)
    have c3_2_0 := zci w3 w1.heap.size 0 (l1) (by go_simp)
    have c3_2_1 := zci w3 w1.heap.size 1 (h1) (by go_simp)
    have c3_3_0 := zci w3 w2.heap.size 0 (l2) (by go_simp)
    have c3_3_1 := zci w3 w2.heap.size 1 (h2) (by go_simp)
    clear hc3 hf3 c2_0_0 c2_0_1 c2_1_0 g2_1_0 c2_1_1 g2_1_1 c2_2_0 c2_2_1
    go_wp2
    refine bodyPost_ret (v := .tuple #[.agg #[.int .i64 (mi l1 l2), .int .i64 (mx h1 h2)], .int .i64 0]) (by simp only [results, Tryd.results19]; go_simp) rfl ⟨rfl, blw_⟩
   ·have E : enL l1 0 l2 e2 (al == ah) = 0 ∧ enH h1 0 h2 e2 (al == ah) = 0 ∧ enE 0 e2 (al == ah) = e2 := by simp [enL, enH, enE, c2, c3]
    rw [E.1, E.2.1, E.2.2]
    clear E
    go_enter Tryd.func19, Tryd.ntmps19
    go_wp2_with fail
    refine (A1' _ (hC.below hw blw_)).mono ?_
    rintro e w1 ⟨rfl, hb1⟩
    obtain ⟨hc1, hf1⟩ := bcell hb1
    have hz1 := hb1.size
    try simp only [World.size_alloc, World.size_setCell] at hz1
    try have : w.heap.size < w1.heap.size := by omega
    try have : w.heap.size < w1.heap.size + 1 := by omega
    try have : w.heap.size ≤ w1.heap.size := by omega
    try have : w.heap.size + 1 < w1.heap.size := by omega
    try have : w.heap.size + 1 < w1.heap.size + 1 := by omega
    try have : w.heap.size + 1 ≤ w1.heap.size := by omega
    have c1_0_0 := zci w1 w.heap.size 0 (al) (by go_simp)
    have c1_0_1 := zci w1 w.heap.size 1 (ah) (by go_simp)
    have c1_1_0 := zci w1 (w.heap.size + 1) 0 (0) (by go_simp)
    have g1_1_0 := zfe w1 (w.heap.size + 1) 0 (by go_simp)
    have c1_1_1 := zci w1 (w.heap.size + 1) 1 (0) (by go_simp)
    have g1_1_1 := zfe w1 (w.heap.size + 1) 1 (by go_simp)
    clear hc1 hf1
    go_wp2_with fail
    refine (A2' _ (hC.below hw blw_)).mono ?_
    rintro e w2 ⟨rfl, hb2⟩
    obtain ⟨hc2, hf2⟩ := bcell hb2
    have hz2 := hb2.size
    try simp only [World.size_alloc, World.size_setCell] at hz2
    try have : w.heap.size < w2.heap.size := by omega
    try have : w.heap.size < w2.heap.size + 1 := by omega
    try have : w.heap.size ≤ w2.heap.size := by omega
    try have : w.heap.size + 1 < w2.heap.size := by omega
    try have : w.heap.size + 1 < w2.heap.size + 1 := by omega
    try have : w.heap.size + 1 ≤ w2.heap.size := by omega
    try have : w1.heap.size < w2.heap.size := by omega
    try have : w1.heap.size < w2.heap.size + 1 := by omega
    try have : w1.heap.size ≤ w2.heap.size := by omega
    have c2_0_0 := zci w2 w.heap.size 0 (al) (by go_simp)
    have c2_0_1 := zci w2 w.heap.size 1 (ah) (by go_simp)
    have c2_1_0 := zci w2 (w.heap.size + 1) 0 (0) (by go_simp)
    have g2_1_0 := zfe w2 (w.heap.size + 1) 0 (by go_simp)
    have c2_1_1 := zci w2 (w.heap.size + 1) 1 (0) (by go_simp)
    have g2_1_1 := zfe w2 (w.heap.size + 1) 1 (by go_simp)
    have c2_2_0 := zci w2 w1.heap.size 0 (l1) (by go_simp)
    have c2_2_1 := zci w2 w1.heap.size 1 (h1) (by go_simp)
    clear hc2 hf2 c1_0_0 c1_0_1 c1_1_0 g1_1_0 c1_1_1 g1_1_1
    go_wp2
    refine bodyPost_ret (v := .tuple #[.agg #[.int .i64 (0), .int .i64 (0)], .int .i64 e2]) (by simp only [results, Tryd.results19]; go_simp) rfl ⟨rfl, blw_⟩
 ·have E : enL l1 e1 l2 e2 (al == ah) = l1 ∧ enH h1 e1 h2 e2 (al == ah) = h1 ∧ enE e1 e2 (al == ah) = e1 := by simp [enL, enH, enE, c1]
  rw [E.1, E.2.1, E.2.2]
  clear E
  go_enter Tryd.func19, Tryd.ntmps19
  go_wp2_with fail
  refine (A1' _ (hC.below hw blw_)).mono ?_
  rintro e w1 ⟨rfl, hb1⟩
  obtain ⟨hc1, hf1⟩ := bcell hb1
  have hz1 := hb1.size
  try simp only [World.size_alloc, World.size_setCell] at hz1
  try have : w.heap.size < w1.heap.size := by omega
  try have : w.heap.size < w1.heap.size + 1 := by omega
  try have : w.heap.size ≤ w1.heap.size := by omega
  try have : w.heap.size + 1 < w1.heap.size := by omega
  try have : w.heap.size + 1 < w1.heap.size + 1 := by omega
  try have : w.heap.size + 1 ≤ w1.heap.size := by omega
  have c1_0_0 := zci w1 w.heap.size 0 (al) (by go_simp)
  have c1_0_1 := zci w1 w.heap.size 1 (ah) (by go_simp)
  have c1_1_0 := zci w1 (w.heap.size + 1) 0 (0) (by go_simp)
  have g1_1_0 := zfe w1 (w.heap.size + 1) 0 (by go_simp)
  have c1_1_1 := zci w1 (w.heap.size + 1) 1 (0) (by go_simp)
  have g1_1_1 := zfe w1 (w.heap.size + 1) 1 (by go_simp)
  clear hc1 hf1
  go_wp2
  refine bodyPost_ret (v := .tuple #[.agg #[.int .i64 (l1), .int .i64 (h1)], .int .i64 e1]) (by simp only [results, Tryd.results19]; go_simp) rfl ⟨rfl, blw_⟩
end
section
open Go.RowKit
end
section
open Go.RowKit
def HasN (b : Nat) (n : Int) (w : World) : Prop := w.cell? ⟨b, 0, none⟩ = some (.int .i64 n) ∧ b < w.heap.size
theorem HasN.kept (b : Nat) (n : Int) : Kept (HasN b n) := ⟨fun h hb => ⟨by rw [(bcell hb).1 b 0 h.2]; exact h.1, Nat.lt_of_lt_of_le h.2 hb.size⟩⟩
end
section
open Go.RowKit
theorem en_out2 (l1 h1 l2 h2 : Int) (s : Bool) (o1 : l1 ≤ h1) (o2 : l2 ≤ h2) (h : s = true → l1 = l2 ∧ h1 = h2) :
  enL (oLo l1 h1) (oE l1 h1) (oLo l2 h2) (oE l2 h2) s = oLo (mi l1 l2) (mx h1 h2) ∧ enH (oHi l1 h1) (oE l1 h1) (oHi l2 h2) (oE l2 h2) s = oHi (mi l1 l2) (mx h1 h2) ∧ enE (oE l1 h1) (oE l2 h2) s = oE (mi l1 l2) (mx h1 h2) := by
 have hm : fits (mi l1 l2) (mx h1 h2) = (fits l1 h1 && fits l2 h2) := by
  unfold fits mi mx
  rw [← Bool.decide_and]
  apply decide_eq_decide.2
  split <;> split <;> omega
 cases s
 ·unfold enL enH enE oLo oHi oE
  rw [hm]
  cases fits l1 h1 <;> cases fits l2 h2 <;> simp
 ·obtain ⟨rfl, rfl⟩ := h rfl
  have e1 : mi l1 l1 = l1 := by unfold mi; split <;> rfl
  have e2 : mx h1 h1 = h1 := by unfold mx; split <;> rfl
  rw [e1, e2]
  simp [enL, enH, enE]
theorem ab_pos {d : Int} (h : ¬ d = 0) : 0 < ab d := by unfold ab; split <;> omega
theorem share_le (x y d : Int) (h : ¬ d = 0) : sL x y d ≤ sH x y d := by
 have hp := ab_pos h
 unfold sL sH
 by_cases z : sN x y d % ab d = 0
 ·rw [cdiv_zero z]; omega
 ·rw [cdiv_pos hp z]; omega
def HasS (b : Nat) (lo hi : Int) (w : World) : Prop := w.cell? ⟨b, 0, none⟩ = some (.int .i64 lo) ∧ w.cell? ⟨b, 1, none⟩ = some (.int .i64 hi) ∧ b < w.heap.size
theorem HasS.kept (b : Nat) (lo hi : Int) : Kept (HasS b lo hi) := ⟨fun h hb => ⟨by rw [(bcell hb).1 b 0 h.2.2]; exact h.1, by rw [(bcell hb).1 b 1 h.2.2]; exact h.2.1, Nat.lt_of_lt_of_le h.2.2 hb.size⟩⟩
theorem product_any (x y : Int) (ix : I64 x) (iy : I64 y) (w : World) :
  Calls Tryd.prog 22 #[.int .i64 x, .int .i64 y] w fun e w' => e = .returned (.tuple #[.agg #[.int .i64 (oLo (sL x y 4294967296) (sH x y 4294967296)), .int .i64 (oHi (sL x y 4294967296) (sH x y 4294967296))], .int .i64 (oE (sL x y 4294967296) (sH x y 4294967296))]) ∧ Below w.heap.size w w' := by
 have SH := hide (share_any x y 4294967296 ix iy ⟨by omega, by omega⟩ (by omega))
 clear ix iy
 generalize sL x y 4294967296 = LO at *
 generalize sH x y 4294967296 = HI at *
 go_enter Tryd.func22, Tryd.ntmps22
 go_wp2_with fail
 refine (SH.out _).mono ?_
 rintro e w1 ⟨rfl, hb1⟩
 obtain ⟨hc1, hf1⟩ := bcell hb1
 have hz1 := hb1.size
 try simp only [World.size_alloc, World.size_setCell] at hz1
 try refine zw1 w w1 (by omega) fun _ _ => ?_
 have c1_0_0 := zci w1 w.heap.size 0 (0) (by go_simp)
 have g1_0_0 := zfe w1 w.heap.size 0 (by go_simp)
 have c1_0_1 := zci w1 w.heap.size 1 (0) (by go_simp)
 have g1_0_1 := zfe w1 w.heap.size 1 (by go_simp)
 clear hc1 hf1
 go_wp2
 refine bodyPost_ret (v := .tuple #[.agg #[.int .i64 (oLo LO HI), .int .i64 (oHi LO HI)], .int .i64 (oE LO HI)]) (by simp only [results, Tryd.results22]; go_simp) rfl ⟨rfl, blw_⟩
theorem mul_at2 (b : Nat) (x y : Int) (ix : I64 x) (iy : I64 y) : Answers (HasN b x) 21 #[.pointer (some ⟨b, 0, none⟩)] y (oLo (sL x y 4294967296) (sH x y 4294967296)) (oHi (sL x y 4294967296) (sH x y 4294967296)) (oE (sL x y 4294967296) (sH x y 4294967296)) := by
 intro w hw
 obtain ⟨hc, hb⟩ := hw
 have SH := hide (product_any x y ix iy)
 clear ix iy
 have hne : ¬ b = w.heap.size := by omega
 generalize sL x y 4294967296 = LO at *
 generalize sH x y 4294967296 = HI at *
 change Calls Tryd.prog 21 #[.int .i64 y, .pointer (some ⟨b, 0, none⟩)] w _
 go_enter Tryd.func21, Tryd.ntmps21
 go_wp2_with fail
 refine (SH.out _).mono ?_
 rintro e w1 ⟨rfl, hb1⟩
 obtain ⟨hc1, hf1⟩ := bcell hb1
 have hz1 := hb1.size
 try simp only [World.size_alloc, World.size_setCell] at hz1
 try refine zw1 w w1 (by omega) fun _ _ => ?_
 have c1_0_0 := zci w1 w.heap.size 0 (0) (by go_simp)
 have g1_0_0 := zfe w1 w.heap.size 0 (by go_simp)
 have c1_0_1 := zci w1 w.heap.size 1 (0) (by go_simp)
 have g1_0_1 := zfe w1 w.heap.size 1 (by go_simp)
 clear hc1 hf1
 go_wp2
 refine bodyPost_ret (v := .tuple #[.agg #[.int .i64 (oLo LO HI), .int .i64 (oHi LO HI)], .int .i64 (oE LO HI)]) (by simp only [results, Tryd.results21]; go_simp) rfl ⟨rfl, blw_⟩
def mL (x bl bh : Int) : Int := mi (sL x bl 4294967296) (sL x bh 4294967296)
def mH (x bl bh : Int) : Int := mx (sH x bl 4294967296) (sH x bh 4294967296)
theorem mm_le {l1 h1 l2 h2 : Int} (o1 : l1 ≤ h1) (o2 : l2 ≤ h2) : mi l1 l2 ≤ mx h1 h2 := by unfold mi mx; split <;> split <;> omega
theorem mul_at1 (b : Nat) (bl bh x : Int) (ix : I64 x) (i0 : I64 bl) (i1 : I64 bh) : Answers (HasS b bl bh) 20 #[.pointer (some ⟨b, 0, none⟩)] x (oLo (mL x bl bh) (mH x bl bh)) (oHi (mL x bl bh) (mH x bl bh)) (oE (mL x bl bh) (mH x bl bh)) := by
 intro w hw
 obtain ⟨hc, hc', hb⟩ := hw
 have E := hide (en_out2 (sL x bl 4294967296) (sH x bl 4294967296) (sL x bh 4294967296) (sH x bh 4294967296) (bl == bh) (share_le _ _ _ (by omega)) (share_le _ _ _ (by omega)) (fun h => by rw [eq_of_beq h]; exact ⟨rfl, rfl⟩))
 have hent : ∀ args w, (callFunc 21 args).run Tryd.prog w = .ok (.enter 21 args) w := enters_of Tryd.func21 (by kernel_rfl) rfl
 have EN := hide (fun k w hw => ends_1 (HasN k x) (HasN.kept k x) 21 (.pointer (some ⟨k, 0, none⟩)) hent bl bh _ _ _ _ _ _ (mul_at2 k x bl ix i0) (mul_at2 k x bh ix i1) w hw)
 change Calls Tryd.prog 20 #[.int .i64 x, .pointer (some ⟨b, 0, none⟩)] w _
 unfold mL mH
 rw [← E.out.1, ← E.out.2.1, ← E.out.2.2]
 clear ix i0 i1 hent E
 have hne : ¬ b = w.heap.size := by omega
 have hne2 : ¬ b = w.heap.size + 1 := by omega
 generalize enL (oLo (sL x bl 4294967296) (sH x bl 4294967296)) (oE (sL x bl 4294967296) (sH x bl 4294967296)) (oLo (sL x bh 4294967296) (sH x bh 4294967296)) (oE (sL x bh 4294967296) (sH x bh 4294967296)) (bl == bh) = rl at *
 generalize enH (oHi (sL x bl 4294967296) (sH x bl 4294967296)) (oE (sL x bl 4294967296) (sH x bl 4294967296)) (oHi (sL x bh 4294967296) (sH x bh 4294967296)) (oE (sL x bh 4294967296) (sH x bh 4294967296)) (bl == bh) = rh at *
 generalize enE (oE (sL x bl 4294967296) (sH x bl 4294967296)) (oE (sL x bh 4294967296) (sH x bh 4294967296)) (bl == bh) = re at *
 go_enter Tryd.func20, Tryd.ntmps20
 go_wp2_with fail
 refine (EN.out w.heap.size _ ⟨by go_simp, by simp; omega⟩).mono ?_
 rintro e w1 ⟨rfl, hb1⟩
 obtain ⟨hc1, hf1⟩ := bcell hb1
 have hz1 := hb1.size
 try simp only [World.size_alloc, World.size_setCell] at hz1
 try refine zw2 w w1 (by omega) fun _ _ _ _ => ?_
 have c1_0_0 := zci w1 w.heap.size 0 (x) (by go_simp)
 have c1_1_0 := zci w1 (w.heap.size + 1) 0 (0) (by go_simp)
 have g1_1_0 := zfe w1 (w.heap.size + 1) 0 (by go_simp)
 have c1_1_1 := zci w1 (w.heap.size + 1) 1 (0) (by go_simp)
 have g1_1_1 := zfe w1 (w.heap.size + 1) 1 (by go_simp)
 clear hc1 hf1
 go_wp2
 refine bodyPost_ret (v := .tuple #[.agg #[.int .i64 (rl), .int .i64 (rh)], .int .i64 re]) (by simp only [results, Tryd.results20]; go_simp) rfl ⟨rfl, blw_⟩
theorem mul_any (al ah bl bh : Int) (i0 : I64 al) (j0 : I64 ah) (i1 : I64 bl) (j1 : I64 bh) (w : World) :
  Calls Tryd.prog 10 #[.agg #[.int .i64 (al), .int .i64 (ah)], .agg #[.int .i64 (bl), .int .i64 (bh)]] w fun e w' => e = .returned (.tuple #[.agg #[.int .i64 (okI (vB al ah && vB bl bh) (oLo (mi (mL al bl bh) (mL ah bl bh)) (mx (mH al bl bh) (mH ah bl bh)))), .int .i64 (okI (vB al ah && vB bl bh) (oHi (mi (mL al bl bh) (mL ah bl bh)) (mx (mH al bl bh) (mH ah bl bh))))], .int .i64 (errE (vB al ah && vB bl bh) (oE (mi (mL al bl bh) (mL ah bl bh)) (mx (mH al bl bh) (mH ah bl bh))))]) ∧ Below w.heap.size w w' := by
 have h0 := i0.1
 have h1 := i1.1
 cases hv : (vB al ah && vB bl bh)
 ·rw [ok_f, ok_f, err_f]
  have HV := hide hv
  clear hv i0 i1 j0 j1
  go_enter Tryd.func10, Tryd.ntmps10
  go_wp2_with fail
  go_at_call 16
  refine (invalid2 al ah bl bh _ _ _ h0 h1 (by go_simp) (by go_simp) (by go_simp) (by go_simp) (by go_simp) true (by simpa using HV.out)).mono ?_
  rintro e w1 ⟨rfl, hb1⟩
  obtain ⟨hc1, hf1⟩ := bcell hb1
  have hz1 := hb1.size
  try simp only [World.size_alloc, World.size_setCell] at hz1
  try refine zw3 w w1 (by omega) fun _ _ _ _ _ _ => ?_
  go_wp2
  refine bodyPost_ret (v := .tuple #[.agg #[.int .i64 (0), .int .i64 (0)], .int .i64 2]) (by simp only [results, Tryd.results10]; go_simp) rfl ⟨rfl, blw_⟩
 ·rw [ok_t, ok_t, err_t]
  have HV := hide hv
  have E := hide (en_out2 (mL al bl bh) (mH al bl bh) (mL ah bl bh) (mH ah bl bh) (al == ah) (mm_le (share_le _ _ _ (by omega)) (share_le _ _ _ (by omega))) (mm_le (share_le _ _ _ (by omega)) (share_le _ _ _ (by omega))) (fun h => by rw [eq_of_beq h]; exact ⟨rfl, rfl⟩))
  have hent : ∀ args w, (callFunc 20 args).run Tryd.prog w = .ok (.enter 20 args) w := enters_of Tryd.func20 (by kernel_rfl) rfl
  have EN := hide (fun b w hw => ends_1 (HasS b bl bh) (HasS.kept b bl bh) 20 (.pointer (some ⟨b, 0, none⟩)) hent al ah _ _ _ _ _ _ (mul_at1 b bl bh al i0 i1 j1) (mul_at1 b bl bh ah j0 i1 j1) w hw)
  rw [← E.out.1, ← E.out.2.1, ← E.out.2.2]
  clear hv i0 i1 j0 j1 hent E
  generalize mL al bl bh = l1 at *
  generalize mH al bl bh = h1' at *
  generalize mL ah bl bh = l2 at *
  generalize mH ah bl bh = h2' at *
  generalize enL (oLo l1 h1') (oE l1 h1') (oLo l2 h2') (oE l2 h2') (al == ah) = rl at *
  generalize enH (oHi l1 h1') (oE l1 h1') (oHi l2 h2') (oE l2 h2') (al == ah) = rh at *
  generalize enE (oE l1 h1') (oE l2 h2') (al == ah) = re at *
  go_enter Tryd.func10, Tryd.ntmps10
  go_wp2_with fail
  go_at_call 16
  refine (invalid2 al ah bl bh _ _ _ h0 h1 (by go_simp) (by go_simp) (by go_simp) (by go_simp) (by go_simp) false (by simpa using HV.out)).mono ?_
  rintro e w1 ⟨rfl, hb1⟩
  obtain ⟨hc1, hf1⟩ := bcell hb1
  have hz1 := hb1.size
  try simp only [World.size_alloc, World.size_setCell] at hz1
  try refine zw3 w w1 (by omega) fun _ _ _ _ _ _ => ?_
  have c1_0_0 := zci w1 w.heap.size 0 (al) (by go_simp)
  have c1_0_1 := zci w1 w.heap.size 1 (ah) (by go_simp)
  have c1_1_0 := zci w1 (w.heap.size + 1) 0 (bl) (by go_simp)
  have c1_1_1 := zci w1 (w.heap.size + 1) 1 (bh) (by go_simp)
  have c1_2_0 := zci w1 (w.heap.size + 1 + 1) 0 (0) (by go_simp)
  have g1_2_0 := zfe w1 (w.heap.size + 1 + 1) 0 (by go_simp)
  have c1_2_1 := zci w1 (w.heap.size + 1 + 1) 1 (0) (by go_simp)
  have g1_2_1 := zfe w1 (w.heap.size + 1 + 1) 1 (by go_simp)
  clear hc1 hf1
  go_wp2_with fail
  refine (EN.out (w.heap.size + 1) _ ⟨by assumption, by assumption, by assumption⟩).mono ?_
  rintro e w2 ⟨rfl, hb2⟩
  obtain ⟨hc2, hf2⟩ := bcell hb2
  have hz2 := hb2.size
  try simp only [World.size_alloc, World.size_setCell] at hz2
  try refine zw3 w w2 (by omega) fun _ _ _ _ _ _ => ?_
  have c2_0_0 := zci w2 w.heap.size 0 (al) (by go_simp)
  have c2_0_1 := zci w2 w.heap.size 1 (ah) (by go_simp)
  have c2_1_0 := zci w2 (w.heap.size + 1) 0 (bl) (by go_simp)
  have c2_1_1 := zci w2 (w.heap.size + 1) 1 (bh) (by go_simp)
  have c2_2_0 := zci w2 (w.heap.size + 1 + 1) 0 (0) (by go_simp)
  have g2_2_0 := zfe w2 (w.heap.size + 1 + 1) 0 (by go_simp)
  have c2_2_1 := zci w2 (w.heap.size + 1 + 1) 1 (0) (by go_simp)
  have g2_2_1 := zfe w2 (w.heap.size + 1 + 1) 1 (by go_simp)
  clear hc2 hf2 c1_0_0 c1_0_1 c1_1_0 c1_1_1 c1_2_0 g1_2_0 c1_2_1 g1_2_1
  go_wp2
  refine bodyPost_ret (v := .tuple #[.agg #[.int .i64 (rl), .int .i64 (rh)], .int .i64 re]) (by simp only [results, Tryd.results10]; go_simp) rfl ⟨rfl, blw_⟩
end
section
open Go.RowKit
end
section
open Go.RowKit
end
section
open Go.RowKit
end
section
open Go.RowKit
end
section
open Go.RowKit
def raL (a b : Int) : Int := if b = 0 then 0 else oLo (sL a 4294967296 b) (sH a 4294967296 b)
def raH (a b : Int) : Int := if b = 0 then 0 else oHi (sL a 4294967296 b) (sH a 4294967296 b)
def raE (a b : Int) : Int := if b = 0 then 10 else oE (sL a 4294967296 b) (sH a 4294967296 b)
theorem ra_z {a b : Int} (h : b = 0) : raL a b = 0 ∧ raH a b = 0 ∧ raE a b = 10 := by simp [raL, raH, raE, h]
theorem ra_n {a b : Int} (h : ¬ b = 0) : raL a b = oLo (sL a 4294967296 b) (sH a 4294967296 b) ∧ raH a b = oHi (sL a 4294967296 b) (sH a 4294967296 b) ∧ raE a b = oE (sL a 4294967296 b) (sH a 4294967296 b) := by simp [raL, raH, raE, h]
theorem i64_one : I64 4294967296 := by constructor <;> omega
theorem ratio_any (a b : Int) (ia : I64 a) (ib : I64 b) (w : World) :
  Calls Tryd.prog 12 #[.int .i64 a, .int .i64 b] w fun e w' => e = .returned (.tuple #[.agg #[.int .i64 (raL a b), .int .i64 (raH a b)], .int .i64 (raE a b)]) ∧ Below w.heap.size w w' := by
 by_cases c : b = 0
 ·obtain ⟨e1, e2, e3⟩ := ra_z (a := a) c
  rw [e1, e2, e3]
  clear e1 e2 e3
  go_enter Tryd.func12, Tryd.ntmps12
  go_wp2
  refine bodyPost_ret (v := .tuple #[.agg #[.int .i64 (0), .int .i64 (0)], .int .i64 10]) (by simp only [results, Tryd.results12]; go_simp) rfl ⟨rfl, blw_⟩
 ·obtain ⟨e1, e2, e3⟩ := ra_n (a := a) c
  rw [e1, e2, e3]
  have SH := hide (share_any a 4294967296 b ia i64_one ib c)
  clear e1 e2 e3 ia ib
  generalize sL a 4294967296 b = LO at *
  generalize sH a 4294967296 b = HI at *
  go_enter Tryd.func12, Tryd.ntmps12
  go_wp2_with fail
  refine (SH.out _).mono ?_
  rintro e w1 ⟨rfl, hb1⟩
  obtain ⟨hc1, hf1⟩ := bcell hb1
  have hz1 := hb1.size
  try simp only [World.size_alloc, World.size_setCell] at hz1
  try refine zw1 w w1 (by omega) fun _ _ => ?_
  go_wp2
  refine bodyPost_ret (v := .tuple #[.agg #[.int .i64 (oLo LO HI), .int .i64 (oHi LO HI)], .int .i64 (oE LO HI)]) (by simp only [results, Tryd.results12]; go_simp) rfl ⟨rfl, blw_⟩
end
section
open Go.RowKit
end
section
open Go.RowKit
def AnswersB (C : World → Prop) (g : FuncId) (caps : Array Value) (n : Int) (r : Bool) : Prop :=
 ∀ w, C w → Calls Tryd.prog g (#[.int .u64 n] ++ caps) w fun e w' => e = .returned (.bool r) ∧ Below w.heap.size w w'
structure GreatInv (r n c : Int) : Prop where
 pow : ∃ j h : Nat, j ≤ 48 ∧ c = 2 ^ j ∧ n = h * 2 ^ j
 le : n ≤ r
 lt : r < n + c
theorem GreatInv.half {r n c : Int} (h : GreatInv r n c) (hr : r < 281474976710656) (hc : ¬ c = 1) :
  ∃ d, c = 2 * d ∧ 1 ≤ d ∧ d ≤ 140737488355328 ∧ 0 ≤ n ∧ n + d < 562949953421312 ∧ bits .or .u64 n d = n + d ∧ (n ≤ r → r < n + d → GreatInv r n d) ∧ (n + d ≤ r → GreatInv r (n + d) d) := by
 obtain ⟨j, k, hj, rfl, rfl⟩ := h.pow
 have hle := h.le
 have hlt := h.lt
 cases j with
 | zero => exact absurd rfl hc
 | succ j =>
  have p0 : 0 < (2 : Int) ^ j := Int.pow_pos (by omega)
  have h1 : (2 : Nat) ^ j ≤ 2 ^ 47 := Nat.pow_le_pow_right (by omega) (by omega)
  have h2 : (((2 : Nat) ^ j : Nat) : Int) ≤ ((2 ^ 47 : Nat) : Int) := by exact_mod_cast h1
  rw [Int.natCast_pow] at h2
  have h2' : (2 : Int) ^ j ≤ 140737488355328 := h2
  have e : (2 : Int) ^ (j + 1) = 2 * 2 ^ j := by rw [Int.pow_succ]; omega
  have en : (k : Int) * 2 ^ (j + 1) = ((2 * k : Nat) : Int) * 2 ^ j := by
   rw [e, Int.natCast_mul, ← Int.mul_assoc, Int.mul_comm (k : Int) 2]; rfl
  have k0 : 0 ≤ (k : Int) * 2 ^ (j + 1) := Int.mul_nonneg (by omega) (by omega)
  refine ⟨2 ^ j, e, by omega, h2', k0, by omega, ?_, ?_, ?_⟩
  ·have q : k * 2 ^ (j + 1) < 281474976710656 := by
    have : ((k * 2 ^ (j + 1) : Nat) : Int) < 281474976710656 := by rw [Int.natCast_mul, Int.natCast_pow]; show (k : Int) * 2 ^ (j + 1) < _; omega
    omega
   have o := orP k (2 ^ j) (j + 1) (by rw [Nat.pow_succ]; have := Nat.two_pow_pos j; omega) (by omega)
   rw [Int.natCast_mul, Int.natCast_pow, Int.natCast_pow, Int.natCast_add, Int.natCast_mul, Int.natCast_pow, Int.natCast_pow] at o
   exact o
  ·intro _ hl
   exact ⟨⟨j, 2 * k, by omega, rfl, en⟩, hle, hl⟩
  ·intro hl
   refine ⟨⟨j, 2 * k + 1, by omega, rfl, ?_⟩, hl, by omega⟩
   rw [en, Int.natCast_add, Int.add_mul]
   omega
set_option maxHeartbeats 1000000 in
theorem great48 (C : World → Prop) (hC : Kept C) (g : FuncId) (p q : Value) (hent : ∀ args w, (callFunc g args).run Tryd.prog w = .ok (.enter g args) w)
  (r : Int) (hr : 0 ≤ r ∧ r < 281474976710656) (A1 : ∀ n, 0 ≤ n → n < 562949953421312 → AnswersB C g #[p, q] n (decide (n ≤ r))) (w : World) (hw : C w) :
  Calls Tryd.prog 31 #[.int .i64 48, .func (Fn.func g) #[] #[p, q]] w fun e w' => e = .returned (.int .u64 r) ∧ Below w.heap.size w w' := by
 have A1' : Hid (∀ n b, 0 ≤ n → n < 562949953421312 → decide (n ≤ r) = b → ∀ w, C w → Calls Tryd.prog g #[.int .u64 n, p, q] w fun e w' => e = .returned (.bool b) ∧ Below w.heap.size w w') := hide (fun n b h1 h2 h3 => h3 ▸ A1 n h1 h2)
 have HR := hide hr
 clear A1 hr
 go_enter Tryd.func31, Tryd.ntmps31
 go_wp2
 go_loopw [5, 6] (fun s5 s6 wr => ∃ n c : Int, s5 = .int .u64 n ∧ s6 = .int .u64 (c / 2) ∧ GreatInv r n c ∧ Below w.heap.size w wr) (fun _ s6 _ => (intOf s6).toNat)
 case atStart =>
  have := HR.out
  exact ⟨0, 281474976710656, rfl, by first | rfl | go_num, ⟨⟨48, 0, by omega, rfl, by simp⟩, by omega, by omega⟩, blw_⟩
 case round =>
  obtain ⟨n, c, rfl, rfl, hI, hB⟩ := hrel
  by_cases hc : c = 1
  ·subst hc
   have HL : Hid (n = r) := hide (by have := hI.le; have := hI.lt; omega)
   clear hI
   go_wp2
   go_ret
   exact ⟨by rw [HL.out]; rfl, hB⟩
  ·obtain ⟨d, rfl, d1, d2, n0, nd, hor, hlo, hhi⟩ := hI.half HR.out.2 hc
   have e0 : (2 * d) / 2 = d := by omega
   rw [e0]
   have nr := hI.le
   have HLO := hide hlo
   have HHI := hide hhi
   clear hI hlo hhi hc e0
   have hd0 : 0 < d := by omega
   by_cases cc : n + d ≤ r
   ·have AN := hide (A1'.out (n + d) true (by omega) nd (decide_eq_true cc))
    have HN := hide (HHI.out cc)
    clear cc
    go_wp2_with fail
    refine (AN.out _ (hC.below hw hB)).mono ?_
    rintro e w1 ⟨rfl, hb1⟩
    go_wp2
    go_roundw
    case rel => exact ⟨n + d, d, by first | rfl | go_num, by first | rfl | go_num, HN.out, hB.trans (hb1.mono hB.size)⟩
    case measure => simp [intOf]; omega
   ·have AN := hide (A1'.out (n + d) false (by omega) nd (decide_eq_false cc))
    have HN := hide (HLO.out nr (by omega))
    clear cc
    go_wp2_with fail
    refine (AN.out _ (hC.below hw hB)).mono ?_
    rintro e w1 ⟨rfl, hb1⟩
    go_wp2
    go_roundw
    case rel => exact ⟨n, d, by first | rfl | go_num, by first | rfl | go_num, HN.out, hB.trans (hb1.mono hB.size)⟩
    case measure => simp [intOf]; omega
end
section
open Go.RowKit
theorem sq_le {a b : Int} (h0 : 0 ≤ a) (h : a ≤ b) : a * a ≤ b * b := Int.mul_le_mul h h h0 (by omega)
theorem root_lt {a b : Int} (h0 : 0 ≤ b) (h : a * a < b * b) : a < b := by
 by_cases c : a < b
 ·exact c
 ·have := sq_le h0 (show b ≤ a by omega)
  omega
end
section
open Go.RowKit
def sqc : Nat → Nat → Nat
 | 0, _ => 0
 | f + 1, n => if n = 0 then 0 else if (2 * sqc f (n / 4) + 1) * (2 * sqc f (n / 4) + 1) ≤ n then 2 * sqc f (n / 4) + 1 else 2 * sqc f (n / 4)
theorem sqc_spec : ∀ (f n : Nat), n ≤ f → sqc f n * sqc f n ≤ n ∧ n < (sqc f n + 1) * (sqc f n + 1)
 | 0, n, h => by obtain rfl : n = 0 := by omega
                 simp [sqc]
 | f + 1, n, h => by
  unfold sqc
  by_cases h0 : n = 0
  ·subst h0; simp
  ·rw [if_neg h0]
   obtain ⟨h1, h2⟩ := sqc_spec f (n / 4) (by omega)
   generalize sqc f (n / 4) = r at h1 h2
   have e1 : (r + 1) * (r + 1) = r * r + 2 * r + 1 := by grind
   have e2 : (2 * r + 1) * (2 * r + 1) = 4 * (r * r) + 4 * r + 1 := by grind
   have e3 : (2 * r + 1 + 1) * (2 * r + 1 + 1) = 4 * (r * r) + 8 * r + 4 := by grind
   have e4 : (2 * r) * (2 * r) = 4 * (r * r) := by grind
   split
   ·rename_i h3
    rw [e3]; omega
   ·rename_i h3
    rw [e4, e2]; rw [e2] at h3; omega
def isq (a : Int) : Int := ((sqc a.toNat a.toNat : Nat) : Int)
theorem isq_spec {a : Int} (h : 0 ≤ a) : 0 ≤ isq a ∧ isq a * isq a ≤ a ∧ a < (isq a + 1) * (isq a + 1) := by
 have s := sqc_spec a.toNat a.toNat (Nat.le_refl _)
 unfold isq
 generalize sqc a.toNat a.toNat = n at *
 obtain ⟨s1, s2⟩ := s
 refine ⟨by omega, ?_, ?_⟩
 ·have : ((n * n : Nat) : Int) ≤ (a.toNat : Int) := by exact_mod_cast s1
  rw [Int.natCast_mul] at this
  omega
 ·have : (a.toNat : Int) < (((n + 1) * (n + 1) : Nat) : Int) := by exact_mod_cast s2
  rw [Int.natCast_mul, Int.natCast_add] at this
  have e : ((1 : Nat) : Int) = 1 := rfl
  rw [e] at this
  omega
theorem isq_mono {a b : Int} (h0 : 0 ≤ a) (h : a ≤ b) : isq a ≤ isq b := by
 obtain ⟨a0, a1, a2⟩ := isq_spec h0
 obtain ⟨b0, b1, b2⟩ := isq_spec (a := b) (by omega)
 have := root_lt (a := isq a) (b := isq b + 1) (by omega) (by omega)
 omega
noncomputable def rtL (x : Int) : Int := isq (x * 4294967296)
noncomputable def rtR (x : Int) : Bool := !(rtL x * rtL x == x * 4294967296)
noncomputable def rtH (x : Int) : Int := rtL x + bI (rtR x)
theorem rt_spec {x : Int} (h : 0 ≤ x) : 0 ≤ rtL x ∧ rtL x * rtL x ≤ x * 4294967296 ∧ x * 4294967296 < (rtL x + 1) * (rtL x + 1) := isq_spec (by omega)
theorem rt_bd {x : Int} (h : 0 ≤ x) (k : x ≤ 9223372036854775807) : rtL x < 281474976710656 := by
 obtain ⟨a0, a1, a2⟩ := rt_spec h
 exact root_lt (by omega) (by omega)
theorem bI_bd (b : Bool) : 0 ≤ bI b ∧ bI b ≤ 1 := by cases b <;> simp [bI]
theorem rt_monoL {x y : Int} (h0 : 0 ≤ x) (h : x ≤ y) : rtL x ≤ rtL y := isq_mono (by omega) (by omega)
theorem rt_monoH {x y : Int} (h0 : 0 ≤ x) (h : x ≤ y) : rtH x ≤ rtH y := by
 have m := rt_monoL h0 h
 obtain ⟨a0, a1, a2⟩ := rt_spec h0
 obtain ⟨b0, b1, b2⟩ := rt_spec (x := y) (by omega)
 have k1 := bI_bd (rtR x)
 have k2 := bI_bd (rtR y)
 by_cases c : rtL x = rtL y
 ·unfold rtH
  cases hy : rtR y
  ·have hx : rtR x = false := by
    unfold rtR at hy ⊢
    simp at hy ⊢
    rw [c] at a1 ⊢
    omega
   rw [hx, c]
   simp [bI]
  ·have : bI true = 1 := rfl
   omega
 ·unfold rtH; omega
def HasU (b c : Nat) (x y : Int) (w : World) : Prop := (w.cell? ⟨b, 0, none⟩ = some (.int .u64 x) ∧ b < w.heap.size) ∧ w.cell? ⟨c, 0, none⟩ = some (.int .u64 y) ∧ c < w.heap.size
theorem HasU.kept (b c : Nat) (x y : Int) : Kept (HasU b c x y) := ⟨fun h hb => ⟨⟨by rw [(bcell hb).1 b 0 h.1.2]; exact h.1.1, Nat.lt_of_lt_of_le h.1.2 hb.size⟩, by rw [(bcell hb).1 c 0 h.2.2]; exact h.2.1, Nat.lt_of_lt_of_le h.2.2 hb.size⟩⟩
theorem small_at (b c : Nat) (H L a r n : Int) (hH : a = H * 18446744073709551616 + L) (hL : 0 ≤ L ∧ L < 18446744073709551616) (hr : 0 ≤ r) (r1 : r * r ≤ a) (r2 : a < (r + 1) * (r + 1)) (n0 : 0 ≤ n) (n1 : n < 562949953421312) :
  AnswersB (HasU b c H L) 32 #[.pointer (some ⟨b, 0, none⟩), .pointer (some ⟨c, 0, none⟩)] n (decide (n ≤ r)) := by
 intro w hw
 obtain ⟨⟨hc, hb⟩, hc', hb'⟩ := hw
 have e : decide (n ≤ r) = decide (n * n ≤ a) := by
  apply decide_eq_decide.2
  constructor
  ·intro h; have := sq_le n0 h; omega
  ·intro h; have := root_lt (a := n) (b := r + 1) (by omega) (by omega); omega
 rw [e]
 have MU := hide (mul64 n n ⟨n0, by omega⟩ ⟨n0, by omega⟩)
 change Calls Tryd.prog 32 #[.int .u64 n, .pointer (some ⟨b, 0, none⟩), .pointer (some ⟨c, 0, none⟩)] w _
 generalize n * n = m at *
 clear e r1 r2 n0 n1 hr
 by_cases k1 : m / 18446744073709551616 < H
 ·rw [show decide (m ≤ a) = true from decide_eq_true (by omega)]
  clear hH hL
  go_enter Tryd.func32, Tryd.ntmps32
  go_wp2_with fail
  refine (MU.out _).mono ?_
  rintro e w ⟨rfl, rfl⟩
  go_wp2
  go_ret
  exact ⟨rfl, blw_⟩
 ·by_cases k2 : m / 18446744073709551616 = H
  ·by_cases k3 : m % 18446744073709551616 ≤ L
   ·rw [show decide (m ≤ a) = true from decide_eq_true (by omega)]
    clear hH hL
    go_enter Tryd.func32, Tryd.ntmps32
    go_wp2_with fail
    refine (MU.out _).mono ?_
    rintro e w ⟨rfl, rfl⟩
    go_wp2
    go_ret
    exact ⟨by first | rfl | exact congrArg (fun b => Ending.returned (.bool b)) (decide_eq_true k3), blw_⟩
   ·rw [show decide (m ≤ a) = false from decide_eq_false (by omega)]
    clear hH hL
    go_enter Tryd.func32, Tryd.ntmps32
    go_wp2_with fail
    refine (MU.out _).mono ?_
    rintro e w ⟨rfl, rfl⟩
    go_wp2
    go_ret
    exact ⟨congrArg (fun b => Ending.returned (.bool b)) (decide_eq_false (by omega)), blw_⟩
  ·rw [show decide (m ≤ a) = false from decide_eq_false (by omega)]
   clear hH hL
   go_enter Tryd.func32, Tryd.ntmps32
   go_wp2_with fail
   refine (MU.out _).mono ?_
   rintro e w ⟨rfl, rfl⟩
   go_wp2
   go_ret
   exact ⟨congrArg (fun b => Ending.returned (.bool b)) (decide_eq_false (by omega)), blw_⟩
theorem root_any (x : Int) (h0 : 0 ≤ x) (h1 : x ≤ 9223372036854775807) (w : World) :
  Calls Tryd.prog 24 #[.int .i64 x] w fun e w' => e = .returned (.tuple #[.agg #[.int .i64 (rtL x), .int .i64 (rtH x)], .int .i64 0]) ∧ Below w.heap.size w w' := by
 obtain ⟨a0, a1, a2⟩ := rt_spec h0
 have ab := rt_bd h0 h1
 have kb := bI_bd (rtR x)
 have hent : ∀ args w, (callFunc 32 args).run Tryd.prog w = .ok (.enter 32 args) w := enters_of Tryd.func32 (by kernel_rfl) rfl
 have wx : IntKind.u64.wrap x = x := by rw [IntKind.wrap_u64]; omega
 have wl : IntKind.u64.wrap (x * 4294967296) = x % 4294967296 * 4294967296 := by rw [IntKind.wrap_u64]; omega
 have GR := hide (fun b c w hw => great48 (HasU b c (x / 4294967296) (x % 4294967296 * 4294967296)) (HasU.kept b c _ _) 32 (.pointer (some ⟨b, 0, none⟩)) (.pointer (some ⟨c, 0, none⟩)) hent (rtL x) ⟨a0, ab⟩ (fun n n0 n1 => small_at b c _ _ (x * 4294967296) (rtL x) n (by omega) ⟨by omega, by omega⟩ a0 a1 a2 n0 n1) w hw)
 have MU := hide (mul64 (rtL x) (rtL x) ⟨a0, by omega⟩ ⟨a0, by omega⟩)
 have OW := outward_any false (rtR x) (rtL x) (rtL x) (rtH x) ⟨a0, by omega⟩ rfl rfl
 have ft := out_t (lo := rtL x) (hi := rtH x) (decide_eq_true (by unfold rtH; omega))
 rw [ft.1, ft.2.1, ft.2.2] at OW
 have hR : rtR x = !(rtL x * rtL x == x * 4294967296) := rfl
 have m0 : 0 ≤ rtL x * rtL x := Int.mul_nonneg a0 a0
 generalize rtH x = HI at *
 generalize hr : rtR x = RR at *
 generalize rtL x = r at *
 generalize r * r = m at *
 have hcase : (RR = false ∧ m / 18446744073709551616 = x / 4294967296 ∧ m % 18446744073709551616 = x % 4294967296 * 4294967296) ∨ (RR = true ∧ ¬ m / 18446744073709551616 = x / 4294967296) ∨ (RR = true ∧ m / 18446744073709551616 = x / 4294967296 ∧ ¬ m % 18446744073709551616 = x % 4294967296 * 4294967296) := by
  by_cases c : m = x * 4294967296
  ·left
   exact ⟨by rw [hR]; simp [c], by omega, by omega⟩
  ·have : RR = true := by rw [hR]; simp [c]
   by_cases c2 : m / 18446744073709551616 = x / 4294967296
   ·right; right; exact ⟨this, c2, by omega⟩
   ·right; left; exact ⟨this, c2⟩
 clear a0 a1 a2 ab kb hent ft m0 h0 h1 hr hR
 rcases hcase with ⟨rfl, k1, k2⟩ | ⟨rfl, k1⟩ | ⟨rfl, k1, k2⟩
 all_goals have OW' := hide OW
 all_goals clear OW
 ·go_enter Tryd.func24, Tryd.ntmps24
  go_wp2_with fail
  refine (GR.out (w.heap.size + 1) (w.heap.size + 1 + 1) _ ⟨⟨by go_simp, by simp <;> omega⟩, by go_simp, by simp <;> omega⟩).mono ?_
  rintro e w1 ⟨rfl, hb1⟩
  obtain ⟨hc1, hf1⟩ := bcell hb1
  have hz1 := hb1.size
  try simp only [World.size_alloc, World.size_setCell] at hz1
  try refine zw3 w w1 (by omega) fun _ _ _ _ _ _ => ?_
  have c1_0_0 := zci w1 w.heap.size 0 (0) (by go_simp)
  have g1_0_0 := zfe w1 w.heap.size 0 (by go_simp)
  have c1_0_1 := zci w1 w.heap.size 1 (0) (by go_simp)
  have g1_0_1 := zfe w1 w.heap.size 1 (by go_simp)
  have c1_1_0 := zcu w1 (w.heap.size + 1) 0 (x / 4294967296) (by go_simp)
  have c1_2_0 := zcu w1 (w.heap.size + 1 + 1) 0 (x % 4294967296 * 4294967296) (by go_simp)
  clear hc1 hf1
  go_wp2_with fail
  refine (MU.out _).mono ?_
  rintro e w1 ⟨rfl, rfl⟩
  go_wp2_with fail
  refine (OW'.out _).mono ?_
  rintro e w2 ⟨rfl, hb2⟩
  obtain ⟨hc2, hf2⟩ := bcell hb2
  have hz2 := hb2.size
  try simp only [World.size_alloc, World.size_setCell] at hz2
  try refine zw3 w w2 (by omega) fun _ _ _ _ _ _ => ?_
  have c2_0_0 := zci w2 w.heap.size 0 (0) (by go_simp)
  have g2_0_0 := zfe w2 w.heap.size 0 (by go_simp)
  have c2_0_1 := zci w2 w.heap.size 1 (0) (by go_simp)
  have g2_0_1 := zfe w2 w.heap.size 1 (by go_simp)
  clear hc2 hf2
  go_wp2
  refine bodyPost_ret (v := .tuple #[.agg #[.int .i64 (r), .int .i64 (HI)], .int .i64 0]) (by simp only [results, Tryd.results24]; go_simp) rfl ⟨rfl, blw_⟩
 ·go_enter Tryd.func24, Tryd.ntmps24
  go_wp2_with fail
  refine (GR.out (w.heap.size + 1) (w.heap.size + 1 + 1) _ ⟨⟨by go_simp, by simp <;> omega⟩, by go_simp, by simp <;> omega⟩).mono ?_
  rintro e w1 ⟨rfl, hb1⟩
  obtain ⟨hc1, hf1⟩ := bcell hb1
  have hz1 := hb1.size
  try simp only [World.size_alloc, World.size_setCell] at hz1
  try refine zw3 w w1 (by omega) fun _ _ _ _ _ _ => ?_
  have c1_0_0 := zci w1 w.heap.size 0 (0) (by go_simp)
  have g1_0_0 := zfe w1 w.heap.size 0 (by go_simp)
  have c1_0_1 := zci w1 w.heap.size 1 (0) (by go_simp)
  have g1_0_1 := zfe w1 w.heap.size 1 (by go_simp)
  have c1_1_0 := zcu w1 (w.heap.size + 1) 0 (x / 4294967296) (by go_simp)
  have c1_2_0 := zcu w1 (w.heap.size + 1 + 1) 0 (x % 4294967296 * 4294967296) (by go_simp)
  clear hc1 hf1
  go_wp2_with fail
  refine (MU.out _).mono ?_
  rintro e w1 ⟨rfl, rfl⟩
  go_wp2_with fail
  refine (OW'.out _).mono ?_
  rintro e w2 ⟨rfl, hb2⟩
  obtain ⟨hc2, hf2⟩ := bcell hb2
  have hz2 := hb2.size
  try simp only [World.size_alloc, World.size_setCell] at hz2
  try refine zw3 w w2 (by omega) fun _ _ _ _ _ _ => ?_
  have c2_0_0 := zci w2 w.heap.size 0 (0) (by go_simp)
  have g2_0_0 := zfe w2 w.heap.size 0 (by go_simp)
  have c2_0_1 := zci w2 w.heap.size 1 (0) (by go_simp)
  have g2_0_1 := zfe w2 w.heap.size 1 (by go_simp)
  clear hc2 hf2
  go_wp2
  refine bodyPost_ret (v := .tuple #[.agg #[.int .i64 (r), .int .i64 (HI)], .int .i64 0]) (by simp only [results, Tryd.results24]; go_simp) rfl ⟨rfl, blw_⟩
 ·have k3 : (m % 18446744073709551616 != x % 4294967296 * 4294967296) = true := bne_iff_ne.2 k2
  go_enter Tryd.func24, Tryd.ntmps24
  go_wp2_with fail
  refine (GR.out (w.heap.size + 1) (w.heap.size + 1 + 1) _ ⟨⟨by go_simp, by simp <;> omega⟩, by go_simp, by simp <;> omega⟩).mono ?_
  rintro e w1 ⟨rfl, hb1⟩
  obtain ⟨hc1, hf1⟩ := bcell hb1
  have hz1 := hb1.size
  try simp only [World.size_alloc, World.size_setCell] at hz1
  try refine zw3 w w1 (by omega) fun _ _ _ _ _ _ => ?_
  have c1_0_0 := zci w1 w.heap.size 0 (0) (by go_simp)
  have g1_0_0 := zfe w1 w.heap.size 0 (by go_simp)
  have c1_0_1 := zci w1 w.heap.size 1 (0) (by go_simp)
  have g1_0_1 := zfe w1 w.heap.size 1 (by go_simp)
  have c1_1_0 := zcu w1 (w.heap.size + 1) 0 (x / 4294967296) (by go_simp)
  have c1_2_0 := zcu w1 (w.heap.size + 1 + 1) 0 (x % 4294967296 * 4294967296) (by go_simp)
  clear hc1 hf1
  go_wp2_with fail
  refine (MU.out _).mono ?_
  rintro e w1 ⟨rfl, rfl⟩
  go_wp2_with fail
  refine (OW'.out _).mono ?_
  rintro e w2 ⟨rfl, hb2⟩
  obtain ⟨hc2, hf2⟩ := bcell hb2
  have hz2 := hb2.size
  try simp only [World.size_alloc, World.size_setCell] at hz2
  try refine zw3 w w2 (by omega) fun _ _ _ _ _ _ => ?_
  have c2_0_0 := zci w2 w.heap.size 0 (0) (by go_simp)
  have g2_0_0 := zfe w2 w.heap.size 0 (by go_simp)
  have c2_0_1 := zci w2 w.heap.size 1 (0) (by go_simp)
  have g2_0_1 := zfe w2 w.heap.size 1 (by go_simp)
  clear hc2 hf2
  go_wp2
  refine bodyPost_ret (v := .tuple #[.agg #[.int .i64 (r), .int .i64 (HI)], .int .i64 0]) (by simp only [results, Tryd.results24]; go_simp) rfl ⟨rfl, blw_⟩
noncomputable def roL (al ah : Int) : Int := if ah < 0 then 0 else rtL (mx al 0)
noncomputable def roH (ah : Int) : Int := if ah < 0 then 0 else rtH ah
def roE (ah : Int) : Int := if ah < 0 then 4 else 0
theorem ro_t {al ah : Int} (h : ah < 0) : roL al ah = 0 ∧ roH ah = 0 ∧ roE ah = 4 := by simp [roL, roH, roE, h]
theorem ro_f {al ah : Int} (h : ¬ ah < 0) : roL al ah = rtL (mx al 0) ∧ roH ah = rtH ah ∧ roE ah = 0 := by simp [roL, roH, roE, h]
theorem root_at (x : Int) (h0 : 0 ≤ x) (h1 : x ≤ 9223372036854775807) : Answers (fun _ => True) 24 #[] x (rtL x) (rtH x) 0 := fun w _ => root_any x h0 h1 w
theorem sroot_any (al ah : Int) (i0 : I64 al) (i1 : I64 ah) (w : World) :
  Calls Tryd.prog 13 #[.agg #[.int .i64 (al), .int .i64 (ah)]] w fun e w' => e = .returned (.tuple #[.agg #[.int .i64 (okI (vB al ah) (roL al ah)), .int .i64 (okI (vB al ah) (roH ah))], .int .i64 (errE (vB al ah) (roE ah))]) ∧ Below w.heap.size w w' := by
 have h0 := i0.1
 have b1 := i1.2
 cases hv : vB al ah
 ·rw [ok_f, ok_f, err_f]
  have HV := hide hv
  clear hv i0 i1
  go_enter Tryd.func13, Tryd.ntmps13
  go_wp2_with fail
  go_at_call 16
  refine (invalid1 al ah _ _ _ h0 (by go_simp) (by go_simp) (by go_simp) true (by simpa using HV.out)).mono ?_
  rintro e w1 ⟨rfl, hb1⟩
  obtain ⟨hc1, hf1⟩ := bcell hb1
  have hz1 := hb1.size
  try simp only [World.size_alloc, World.size_setCell] at hz1
  try refine zw3 w w1 (by omega) fun _ _ _ _ _ _ => ?_
  go_wp2
  refine bodyPost_ret (v := .tuple #[.agg #[.int .i64 (0), .int .i64 (0)], .int .i64 2]) (by simp only [results, Tryd.results13]; go_simp) rfl ⟨rfl, blw_⟩
 ·rw [ok_t, ok_t, err_t]
  have HV := hide hv
  obtain ⟨v1, v2⟩ := vB_tt hv
  by_cases c : ah < 0
  ·obtain ⟨e1, e2, e3⟩ := ro_t (al := al) c
   rw [e1, e2, e3]
   clear hv i0 i1 e1 e2 e3
   go_enter Tryd.func13, Tryd.ntmps13
   go_wp2_with fail
   go_at_call 16
   refine (invalid1 al ah _ _ _ h0 (by go_simp) (by go_simp) (by go_simp) false (by simpa using HV.out)).mono ?_
   rintro e w1 ⟨rfl, hb1⟩
   obtain ⟨hc1, hf1⟩ := bcell hb1
   have hz1 := hb1.size
   try simp only [World.size_alloc, World.size_setCell] at hz1
   try refine zw3 w w1 (by omega) fun _ _ _ _ _ _ => ?_
   go_wp2
   refine bodyPost_ret (v := .tuple #[.agg #[.int .i64 (0), .int .i64 (0)], .int .i64 4]) (by simp only [results, Tryd.results13]; go_simp) rfl ⟨rfl, blw_⟩
  ·obtain ⟨e1, e2, e3⟩ := ro_f (al := al) c
   rw [e1, e2, e3]
   have m1 : max al 0 = mx al 0 := by unfold mx; split <;> omega
   have mb : 0 ≤ mx al 0 ∧ mx al 0 ≤ ah := by unfold mx; split <;> omega
   obtain ⟨m, hm⟩ : ∃ v, mx al 0 = v := ⟨_, rfl⟩
   rw [hm] at m1 mb ⊢
   have hent : ∀ args w, (callFunc 24 args).run Tryd.prog w = .ok (.enter 24 args) w := enters_of Tryd.func24 (by kernel_rfl) rfl
   have EN := fun w => ends_0 (fun _ => True) ⟨fun _ _ => trivial⟩ 24 hent m ah _ _ _ _ _ _ (root_at m mb.1 (by omega)) (root_at ah (by omega) b1) w trivial
   have hE : enL (rtL m) 0 (rtL ah) 0 (m == ah) = rtL m ∧ enH (rtH m) 0 (rtH ah) 0 (m == ah) = rtH ah ∧ enE 0 0 (m == ah) = 0 := by
    have k1 := rt_monoL mb.1 mb.2
    have k2 := rt_monoH mb.1 mb.2
    by_cases q : m = ah
    ·subst q; simp [enL, enH, enE]
    ·have q' : (m == ah) = false := by simp [q]
     rw [q']
     have z1 : mi (rtL m) (rtL ah) = rtL m := by unfold mi; split <;> omega
     have z2 : mx (rtH m) (rtH ah) = rtH ah := by unfold mx; split <;> omega
     simp [enL, enH, enE, z1, z2]
   rw [hE.1, hE.2.1, hE.2.2] at EN
   have EN' := hide EN
   clear hv i0 i1 e1 e2 e3 EN hE hent mb hm
   generalize rtL m = rl at *
   generalize rtH ah = rh at *
   go_enter Tryd.func13, Tryd.ntmps13
   go_wp2_with fail
   go_at_call 16
   refine (invalid1 al ah _ _ _ h0 (by go_simp) (by go_simp) (by go_simp) false (by simpa using HV.out)).mono ?_
   rintro e w1 ⟨rfl, hb1⟩
   obtain ⟨hc1, hf1⟩ := bcell hb1
   have hz1 := hb1.size
   try simp only [World.size_alloc, World.size_setCell] at hz1
   try refine zw2 w w1 (by omega) fun _ _ _ _ => ?_
   have c1_0_0 := zci w1 w.heap.size 0 (al) (by go_simp)
   have c1_0_1 := zci w1 w.heap.size 1 (ah) (by go_simp)
   have c1_1_0 := zci w1 (w.heap.size + 1) 0 (0) (by go_simp)
   have g1_1_0 := zfe w1 (w.heap.size + 1) 0 (by go_simp)
   have c1_1_1 := zci w1 (w.heap.size + 1) 1 (0) (by go_simp)
   have g1_1_1 := zfe w1 (w.heap.size + 1) 1 (by go_simp)
   clear hc1 hf1
   go_wp2_with fail
   refine (EN'.out _).mono ?_
   rintro e w2 ⟨rfl, hb2⟩
   obtain ⟨hc2, hf2⟩ := bcell hb2
   have hz2 := hb2.size
   try simp only [World.size_alloc, World.size_setCell] at hz2
   try refine zw2 w w2 (by omega) fun _ _ _ _ => ?_
   have c2_0_0 := zci w2 w.heap.size 0 (al) (by go_simp)
   have c2_0_1 := zci w2 w.heap.size 1 (ah) (by go_simp)
   have c2_1_0 := zci w2 (w.heap.size + 1) 0 (0) (by go_simp)
   have g2_1_0 := zfe w2 (w.heap.size + 1) 0 (by go_simp)
   have c2_1_1 := zci w2 (w.heap.size + 1) 1 (0) (by go_simp)
   have g2_1_1 := zfe w2 (w.heap.size + 1) 1 (by go_simp)
   clear hc2 hf2 c1_0_0 c1_0_1 c1_1_0 g1_1_0 c1_1_1 g1_1_1
   go_wp2
   refine bodyPost_ret (v := .tuple #[.agg #[.int .i64 (rl), .int .i64 (rh)], .int .i64 0]) (by simp only [results, Tryd.results13]; go_simp) rfl ⟨rfl, blw_⟩
end
end Go.Proofs.YtkkanjeamngdiaaDoor
