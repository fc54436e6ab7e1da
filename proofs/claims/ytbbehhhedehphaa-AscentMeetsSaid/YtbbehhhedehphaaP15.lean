/- Packed: MtL. -/
import Derived.Test.YtbbehhhedehphaaRows
import Derived.ProofKit
import Derived.Carry
import Derived.Lib.SmallJoins
import Derived.Test.YtbbehhhedehphaaP13
import Derived.Test.YtbbehhhedehphaaP14
set_option linter.unusedVariables false
set_option linter.unusedSimpArgs false
namespace Go.Proofs.Ytbbehhhedehphaa
section
set_option maxRecDepth 1000000
open Go.RowKit
open SX
set_option maxHeartbeats 1000000 in
theorem brief_ok {p la q lb : Nat} {fa fb : Int} (hw : Win p la fa) (hv : Win q lb fb) (w : World) :
  Calls Try.prog 4 #[wv p la fa, wv q lb fb] w fun e w' => e = .returned (.bool (decide (((Meet.lc p q : Nat) : Int) ≤ 20000))) ∧ Below w.heap.size w w' := by
 have p0 := hw.p0
 have p1 := hw.p1
 have q0 := hv.p0
 have q1 := hv.p1
 have g0 := (Meet.lc_facts p0 q0).1
 have W1 := hide (window_any p fa la)
 have W2 := hide (window_any q fb lb)
 have v1 : wB p fa la = true := decide_eq_true (by have := hw.f0; have := hw.f1; have := hw.l1; omega)
 have v2 : wB q fb lb = true := decide_eq_true (by have := hv.f0; have := hv.f1; have := hv.l1; omega)
 rw [v1] at W1
 rw [v2] at W2
 clear v1 v2
 have D := hide (gcd_any p q (by omega) (by omega))
 have hL := lc_is (p := p) q1 p1
 have gI : ¬ ((Nat.gcd p q : Nat) : Int) = 0 := by omega
 have qa := quo_nat (a := p) (g := Nat.gcd p q) p1
 have qa2 := quo_nat2 (a := p) (g := Nat.gcd p q) p1
 have m1 := mul_nat (r := p / Nat.gcd p q) (round := q) (R := Meet.lc p q) rfl hL
 generalize Nat.gcd p q = g at *
 generalize p / g = pg at *
 generalize Meet.lc p q = L at *
 simp only [wv, wvI] at *
 clear hw hv p0 p1 q0 q1 g0 hL
 go_enter Try.func4, Try.ntmps4
 go_wp2_with fail
 refine (W1.out _).mono ?_
 rintro e w1 ⟨rfl, hb1⟩
 obtain ⟨hc1, hf1⟩ := bcell hb1
 have hz1 := hb1.size
 try simp only [World.size_alloc, World.size_setCell] at hz1
 try refine zw2 w w1 (by omega) fun _ _ _ _ => ?_
 go_wp2_with fail
 refine (W2.out _).mono ?_
 rintro e w2 ⟨rfl, hb2⟩
 obtain ⟨hc2, hf2⟩ := bcell hb2
 have hz2 := hb2.size
 try simp only [World.size_alloc, World.size_setCell] at hz2
 try refine zw2 w w2 (by omega) fun _ _ _ _ => ?_
 try have : w1.heap.size < w2.heap.size := by omega
 try have : w1.heap.size ≤ w2.heap.size := by omega
 go_wp2_with fail
 refine QT.quiet_b (by kernel_rfl) (by kernel_rfl) ?_
 repeat (first
  | go_big_quiet_skip
  | (go_big_quiet_want; go_big_quiet_op; first
   | go_big_quiet_on
   | (apply Exists.intro
      refine ⟨fun _ => ?_, ?_⟩
      ·first
       | rfl
       | (intro hC; obtain ⟨hcq, hfq⟩ := bcellB hC; go_simp; done)
       | (intro hC; obtain ⟨hcq, hfq⟩ := bcellB hC; go_simp; rfl)
       | (intro hC; have hcq := bcellG hC; go_simp; done)
       | (intro hC; have hcq := bcellG hC; go_simp; rfl)
       | (intro hC; go_at_call 10; (first | (with_reducible refine (D.out _).mono ?_)); (intro e w2 hw; exact ⟨hw.1, qtrans (by simp) hC hw.2⟩))
      go_big_quiet_on)))
 refine wpQuiet_nil ?_
 intro w9 hC9
 obtain ⟨hc9, hf9⟩ := bcellB hC9
 have hz9 := hC9.size
 go_wp2
 go_ret
 exact ⟨rfl, blw_⟩
theorem tnext_all {p la q lb : Nat} {fa fb : Int} (hw : Win p la fa) (hv : Win q lb fb) (T : Int) (w : World) :
  Calls Try.prog 8 #[wv p la fa, wv q lb fb, .int .i64 T] w fun e w' => e = .returned (nxV p la fa q lb fb T) ∧ Below w.heap.size w w' := by
 cases ht : tB T with
 | false =>
  have := tnext_bad p fa la q fb lb T (by rw [ht, Bool.and_false]) w
  unfold nxV
  rw [if_pos ht]
  exact this
 | true =>
  have hT : -1152921504606846976 ≤ T ∧ T ≤ 1152921504606846976 := of_decide_eq_true ht
  have := tnext_any hw hv T hT w
  rw [next_same hw hv ht] at this
  exact this
theorem nxV_is (p la : Nat) (fa : Int) (q lb : Nat) (fb T : Int) : ∃ a e : Int, nxV p la fa q lb fb T = .tuple #[.int .i64 a, .int .i64 e] := by
 unfold nxV
 split
 ·exact ⟨_, _, rfl⟩
 ·split
  ·exact ⟨_, _, rfl⟩
  ·exact ⟨_, _, rfl⟩
namespace lawAscentMeets
open Go.ChangeShapes Go.WideShapes Go.ChangeAt Go.Joins
set_option maxHeartbeats 1000000 in
theorem walk (p0 p1 p2 p3 p4 p5 p6 : Int) (k0 : I64 p0) (k1 : I64 p1) (k2 : I64 p2) (k3 : I64 p3) (k4 : I64 p4) (k5 : I64 p5) (k6 : I64 p6) (w : World) :
  Calls Try.prog 3 #[.agg #[.int .i64 p0, .int .i64 p1, .int .i64 p2], .agg #[.int .i64 p3, .int .i64 p4, .int .i64 p5], .int .i64 p6] w fun e w' => e = .returned (.bool true) ∧ Below w.heap.size w w' := by
 clear k0 k1 k2 k3 k4 k5 k6
 cases h : (wB p0 p1 p2 && wB p3 p4 p5) with
 | false =>
  have B := hide (brief_bad p0 p1 p2 p3 p4 p5 h)
  have O1 := hide (often_bad p0 p1 p2 p3 p4 p5 h)
  have O2 := hide (toften_bad p0 p1 p2 p3 p4 p5 h)
  have N1 := hide (next_bad p0 p1 p2 p3 p4 p5 h p6)
  have N2 := hide (tnext_bad p0 p1 p2 p3 p4 p5 p6 (by rw [h, Bool.false_and]))
  simp only [wvI] at *
  clear h
  go_enter Try.func3, Try.ntmps3
  go_wp2_with fail
  refine (B.out _).mono ?_
  rintro e w1 ⟨rfl, hb1⟩
  obtain ⟨hc1, hf1⟩ := bcell hb1
  have hz1 := hb1.size
  try simp only [World.size_alloc, World.size_setCell] at hz1
  try refine zw2 w w1 (by omega) fun _ _ _ _ => ?_
  go_wp2_with fail
  refine (O1.out _).mono ?_
  rintro e w2 ⟨rfl, hb2⟩
  obtain ⟨hc2, hf2⟩ := bcell hb2
  have hz2 := hb2.size
  try simp only [World.size_alloc, World.size_setCell] at hz2
  try refine zw2 w w2 (by omega) fun _ _ _ _ => ?_
  try have : w1.heap.size < w2.heap.size := by omega
  try have : w1.heap.size ≤ w2.heap.size := by omega
  go_wp2_with fail
  refine (O2.out _).mono ?_
  rintro e w3 ⟨rfl, hb3⟩
  obtain ⟨hc3, hf3⟩ := bcell hb3
  have hz3 := hb3.size
  try simp only [World.size_alloc, World.size_setCell] at hz3
  try refine zw2 w w3 (by omega) fun _ _ _ _ => ?_
  try have : w1.heap.size < w3.heap.size := by omega
  try have : w1.heap.size ≤ w3.heap.size := by omega
  try have : w2.heap.size < w3.heap.size := by omega
  try have : w2.heap.size ≤ w3.heap.size := by omega
  go_wp2_with fail
  refine (N1.out _).mono ?_
  rintro e w4 ⟨rfl, hb4⟩
  obtain ⟨hc4, hf4⟩ := bcell hb4
  have hz4 := hb4.size
  try simp only [World.size_alloc, World.size_setCell] at hz4
  try refine zw2 w w4 (by omega) fun _ _ _ _ => ?_
  try have : w1.heap.size < w4.heap.size := by omega
  try have : w1.heap.size ≤ w4.heap.size := by omega
  try have : w2.heap.size < w4.heap.size := by omega
  try have : w2.heap.size ≤ w4.heap.size := by omega
  try have : w3.heap.size < w4.heap.size := by omega
  try have : w3.heap.size ≤ w4.heap.size := by omega
  go_wp2_with fail
  refine (N2.out _).mono ?_
  rintro e w5 ⟨rfl, hb5⟩
  obtain ⟨hc5, hf5⟩ := bcell hb5
  have hz5 := hb5.size
  try simp only [World.size_alloc, World.size_setCell] at hz5
  try refine zw2 w w5 (by omega) fun _ _ _ _ => ?_
  try have : w1.heap.size < w5.heap.size := by omega
  try have : w1.heap.size ≤ w5.heap.size := by omega
  try have : w2.heap.size < w5.heap.size := by omega
  try have : w2.heap.size ≤ w5.heap.size := by omega
  try have : w3.heap.size < w5.heap.size := by omega
  try have : w3.heap.size ≤ w5.heap.size := by omega
  try have : w4.heap.size < w5.heap.size := by omega
  try have : w4.heap.size ≤ w5.heap.size := by omega
  go_wp2
  go_ret
  exact ⟨rfl, blw_⟩
 | true =>
  rw [Bool.and_eq_true] at h
  obtain ⟨h1, h2⟩ := h
  have a := of_decide_eq_true h1
  have b := of_decide_eq_true h2
  obtain ⟨p, rfl⟩ : ∃ p : Nat, p0 = p := ⟨p0.toNat, by omega⟩
  obtain ⟨la, rfl⟩ : ∃ l : Nat, p2 = l := ⟨p2.toNat, by omega⟩
  obtain ⟨q, rfl⟩ : ∃ p : Nat, p3 = p := ⟨p3.toNat, by omega⟩
  obtain ⟨lb, rfl⟩ : ∃ l : Nat, p5 = l := ⟨p5.toNat, by omega⟩
  have hw : Win p la p1 := ⟨by omega, by omega, a.2.2.1, a.2.2.2.1, by omega⟩
  have hv : Win q lb p4 := ⟨by omega, by omega, b.2.2.1, b.2.2.2.1, by omega⟩
  have B := hide (brief_ok hw hv)
  have O1 := hide (often_any hw hv)
  have O2 := hide (toften_any hw hv)
  have N1 := hide (next_any hw hv p6)
  have N2 := hide (tnext_all hw hv p6)
  obtain ⟨x, y, hx⟩ := nxV_is p la p1 q lb p4 p6
  rw [hx] at N1 N2
  generalize Meet.cn (Meet.lc p q) (fun t => Meet.hs p la p1 t && Meet.hs q lb p4 t) = N at *
  generalize decide (((Meet.lc p q : Nat) : Int) ≤ 20000) = z at *
  simp only [wv] at *
  clear hw hv hx a b h1 h2
  cases z
  ·go_enter Try.func3, Try.ntmps3
   go_wp2_with fail
   refine (B.out _).mono ?_
   rintro e w1 ⟨rfl, hb1⟩
   obtain ⟨hc1, hf1⟩ := bcell hb1
   have hz1 := hb1.size
   try simp only [World.size_alloc, World.size_setCell] at hz1
   try refine zw2 w w1 (by omega) fun _ _ _ _ => ?_
   go_wp2
   go_ret
   exact ⟨rfl, blw_⟩
  ·go_enter Try.func3, Try.ntmps3
   go_wp2_with fail
   refine (B.out _).mono ?_
   rintro e w1 ⟨rfl, hb1⟩
   obtain ⟨hc1, hf1⟩ := bcell hb1
   have hz1 := hb1.size
   try simp only [World.size_alloc, World.size_setCell] at hz1
   try refine zw2 w w1 (by omega) fun _ _ _ _ => ?_
   go_wp2_with fail
   refine (O1.out _).mono ?_
   rintro e w2 ⟨rfl, hb2⟩
   obtain ⟨hc2, hf2⟩ := bcell hb2
   have hz2 := hb2.size
   try simp only [World.size_alloc, World.size_setCell] at hz2
   try refine zw2 w w2 (by omega) fun _ _ _ _ => ?_
   try have : w1.heap.size < w2.heap.size := by omega
   try have : w1.heap.size ≤ w2.heap.size := by omega
   go_wp2_with fail
   refine (O2.out _).mono ?_
   rintro e w3 ⟨rfl, hb3⟩
   obtain ⟨hc3, hf3⟩ := bcell hb3
   have hz3 := hb3.size
   try simp only [World.size_alloc, World.size_setCell] at hz3
   try refine zw2 w w3 (by omega) fun _ _ _ _ => ?_
   try have : w1.heap.size < w3.heap.size := by omega
   try have : w1.heap.size ≤ w3.heap.size := by omega
   try have : w2.heap.size < w3.heap.size := by omega
   try have : w2.heap.size ≤ w3.heap.size := by omega
   go_wp2_with fail
   refine (N1.out _).mono ?_
   rintro e w4 ⟨rfl, hb4⟩
   obtain ⟨hc4, hf4⟩ := bcell hb4
   have hz4 := hb4.size
   try simp only [World.size_alloc, World.size_setCell] at hz4
   try refine zw2 w w4 (by omega) fun _ _ _ _ => ?_
   try have : w1.heap.size < w4.heap.size := by omega
   try have : w1.heap.size ≤ w4.heap.size := by omega
   try have : w2.heap.size < w4.heap.size := by omega
   try have : w2.heap.size ≤ w4.heap.size := by omega
   try have : w3.heap.size < w4.heap.size := by omega
   try have : w3.heap.size ≤ w4.heap.size := by omega
   go_wp2_with fail
   refine (N2.out _).mono ?_
   rintro e w5 ⟨rfl, hb5⟩
   obtain ⟨hc5, hf5⟩ := bcell hb5
   have hz5 := hb5.size
   try simp only [World.size_alloc, World.size_setCell] at hz5
   try refine zw2 w w5 (by omega) fun _ _ _ _ => ?_
   try have : w1.heap.size < w5.heap.size := by omega
   try have : w1.heap.size ≤ w5.heap.size := by omega
   try have : w2.heap.size < w5.heap.size := by omega
   try have : w2.heap.size ≤ w5.heap.size := by omega
   try have : w3.heap.size < w5.heap.size := by omega
   try have : w3.heap.size ≤ w5.heap.size := by omega
   try have : w4.heap.size < w5.heap.size := by omega
   try have : w4.heap.size ≤ w5.heap.size := by omega
   go_wp2
   go_ret
   exact ⟨rfl, blw_⟩
theorem own : ownKnob Try.prog.godebug = none := by kernel_rfl
theorem laidOut : laidOutB Try.prog = true := by kernel_rfl
set_option maxRecDepth 100000 in
theorem lifted (os : Os) (started : os.Started) (H : Type) (enc : TypeId × Value → H) :
  ReturnsInHanded {} Try.checked os 3 .any (Rows.ascentMeetsSpec.pre6 enc Try.prog Try.f3 Rows.ascentMeetsRow.domain false) (Rows.ascentMeetsSpec.post enc Try.prog Try.f3 false true false false) := by
 refine returnsInHanded_of_change (C := Try.checked) own started (by kernel_rfl) Try.func3
  (ChangeSpec.witness6 (enc := enc) (C := Try.checked) false ⟨#[], #[.agg #[.int .i64 0, .int .i64 0, .int .i64 0], .agg #[.int .i64 0, .int .i64 0, .int .i64 0], .int .i64 0], []⟩ 8 (by kernel_rfl) (by kernel_rfl) (by kernel_rfl) (by kernel_rfl)) ?_
 intro W base args ds gs before hval0 hW _ _
 have hval : ∀ (j : Nat) t v, Try.f3.params[j]? = some t → args[j]? = some v → Value.okWide Try.prog W .any base t v := hval0
 have hW' := hW
 obtain ⟨p, q, hA0, hV, rfl, _, _⟩ := hW
 have hA : DataW.TrodAll enc Try.prog W 0 (fun _ => true) true Try.f3.params.toList args.toList ds p := hA0
 rw [Try.params3] at hA hval
 obtain ⟨v0, vs0, d0, ds0, p0, q0, hargs, rfl, rfl, h0, r0⟩ := trodAll_cons hA
 obtain ⟨v1, vs1, d1, ds1, p1, q1, rfl, rfl, rfl, h1, r1⟩ := trodAll_cons r0
 obtain ⟨v2, vs2, d2, ds2, p2, q2, rfl, rfl, rfl, h2, r2⟩ := trodAll_cons r1
 obtain ⟨rfl, rfl, rfl⟩ := trodAll_nil r2
 obtain rfl : args = #[v0, v1, v2] := by cases args; simp_all
 obtain ⟨rfl, rfl⟩ := trodVars_none hV
 obtain ⟨cs0, rfl, hk0⟩ := open_plain (Q := fun _ _ => True) (fun _ _ _ _ _ _ _ _ _ => trivial) (n := 10) (ks := [.int .i64, .int .i64, .int .i64]) (by kernel_rfl) (by kernel_rfl) (by kernel_rfl) (hval 0 23 v0 rfl rfl) h0
 obtain ⟨x0_0, cs0, rfl, wf0_0, hk0⟩ := hk0.int
 obtain ⟨x0_1, cs0, rfl, wf0_1, hk0⟩ := hk0.int
 obtain ⟨x0_2, cs0, rfl, wf0_2, hk0⟩ := hk0.int
 obtain rfl := hk0.nil
 obtain ⟨cs1, rfl, hk1⟩ := open_plain (Q := fun _ _ => True) (fun _ _ _ _ _ _ _ _ _ => trivial) (n := 10) (ks := [.int .i64, .int .i64, .int .i64]) (by kernel_rfl) (by kernel_rfl) (by kernel_rfl) (hval 1 23 v1 rfl rfl) h1
 obtain ⟨x1_0, cs1, rfl, wf1_0, hk1⟩ := hk1.int
 obtain ⟨x1_1, cs1, rfl, wf1_1, hk1⟩ := hk1.int
 obtain ⟨x1_2, cs1, rfl, wf1_2, hk1⟩ := hk1.int
 obtain rfl := hk1.nil
 obtain ⟨x2, rfl, rfl, rfl, wf2⟩ := open_int Try.underlying3 (hval 2 3 v2 rfl rfl) h2
 clear hA0 hval0
 simp only [List.append_nil] at hW'
 refine (walk x0_0 x0_1 x0_2 x1_0 x1_1 x1_2 x2 (i64_of_wf wf0_0) (i64_of_wf wf0_1) (i64_of_wf wf0_2) (i64_of_wf wf1_0) (i64_of_wf wf1_1) (i64_of_wf wf1_2) (i64_of_wf wf2) W).mono fun e W' ⟨he, hb⟩ => ?_
 subst he
 exact ⟨_, rfl, _, _, _, [], _, [], hW', (trodAll_cons_mk (shut_bool Try.underlying4 _) trodAll_mk0), (trodAll_cons_mk (Below.trod laidOut (by kernel_rfl) (of_decide_eq_true (by kernel_rfl)) h0 hb (fun x hx => hW'.lt x (by simp [hx]))) (trodAll_cons_mk (Below.trod laidOut (by kernel_rfl) (of_decide_eq_true (by kernel_rfl)) h1 hb (fun x hx => hW'.lt x (by simp [hx]))) (trodAll_cons_mk (shut_int Try.underlying3 wf2) trodAll_mk0))), rfl, hb.frame _, fun h => by cases h⟩
theorem holds : Rows.AscentMeetsSaid :=
 OpenClaim.holds_of_wide 3 Try.f3 rfl rfl rfl rfl rfl rfl rfl ⟨rfl, rfl, rfl, rfl, rfl⟩ rfl rfl rfl rfl rfl (by kernel_rfl) Try.func3 (by kernel_rfl)
  (of_decide_eq_true (by kernel_rfl)) (by unfold Func.isWrapper; first | (rw [if_pos (by decide +kernel)]; kernel_rfl) | (rw [if_neg (by decide +kernel)]; exact ⟨rfl, rfl⟩))
  (fun os started H enc _ => lifted os started H enc)
#print axioms holds
end lawAscentMeets
end
end Go.Proofs.Ytbbehhhedehphaa
