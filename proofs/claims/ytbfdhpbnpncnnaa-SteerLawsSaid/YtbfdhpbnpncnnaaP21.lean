/- Packed: StLaws. -/
import Derived.Test.YtbfdhpbnpncnnaaRows
import Derived.ProofKit
import Derived.Carry
import Derived.Lib.SmallJoins
import Derived.Test.YtbfdhpbnpncnnaaP19
import Derived.Test.YtbfdhpbnpncnnaaP20
set_option linter.unusedVariables false
set_option linter.unusedSimpArgs false
section
set_option maxRecDepth 1000000
namespace Go.Proofs.Ytbfdhpbnpncnnaa
open Go.RowKit
namespace lawSteerLaws
open Go.ChangeShapes Go.WideShapes Go.ChangeAt Go.Joins
open SX in
def envF (l : List Int) : Env := ⟨fun i => l.getD i 0, fun _ => false, fun _ => none, fun _ => 0, fun _ => 0, fun _ => default⟩
open SX in
theorem walk (p0 p1 p2 p3 p4 p5 p6 p7 p8 p9 p10 p11 p12 : Int) (k0 : I64 p0) (k1 : I64 p1) (k2 : I64 p2) (k3 : I64 p3) (k4 : I64 p4) (k5 : I64 p5) (k6 : I64 p6) (k7 : I64 p7) (k8 : I64 p8) (k9 : I64 p9) (k10 : I64 p10) (k11 : I64 p11) (k12 : I64 p12) (w : World) :
  Calls Try.prog 3 #[.agg #[.int .i64 p0, .int .i64 p1, .int .i64 p2, .int .i64 p3, .int .i64 p4, .int .i64 p5, .int .i64 p6, .int .i64 p7, .int .i64 p8], .agg #[.int .i64 p9, .int .i64 p10], .agg #[.int .i64 p11, .int .i64 p12]] w fun e w' => e = .returned (.bool true) ∧ Below w.heap.size w w' := by
 have hR : ∀ i, R64 ((envF [p0, p1, p2, p3, p4, p5, p6, p7, p8, p9, p10, p11, p12]).i i) := fun i => envL_R64 (T := T0) (l := [p0, p1, p2, p3, p4, p5, p6, p7, p8, p9, p10, p11, p12]) (by
  intro x hx
  simp only [List.mem_cons, List.not_mem_nil, or_false] at hx
  rcases hx with rfl | rfl | rfl | rfl | rfl | rfl | rfl | rfl | rfl | rfl | rfl | rfl | rfl
  ·exact k0
  ·exact k1
  ·exact k2
  ·exact k3
  ·exact k4
  ·exact k5
  ·exact k6
  ·exact k7
  ·exact k8
  ·exact k9
  ·exact k10
  ·exact k11
  ·exact k12) i
 have := law_true' hmix (S := S1 (envF [p0, p1, p2, p3, p4, p5, p6, p7, p8, p9, p10, p11, p12])) (shp := shp1) (K := KF) (n := 3000) (sp := 2^240) (by decide) (split lt0 (lt1 _) lt2 (lt3 _)) (by kernel_rfl) (val1_R64 _) (T := envF [p0, p1, p2, p3, p4, p5, p6, p7, p8, p9, p10, p11, p12]) (w := w) (con1 w _) (envF [p0, p1, p2, p3, p4, p5, p6, p7, p8, p9, p10, p11, p12]) hR ⟨rfl, rfl, rfl⟩ (by
  intro x hx ε h ha hn hc
  have e0 : ε.i 0 = p0 := h 0 (by decide)
  have e1 : ε.i 1 = p1 := h 1 (by decide)
  have e2 : ε.i 2 = p2 := h 2 (by decide)
  have e3 : ε.i 3 = p3 := h 3 (by decide)
  have e4 : ε.i 4 = p4 := h 4 (by decide)
  have e5 : ε.i 5 = p5 := h 5 (by decide)
  have e6 : ε.i 6 = p6 := h 6 (by decide)
  have e7 : ε.i 7 = p7 := h 7 (by decide)
  have e8 : ε.i 8 = p8 := h 8 (by decide)
  have e9 : ε.i 9 = p9 := h 9 (by decide)
  have e10 : ε.i 10 = p10 := h 10 (by decide)
  have e11 : ε.i 11 = p11 := h 11 (by decide)
  have e12 : ε.i 12 = p12 := h 12 (by decide)
  simp only [argsF, List.mem_cons, List.not_mem_nil, or_false] at hx
  rcases hx with rfl | rfl | rfl
  ·show Value.agg #[.int .i64 (ε.i 0), .int .i64 (ε.i 1), .int .i64 (ε.i 2), .int .i64 (ε.i 3), .int .i64 (ε.i 4), .int .i64 (ε.i 5), .int .i64 (ε.i 6), .int .i64 (ε.i 7), .int .i64 (ε.i 8)] = Value.agg #[.int .i64 p0, .int .i64 p1, .int .i64 p2, .int .i64 p3, .int .i64 p4, .int .i64 p5, .int .i64 p6, .int .i64 p7, .int .i64 p8]
   simp only [e0, e1, e2, e3, e4, e5, e6, e7, e8]
  ·show Value.agg #[.int .i64 (ε.i 9), .int .i64 (ε.i 10)] = Value.agg #[.int .i64 p9, .int .i64 p10]
   simp only [e9, e10]
  ·show Value.agg #[.int .i64 (ε.i 11), .int .i64 (ε.i 12)] = Value.agg #[.int .i64 p11, .int .i64 p12]
   simp only [e11, e12])
 exact this
theorem own : ownKnob Try.prog.godebug = none := by kernel_rfl
theorem laidOut : laidOutB Try.prog = true := by kernel_rfl
set_option maxRecDepth 100000 in
theorem lifted (os : Os) (started : os.Started) (H : Type) (enc : TypeId × Value → H) :
  ReturnsInHanded {} Try.checked os 3 .any (Rows.steerLawsSpec.pre6 enc Try.prog Try.f3 Rows.steerLawsRow.domain false) (Rows.steerLawsSpec.post enc Try.prog Try.f3 false true false false) := by
 refine returnsInHanded_of_change (C := Try.checked) own started (by kernel_rfl) Try.func3
  (ChangeSpec.witness6 (enc := enc) (C := Try.checked) false ⟨#[], #[.agg #[.int .i64 0, .int .i64 0, .int .i64 0, .int .i64 0, .int .i64 0, .int .i64 0, .int .i64 0, .int .i64 0, .int .i64 0], .agg #[.int .i64 0, .int .i64 0], .agg #[.int .i64 0, .int .i64 0]], []⟩ 8 (by kernel_rfl) (by kernel_rfl) (by kernel_rfl) (by kernel_rfl)) ?_
 intro W base args ds gs before hval0 hW _ _
 have hval : ∀ (j : Nat) t v, Try.f3.params[j]? = some t → args[j]? = some v → Value.okWide Try.prog W .any base t v := hval0
 have hW' := hW
 obtain ⟨p, q, hA0, hV, rfl, _, _⟩ := hW
 have hA : DataW.TrodAll enc Try.prog W 0 (fun _ => true) true Try.f3.params.toList args.toList ds p := hA0
 rw [Try.params3] at hA hval
 obtain ⟨v0, vs0, d0, ds0, p0, q0, hargs, rfl, rfl, h0, r0⟩ := trodAll_cons hA
 obtain ⟨v1, vs1, d1, ds1, p1, q1, rfl, rfl, rfl, h1, r1⟩ := trodAll_cons r0
 obtain ⟨v2, vs2, d2, ds2, p2, q2, rfl, rfl, rfl, h2, r2⟩ := trodAll_cons r1
 obtain ⟨rfl, rfl, rfl⟩ := trodAll_nil r2
 obtain rfl : args = #[v0, v1, v2] := by cases args; simp_all
 obtain ⟨rfl, rfl⟩ := trodVars_none hV
 obtain ⟨cs0, rfl, hk0⟩ := open_plain (Q := fun _ _ => True) (fun _ _ _ _ _ _ _ _ _ => trivial) (n := 10) (ks := [.int .i64, .int .i64, .int .i64, .int .i64, .int .i64, .int .i64, .int .i64, .int .i64, .int .i64]) (by kernel_rfl) (by kernel_rfl) (by kernel_rfl) (hval 0 26 v0 rfl rfl) h0
 obtain ⟨x0_0, cs0, rfl, wf0_0, hk0⟩ := hk0.int
 obtain ⟨x0_1, cs0, rfl, wf0_1, hk0⟩ := hk0.int
 obtain ⟨x0_2, cs0, rfl, wf0_2, hk0⟩ := hk0.int
 obtain ⟨x0_3, cs0, rfl, wf0_3, hk0⟩ := hk0.int
 obtain ⟨x0_4, cs0, rfl, wf0_4, hk0⟩ := hk0.int
 obtain ⟨x0_5, cs0, rfl, wf0_5, hk0⟩ := hk0.int
 obtain ⟨x0_6, cs0, rfl, wf0_6, hk0⟩ := hk0.int
 obtain ⟨x0_7, cs0, rfl, wf0_7, hk0⟩ := hk0.int
 obtain ⟨x0_8, cs0, rfl, wf0_8, hk0⟩ := hk0.int
 obtain rfl := hk0.nil
 obtain ⟨cs1, rfl, hk1⟩ := open_plain (Q := fun _ _ => True) (fun _ _ _ _ _ _ _ _ _ => trivial) (n := 10) (ks := [.int .i64, .int .i64]) (by kernel_rfl) (by kernel_rfl) (by kernel_rfl) (hval 1 24 v1 rfl rfl) h1
 obtain ⟨x1_0, cs1, rfl, wf1_0, hk1⟩ := hk1.int
 obtain ⟨x1_1, cs1, rfl, wf1_1, hk1⟩ := hk1.int
 obtain rfl := hk1.nil
 obtain ⟨cs2, rfl, hk2⟩ := open_plain (Q := fun _ _ => True) (fun _ _ _ _ _ _ _ _ _ => trivial) (n := 10) (ks := [.int .i64, .int .i64]) (by kernel_rfl) (by kernel_rfl) (by kernel_rfl) (hval 2 24 v2 rfl rfl) h2
 obtain ⟨x2_0, cs2, rfl, wf2_0, hk2⟩ := hk2.int
 obtain ⟨x2_1, cs2, rfl, wf2_1, hk2⟩ := hk2.int
 obtain rfl := hk2.nil
 clear hA0 hval0
 simp only [List.append_nil] at hW'
 refine (walk x0_0 x0_1 x0_2 x0_3 x0_4 x0_5 x0_6 x0_7 x0_8 x1_0 x1_1 x2_0 x2_1 (i64_of_wf wf0_0) (i64_of_wf wf0_1) (i64_of_wf wf0_2) (i64_of_wf wf0_3) (i64_of_wf wf0_4) (i64_of_wf wf0_5) (i64_of_wf wf0_6) (i64_of_wf wf0_7) (i64_of_wf wf0_8) (i64_of_wf wf1_0) (i64_of_wf wf1_1) (i64_of_wf wf2_0) (i64_of_wf wf2_1) W).mono fun e W' ⟨he, hb⟩ => ?_
 subst he
 exact ⟨_, rfl, _, _, _, [], _, [], hW', (trodAll_cons_mk (shut_bool Try.underlying4 _) trodAll_mk0), (trodAll_cons_mk (Below.trod laidOut (by kernel_rfl) (of_decide_eq_true (by kernel_rfl)) h0 hb (fun x hx => hW'.lt x (by simp [hx]))) (trodAll_cons_mk (Below.trod laidOut (by kernel_rfl) (of_decide_eq_true (by kernel_rfl)) h1 hb (fun x hx => hW'.lt x (by simp [hx]))) (trodAll_cons_mk (Below.trod laidOut (by kernel_rfl) (of_decide_eq_true (by kernel_rfl)) h2 hb (fun x hx => hW'.lt x (by simp [hx]))) trodAll_mk0))), rfl, hb.frame _, fun h => by cases h⟩
theorem holds : Rows.SteerLawsSaid :=
 OpenClaim.holds_of_wide 3 Try.f3 rfl rfl rfl rfl rfl rfl rfl ⟨rfl, rfl, rfl, rfl, rfl⟩ rfl rfl rfl rfl rfl (by kernel_rfl) Try.func3 (by kernel_rfl)
  (of_decide_eq_true (by kernel_rfl)) (by unfold Func.isWrapper; first | (rw [if_pos (by decide +kernel)]; kernel_rfl) | (rw [if_neg (by decide +kernel)]; exact ⟨rfl, rfl⟩))
  (fun os started H enc _ => lifted os started H enc)
#print axioms holds
end lawSteerLaws
end Go.Proofs.Ytbfdhpbnpncnnaa
end
