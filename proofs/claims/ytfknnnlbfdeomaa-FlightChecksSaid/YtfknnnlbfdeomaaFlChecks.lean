/- FlightChecks: of any planet, arc and state: valid or not, and how many steps the arc has. -/
import Derived.Test.YtfknnnlbfdeomaaFlB
import Derived.Test.YtfknnnlbfdeomaaPlain2
import Derived.Test.YtfknnnlbfdeomaaTabOpen
import Derived.Test.YtfknnnlbfdeomaaRows
import Derived.ProofKit
import Derived.Carry
import Derived.Lib.SmallJoins
set_option linter.unusedVariables false
set_option linter.unusedSimpArgs false
namespace Go.Proofs.Ytfknnnlbfdeomaa
open Go.RowKit
namespace lawFlightChecks
open Go.ChangeShapes Go.WideShapes Go.ChangeAt Go.Joins
/-- A slice of points, opened. -/
def QTab (W : World) : TypeId → Value → Prop := fun t v => t = 29 → ∃ (A : Option Addr) (n cap : Nat) (at_ lo hi : Nat → Int), v = .slice A n cap ∧ TabIn W A n at_ lo hi ∧ ∀ i, i < n → I64 (at_ i) ∧ I64 (lo i) ∧ I64 (hi i)
theorem hQ_tab {H : Type} {enc : TypeId × Value → H} (W : World) : ∀ (t e : TypeId) (fuel : Nat) (a : Option Addr) (n c : Nat) (x : DataW H × List MemPlace), Try.prog.underlying t = some (.slice e) → DataW.trod enc Try.prog W 0 (fun _ => true) true fuel t [.slice a n c] = some x → QTab W t (.slice a n c) := by
  intro t e fuel a n c x hu h ht
  subst ht
  obtain ⟨d, p⟩ := x
  rcases open_table (v := .slice a n c) ⟨a, n, c, rfl⟩ ⟨fuel, h⟩ with h1 | ⟨ad, m, cap, at_, lo, hi, h1, -, hT, hI⟩
  · exact ⟨none, 0, 0, fun _ => 0, fun _ => 0, fun _ => 0, h1, fun h => absurd h (by omega), fun i h => absurd h (by omega)⟩
  · exact ⟨some ad, m, cap, at_, lo, hi, h1, fun h0 => ⟨ad, rfl, hT h0⟩, hI⟩
theorem walk (p0 p1 p2 p3 p4 p5 p6 p7 p8 p9 p10 p11 p12 p13 p14 p15 p16 p17 p18 p19 p20 p21 p22 p23 p24 p25 : Int) (A : Option Addr) (n cap : Nat) (at_ lo hi : Nat → Int) (p26 p27 p28 p29 p30 p31 p32 p33 p34 p35 p36 p37 p38 p39 p40 p41 p42 : Int) (k0 : I64 p0) (k1 : I64 p1) (k2 : I64 p2) (k3 : I64 p3) (k4 : I64 p4) (k5 : I64 p5) (k6 : I64 p6) (k7 : I64 p7) (k8 : I64 p8) (k9 : I64 p9) (k10 : I64 p10) (k11 : I64 p11) (k12 : I64 p12) (k13 : I64 p13) (k14 : I64 p14) (k15 : I64 p15) (k16 : I64 p16) (k17 : I64 p17) (k18 : I64 p18) (k19 : I64 p19) (k20 : I64 p20) (k21 : I64 p21) (k22 : I64 p22) (k23 : I64 p23) (k24 : I64 p24) (k25 : I64 p25) (k26 : I64 p26) (k27 : I64 p27) (k28 : I64 p28) (k29 : I64 p29) (k30 : I64 p30) (k31 : I64 p31) (k32 : I64 p32) (k33 : I64 p33) (k34 : I64 p34) (k35 : I64 p35) (k36 : I64 p36) (k37 : I64 p37) (k38 : I64 p38) (k39 : I64 p39) (k40 : I64 p40) (k41 : I64 p41) (k42 : I64 p42) (w : World) (hT : TabIn w A n at_ lo hi) (hI : ∀ i, i < n → I64 (at_ i) ∧ I64 (lo i) ∧ I64 (hi i)) :
    Calls Try.prog 3 #[.agg #[.int .i64 p0, .int .i64 p1, .int .i64 p2, .int .i64 p3, .int .i64 p4, .int .i64 p5, .int .i64 p6, .int .i64 p7, .int .i64 p8, .int .i64 p9, .int .i64 p10, .int .i64 p11, .int .i64 p12, .int .i64 p13], .agg #[.int .i64 p14, .int .i64 p15, .int .i64 p16, .int .i64 p17, .int .i64 p18, .int .i64 p19, .int .i64 p20, .int .i64 p21, .int .i64 p22, .int .i64 p23, .int .i64 p24, .int .i64 p25, .slice A n cap, .int .i64 p26, .int .i64 p27], .agg #[.int .i64 p28, .int .i64 p29, .int .i64 p30, .int .i64 p31, .int .i64 p32, .int .i64 p33, .int .i64 p34, .int .i64 p35, .int .i64 p36, .int .i64 p37, .int .i64 p38, .int .i64 p39, .int .i64 p40, .int .i64 p41, .int .i64 p42]] w fun e w' => e = .returned (.bool true) ∧ Below w.heap.size w w' :=
  walk_checks p0 p1 p2 p3 p4 p5 p6 p7 p8 p9 p10 p11 p12 p13 p14 p15 p16 p17 p18 p19 p20 p21 p22 p23 p24 p25 p26 p27 p28 p29 p30 p31 p32 p33 p34 p35 p36 p37 p38 p39 p40 p41 p42 A n cap at_ lo hi k0.1 k2.1 k4.1 k6.1 k8.1 k10.1 k12.1 k16.1 k18.1 k20.1 k22.1 k24.1 k26.1 k28.1 k29.1 k31.1 k33.1 k35.1 k37.1 k39.1 k41.1 w hT hI
theorem own : ownKnob Try.prog.godebug = none := by kernel_rfl
theorem laidOut : laidOutB Try.prog = true := by kernel_rfl
set_option maxRecDepth 100000 in
theorem lifted (os : Os) (started : os.Started) (H : Type) (enc : TypeId × Value → H) :
    ReturnsInHanded {} Try.checked os 3 .any (Rows.flightChecksSpec.pre6 enc Try.prog Try.f3 Rows.flightChecksRow.domain false) (Rows.flightChecksSpec.post enc Try.prog Try.f3 false true false false) := by
  refine returnsInHanded_of_change (C := Try.checked) own started (by kernel_rfl) Try.func3
    (ChangeSpec.witness6 (enc := enc) (C := Try.checked) false ⟨#[], #[.agg #[.int .i64 0, .int .i64 0, .int .i64 0, .int .i64 0, .int .i64 0, .int .i64 0, .int .i64 0, .int .i64 0, .int .i64 0, .int .i64 0, .int .i64 0, .int .i64 0, .int .i64 0, .int .i64 0], .agg #[.int .i64 0, .int .i64 0, .int .i64 0, .int .i64 0, .int .i64 0, .int .i64 0, .int .i64 0, .int .i64 0, .int .i64 0, .int .i64 0, .int .i64 0, .int .i64 0, .slice none 0 0, .int .i64 0, .int .i64 0], .agg #[.int .i64 0, .int .i64 0, .int .i64 0, .int .i64 0, .int .i64 0, .int .i64 0, .int .i64 0, .int .i64 0, .int .i64 0, .int .i64 0, .int .i64 0, .int .i64 0, .int .i64 0, .int .i64 0, .int .i64 0]], []⟩ 8 (by kernel_rfl) (by kernel_rfl) (by kernel_rfl) (by kernel_rfl)) ?_
  intro W base args ds gs before hval0 hW _ _
  have hval : ∀ (j : Nat) t v, Try.f3.params[j]? = some t → args[j]? = some v → Value.okWide Try.prog W .any base t v := hval0
  have hW' := hW
  obtain ⟨p, q, hA0, hV, rfl, _, _⟩ := hW
  have hA : DataW.TrodAll enc Try.prog W 0 (fun _ => true) true Try.f3.params.toList args.toList ds p := hA0
  rw [Try.params3] at hA hval
  obtain ⟨v0, vs0, d0, ds0, p0, q0, hargs, rfl, rfl, h0, r0⟩ := trodAll_cons hA
  obtain ⟨v1, vs1, d1, ds1, p1, q1, rfl, rfl, rfl, h1, r1⟩ := trodAll_cons r0
  obtain ⟨v2, vs2, d2, ds2, p2, q2, rfl, rfl, rfl, h2, r2⟩ := trodAll_cons r1
  obtain ⟨rfl, rfl, rfl⟩ := trodAll_nil r2
  obtain rfl : args = #[v0, v1, v2] := by cases args; simp_all
  obtain ⟨rfl, rfl⟩ := trodVars_none hV
  obtain ⟨cs0, rfl, hk0⟩ := open_plain (Q := QTab W) (hQ_tab W) (n := 10) (ks := [.int .i64, .int .i64, .int .i64, .int .i64, .int .i64, .int .i64, .int .i64, .int .i64, .int .i64, .int .i64, .int .i64, .int .i64, .int .i64, .int .i64]) (by kernel_rfl) (by kernel_rfl) (by kernel_rfl) (hval 0 28 v0 rfl rfl) h0
  obtain ⟨x0_0, cs0, rfl, wf0_0, hk0⟩ := hk0.int
  obtain ⟨x0_1, cs0, rfl, wf0_1, hk0⟩ := hk0.int
  obtain ⟨x0_2, cs0, rfl, wf0_2, hk0⟩ := hk0.int
  obtain ⟨x0_3, cs0, rfl, wf0_3, hk0⟩ := hk0.int
  obtain ⟨x0_4, cs0, rfl, wf0_4, hk0⟩ := hk0.int
  obtain ⟨x0_5, cs0, rfl, wf0_5, hk0⟩ := hk0.int
  obtain ⟨x0_6, cs0, rfl, wf0_6, hk0⟩ := hk0.int
  obtain ⟨x0_7, cs0, rfl, wf0_7, hk0⟩ := hk0.int
  obtain ⟨x0_8, cs0, rfl, wf0_8, hk0⟩ := hk0.int
  obtain ⟨x0_9, cs0, rfl, wf0_9, hk0⟩ := hk0.int
  obtain ⟨x0_10, cs0, rfl, wf0_10, hk0⟩ := hk0.int
  obtain ⟨x0_11, cs0, rfl, wf0_11, hk0⟩ := hk0.int
  obtain ⟨x0_12, cs0, rfl, wf0_12, hk0⟩ := hk0.int
  obtain ⟨x0_13, cs0, rfl, wf0_13, hk0⟩ := hk0.int
  obtain rfl := hk0.nil
  obtain ⟨cs1, rfl, hk1⟩ := open_plain (Q := QTab W) (hQ_tab W) (n := 10) (ks := [.int .i64, .int .i64, .int .i64, .int .i64, .int .i64, .int .i64, .int .i64, .int .i64, .int .i64, .int .i64, .int .i64, .int .i64, .sl 29, .int .i64, .int .i64]) (by kernel_rfl) (by kernel_rfl) (by kernel_rfl) (hval 1 31 v1 rfl rfl) h1
  obtain ⟨x1_0, cs1, rfl, wf1_0, hk1⟩ := hk1.int
  obtain ⟨x1_1, cs1, rfl, wf1_1, hk1⟩ := hk1.int
  obtain ⟨x1_2, cs1, rfl, wf1_2, hk1⟩ := hk1.int
  obtain ⟨x1_3, cs1, rfl, wf1_3, hk1⟩ := hk1.int
  obtain ⟨x1_4, cs1, rfl, wf1_4, hk1⟩ := hk1.int
  obtain ⟨x1_5, cs1, rfl, wf1_5, hk1⟩ := hk1.int
  obtain ⟨x1_6, cs1, rfl, wf1_6, hk1⟩ := hk1.int
  obtain ⟨x1_7, cs1, rfl, wf1_7, hk1⟩ := hk1.int
  obtain ⟨x1_8, cs1, rfl, wf1_8, hk1⟩ := hk1.int
  obtain ⟨x1_9, cs1, rfl, wf1_9, hk1⟩ := hk1.int
  obtain ⟨x1_10, cs1, rfl, wf1_10, hk1⟩ := hk1.int
  obtain ⟨x1_11, cs1, rfl, wf1_11, hk1⟩ := hk1.int
  obtain ⟨vt12, ct12, ec12, ht12, hu12⟩ := hk1.sl
  subst ec12
  obtain ⟨A12, n12, cap12, at12, lo12, hi12, rfl, hT12, hI12⟩ := ht12 rfl
  have hk1 := hu12
  clear hu12
  obtain ⟨x1_13, cs1, rfl, wf1_13, hk1⟩ := hk1.int
  obtain ⟨x1_14, cs1, rfl, wf1_14, hk1⟩ := hk1.int
  obtain rfl := hk1.nil
  obtain ⟨cs2, rfl, hk2⟩ := open_plain (Q := QTab W) (hQ_tab W) (n := 10) (ks := [.int .i64, .int .i64, .int .i64, .int .i64, .int .i64, .int .i64, .int .i64, .int .i64, .int .i64, .int .i64, .int .i64, .int .i64, .int .i64, .int .i64, .int .i64]) (by kernel_rfl) (by kernel_rfl) (by kernel_rfl) (hval 2 33 v2 rfl rfl) h2
  obtain ⟨x2_0, cs2, rfl, wf2_0, hk2⟩ := hk2.int
  obtain ⟨x2_1, cs2, rfl, wf2_1, hk2⟩ := hk2.int
  obtain ⟨x2_2, cs2, rfl, wf2_2, hk2⟩ := hk2.int
  obtain ⟨x2_3, cs2, rfl, wf2_3, hk2⟩ := hk2.int
  obtain ⟨x2_4, cs2, rfl, wf2_4, hk2⟩ := hk2.int
  obtain ⟨x2_5, cs2, rfl, wf2_5, hk2⟩ := hk2.int
  obtain ⟨x2_6, cs2, rfl, wf2_6, hk2⟩ := hk2.int
  obtain ⟨x2_7, cs2, rfl, wf2_7, hk2⟩ := hk2.int
  obtain ⟨x2_8, cs2, rfl, wf2_8, hk2⟩ := hk2.int
  obtain ⟨x2_9, cs2, rfl, wf2_9, hk2⟩ := hk2.int
  obtain ⟨x2_10, cs2, rfl, wf2_10, hk2⟩ := hk2.int
  obtain ⟨x2_11, cs2, rfl, wf2_11, hk2⟩ := hk2.int
  obtain ⟨x2_12, cs2, rfl, wf2_12, hk2⟩ := hk2.int
  obtain ⟨x2_13, cs2, rfl, wf2_13, hk2⟩ := hk2.int
  obtain ⟨x2_14, cs2, rfl, wf2_14, hk2⟩ := hk2.int
  obtain rfl := hk2.nil
  clear hA0 hval0
  simp only [List.append_nil] at hW'
  refine (walk x0_0 x0_1 x0_2 x0_3 x0_4 x0_5 x0_6 x0_7 x0_8 x0_9 x0_10 x0_11 x0_12 x0_13 x1_0 x1_1 x1_2 x1_3 x1_4 x1_5 x1_6 x1_7 x1_8 x1_9 x1_10 x1_11 A12 n12 cap12 at12 lo12 hi12 x1_13 x1_14 x2_0 x2_1 x2_2 x2_3 x2_4 x2_5 x2_6 x2_7 x2_8 x2_9 x2_10 x2_11 x2_12 x2_13 x2_14 (i64_of_wf wf0_0) (i64_of_wf wf0_1) (i64_of_wf wf0_2) (i64_of_wf wf0_3) (i64_of_wf wf0_4) (i64_of_wf wf0_5) (i64_of_wf wf0_6) (i64_of_wf wf0_7) (i64_of_wf wf0_8) (i64_of_wf wf0_9) (i64_of_wf wf0_10) (i64_of_wf wf0_11) (i64_of_wf wf0_12) (i64_of_wf wf0_13) (i64_of_wf wf1_0) (i64_of_wf wf1_1) (i64_of_wf wf1_2) (i64_of_wf wf1_3) (i64_of_wf wf1_4) (i64_of_wf wf1_5) (i64_of_wf wf1_6) (i64_of_wf wf1_7) (i64_of_wf wf1_8) (i64_of_wf wf1_9) (i64_of_wf wf1_10) (i64_of_wf wf1_11) (i64_of_wf wf1_13) (i64_of_wf wf1_14) (i64_of_wf wf2_0) (i64_of_wf wf2_1) (i64_of_wf wf2_2) (i64_of_wf wf2_3) (i64_of_wf wf2_4) (i64_of_wf wf2_5) (i64_of_wf wf2_6) (i64_of_wf wf2_7) (i64_of_wf wf2_8) (i64_of_wf wf2_9) (i64_of_wf wf2_10) (i64_of_wf wf2_11) (i64_of_wf wf2_12) (i64_of_wf wf2_13) (i64_of_wf wf2_14) W hT12 hI12).mono fun e W' ⟨he, hb⟩ => ?_
  subst he
  exact ⟨_, rfl, _, _, _, [], _, [], hW', (trodAll_cons_mk (shut_bool Try.underlying4 _) trodAll_mk0), (trodAll_cons_mk (Below.trod laidOut (by kernel_rfl) (of_decide_eq_true (by kernel_rfl)) h0 hb (fun x hx => hW'.lt x (by simp [hx]))) (trodAll_cons_mk (Below.trod laidOut (by kernel_rfl) (of_decide_eq_true (by kernel_rfl)) h1 hb (fun x hx => hW'.lt x (by simp [hx]))) (trodAll_cons_mk (Below.trod laidOut (by kernel_rfl) (of_decide_eq_true (by kernel_rfl)) h2 hb (fun x hx => hW'.lt x (by simp [hx]))) trodAll_mk0))), rfl, hb.frame _, fun h => by cases h⟩
theorem holds : Rows.FlightChecksSaid :=
  OpenClaim.holds_of_wide 3 Try.f3 rfl rfl rfl rfl rfl rfl rfl ⟨rfl, rfl, rfl, rfl, rfl⟩ rfl rfl rfl rfl rfl (by kernel_rfl) Try.func3 (by kernel_rfl)
    (of_decide_eq_true (by kernel_rfl)) (by unfold Func.isWrapper; first | (rw [if_pos (by decide +kernel)]; kernel_rfl) | (rw [if_neg (by decide +kernel)]; exact ⟨rfl, rfl⟩))
    (fun os started H enc _ => lifted os started H enc)
#print axioms holds
end lawFlightChecks
end Go.Proofs.Ytfknnnlbfdeomaa
