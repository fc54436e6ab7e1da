/- Packed: FlForces. -/
import Derived.Test.YtcmclgjgniijfaaGreatRows
import Derived.ProofKit
import Derived.Carry
import Derived.Lib.SmallJoins
import Derived.Test.YtcmclgjgniijfaaGreatP27
import Derived.Test.YtcmclgjgniijfaaGreatP28
import Derived.Test.YtcmclgjgniijfaaGreatP29
set_option linter.unusedVariables false
set_option linter.unusedSimpArgs false
section
set_option maxRecDepth 1000000
namespace Go.Proofs.YtcmclgjgniijfaaGreat
open Go.RowKit
namespace lawFlightForces
open Go.ChangeShapes Go.WideShapes Go.ChangeAt Go.Joins
def TabIn (w : World) (A : Option Addr) (n : Nat) (at_ lo hi : Nat → Int) : Prop := 0 < n → ∃ ad, A = some ad ∧ Tab w ad n at_ lo hi
def QTab (W : World) : TypeId → Value → Prop := fun t v => t = 29 → ∃ (A : Option Addr) (n cap : Nat) (at_ lo hi : Nat → Int), v = .slice A n cap ∧ TabIn W A n at_ lo hi ∧ ∀ i, i < n → I64 (at_ i) ∧ I64 (lo i) ∧ I64 (hi i)
theorem hQ_tab {H : Type} {enc : TypeId × Value → H} (W : World) : ∀ (t e : TypeId) (fuel : Nat) (a : Option Addr) (n c : Nat) (x : DataW H × List MemPlace), Tryz.prog.underlying t = some (.slice e) → DataW.trod enc Tryz.prog W 0 (fun _ => true) true fuel t [.slice a n c] = some x → QTab W t (.slice a n c) := by
  intro t e fuel a n c x hu h ht
  subst ht
  obtain ⟨d, p⟩ := x
  rcases open_table (v := .slice a n c) ⟨a, n, c, rfl⟩ ⟨fuel, h⟩ with h1 | ⟨ad, m, cap, at_, lo, hi, h1, -, hT, hI⟩
  · exact ⟨none, 0, 0, fun _ => 0, fun _ => 0, fun _ => 0, h1, fun h => absurd h (by omega), fun i h => absurd h (by omega)⟩
  · exact ⟨some ad, m, cap, at_, lo, hi, h1, fun h0 => ⟨ad, rfl, hT h0⟩, hI⟩
open SX in
def argsF : List LV := [.v (.agg [.a (.int .i64 (.var 0)), .a (.int .i64 (.var 1)), .a (.int .i64 (.var 2)), .a (.int .i64 (.var 3)), .a (.int .i64 (.var 4)), .a (.int .i64 (.var 5)), .a (.int .i64 (.var 6)), .a (.int .i64 (.var 7)), .a (.int .i64 (.var 8)), .a (.int .i64 (.var 9)), .a (.int .i64 (.var 10)), .a (.int .i64 (.var 11)), .a (.int .i64 (.var 12)), .a (.int .i64 (.var 13))]), .v (.agg [.a (.int .i64 (.var 14)), .a (.int .i64 (.var 15)), .a (.int .i64 (.var 16)), .a (.int .i64 (.var 17)), .a (.int .i64 (.var 18)), .a (.int .i64 (.var 19)), .a (.int .i64 (.var 20)), .a (.int .i64 (.var 21)), .a (.int .i64 (.var 22)), .a (.int .i64 (.var 23)), .a (.int .i64 (.var 24)), .a (.int .i64 (.var 25)), .a (.fsl 0), .a (.int .i64 (.var 26)), .a (.int .i64 (.var 27))]), .v (.agg [.a (.int .i64 (.var 28)), .a (.int .i64 (.var 29)), .a (.int .i64 (.var 30)), .a (.int .i64 (.var 31)), .a (.int .i64 (.var 32)), .a (.int .i64 (.var 33)), .a (.int .i64 (.var 34)), .a (.int .i64 (.var 35)), .a (.int .i64 (.var 36)), .a (.int .i64 (.var 37)), .a (.int .i64 (.var 38)), .a (.int .i64 (.var 39)), .a (.int .i64 (.var 40)), .a (.int .i64 (.var 41)), .a (.int .i64 (.var 42))])]
open SX in
set_option maxHeartbeats 0 in
theorem forces_true (n : Nat) (at_ lo hi : Nat → Int) (T : Env) : (match evFn Tryz.prog KF 3000 (2^400) 3 argsF [] (.blit true) 0 1 with | some (v, _, _, obs) => v == .v (.s (.a (.bool (.blit true)))) && goodB Tryz.prog (S1 n at_ lo hi T) shp1 obs | none => false) = true := by kernel_rfl
open SX in
def envF (A : Option Addr) (n cap : Nat) (l : List Int) : Env := ⟨fun i => l.getD i 0, fun _ => false, fun _ => A, fun _ => n, fun _ => cap, fun _ => default⟩
open SX in
theorem walk (p0 p1 p2 p3 p4 p5 p6 p7 p8 p9 p10 p11 p12 p13 p14 p15 p16 p17 p18 p19 p20 p21 p22 p23 p24 p25 : Int) (A : Option Addr) (n cap : Nat) (at_ lo hi : Nat → Int) (p26 p27 p28 p29 p30 p31 p32 p33 p34 p35 p36 p37 p38 p39 p40 p41 p42 : Int) (k0 : I64 p0) (k1 : I64 p1) (k2 : I64 p2) (k3 : I64 p3) (k4 : I64 p4) (k5 : I64 p5) (k6 : I64 p6) (k7 : I64 p7) (k8 : I64 p8) (k9 : I64 p9) (k10 : I64 p10) (k11 : I64 p11) (k12 : I64 p12) (k13 : I64 p13) (k14 : I64 p14) (k15 : I64 p15) (k16 : I64 p16) (k17 : I64 p17) (k18 : I64 p18) (k19 : I64 p19) (k20 : I64 p20) (k21 : I64 p21) (k22 : I64 p22) (k23 : I64 p23) (k24 : I64 p24) (k25 : I64 p25) (k26 : I64 p26) (k27 : I64 p27) (k28 : I64 p28) (k29 : I64 p29) (k30 : I64 p30) (k31 : I64 p31) (k32 : I64 p32) (k33 : I64 p33) (k34 : I64 p34) (k35 : I64 p35) (k36 : I64 p36) (k37 : I64 p37) (k38 : I64 p38) (k39 : I64 p39) (k40 : I64 p40) (k41 : I64 p41) (k42 : I64 p42) (w : World) (hT : TabIn w A n at_ lo hi) (hI : ∀ i, i < n → I64 (at_ i) ∧ I64 (lo i) ∧ I64 (hi i)) :
    Calls Tryz.prog 3 #[.agg #[.int .i64 p0, .int .i64 p1, .int .i64 p2, .int .i64 p3, .int .i64 p4, .int .i64 p5, .int .i64 p6, .int .i64 p7, .int .i64 p8, .int .i64 p9, .int .i64 p10, .int .i64 p11, .int .i64 p12, .int .i64 p13], .agg #[.int .i64 p14, .int .i64 p15, .int .i64 p16, .int .i64 p17, .int .i64 p18, .int .i64 p19, .int .i64 p20, .int .i64 p21, .int .i64 p22, .int .i64 p23, .int .i64 p24, .int .i64 p25, .slice A n cap, .int .i64 p26, .int .i64 p27], .agg #[.int .i64 p28, .int .i64 p29, .int .i64 p30, .int .i64 p31, .int .i64 p32, .int .i64 p33, .int .i64 p34, .int .i64 p35, .int .i64 p36, .int .i64 p37, .int .i64 p38, .int .i64 p39, .int .i64 p40, .int .i64 p41, .int .i64 p42]] w fun e w' => e = .returned (.bool true) ∧ Below w.heap.size w w' := by
  have hR : ∀ i, R64 ((envF A n cap [p0, p1, p2, p3, p4, p5, p6, p7, p8, p9, p10, p11, p12, p13, p14, p15, p16, p17, p18, p19, p20, p21, p22, p23, p24, p25, p26, p27, p28, p29, p30, p31, p32, p33, p34, p35, p36, p37, p38, p39, p40, p41, p42]).i i) := fun i => envL_R64 (T := T0) (l := [p0, p1, p2, p3, p4, p5, p6, p7, p8, p9, p10, p11, p12, p13, p14, p15, p16, p17, p18, p19, p20, p21, p22, p23, p24, p25, p26, p27, p28, p29, p30, p31, p32, p33, p34, p35, p36, p37, p38, p39, p40, p41, p42]) (by
    intro x hx
    simp only [List.mem_cons, List.not_mem_nil, or_false] at hx
    rcases hx with rfl | rfl | rfl | rfl | rfl | rfl | rfl | rfl | rfl | rfl | rfl | rfl | rfl | rfl | rfl | rfl | rfl | rfl | rfl | rfl | rfl | rfl | rfl | rfl | rfl | rfl | rfl | rfl | rfl | rfl | rfl | rfl | rfl | rfl | rfl | rfl | rfl | rfl | rfl | rfl | rfl | rfl | rfl
    · exact k0
    · exact k1
    · exact k2
    · exact k3
    · exact k4
    · exact k5
    · exact k6
    · exact k7
    · exact k8
    · exact k9
    · exact k10
    · exact k11
    · exact k12
    · exact k13
    · exact k14
    · exact k15
    · exact k16
    · exact k17
    · exact k18
    · exact k19
    · exact k20
    · exact k21
    · exact k22
    · exact k23
    · exact k24
    · exact k25
    · exact k26
    · exact k27
    · exact k28
    · exact k29
    · exact k30
    · exact k31
    · exact k32
    · exact k33
    · exact k34
    · exact k35
    · exact k36
    · exact k37
    · exact k38
    · exact k39
    · exact k40
    · exact k41
    · exact k42) i
  have := law_true hmix (S := S1 n at_ lo hi (envF A n cap [p0, p1, p2, p3, p4, p5, p6, p7, p8, p9, p10, p11, p12, p13, p14, p15, p16, p17, p18, p19, p20, p21, p22, p23, p24, p25, p26, p27, p28, p29, p30, p31, p32, p33, p34, p35, p36, p37, p38, p39, p40, p41, p42])) (shp := shp1) (K := KF) (n := 3000) (sp := 2^400) (hspN 400) (forces_true n at_ lo hi _) (by kernel_rfl) (val1_R64 n at_ lo hi _) (T := envF A n cap [p0, p1, p2, p3, p4, p5, p6, p7, p8, p9, p10, p11, p12, p13, p14, p15, p16, p17, p18, p19, p20, p21, p22, p23, p24, p25, p26, p27, p28, p29, p30, p31, p32, p33, p34, p35, p36, p37, p38, p39, p40, p41, p42]) (w := w) (con1 n cap A at_ lo hi w hT hI _ rfl rfl rfl) (envF A n cap [p0, p1, p2, p3, p4, p5, p6, p7, p8, p9, p10, p11, p12, p13, p14, p15, p16, p17, p18, p19, p20, p21, p22, p23, p24, p25, p26, p27, p28, p29, p30, p31, p32, p33, p34, p35, p36, p37, p38, p39, p40, p41, p42]) hR ⟨rfl, rfl, rfl⟩ (by
    intro x hx ε h ha hn hc
    have e0 : ε.i 0 = p0 := h 0 (by decide)
    have e1 : ε.i 1 = p1 := h 1 (by decide)
    have e2 : ε.i 2 = p2 := h 2 (by decide)
    have e3 : ε.i 3 = p3 := h 3 (by decide)
    have e4 : ε.i 4 = p4 := h 4 (by decide)
    have e5 : ε.i 5 = p5 := h 5 (by decide)
    have e6 : ε.i 6 = p6 := h 6 (by decide)
    have e7 : ε.i 7 = p7 := h 7 (by decide)
    have e8 : ε.i 8 = p8 := h 8 (by decide)
    have e9 : ε.i 9 = p9 := h 9 (by decide)
    have e10 : ε.i 10 = p10 := h 10 (by decide)
    have e11 : ε.i 11 = p11 := h 11 (by decide)
    have e12 : ε.i 12 = p12 := h 12 (by decide)
    have e13 : ε.i 13 = p13 := h 13 (by decide)
    have e14 : ε.i 14 = p14 := h 14 (by decide)
    have e15 : ε.i 15 = p15 := h 15 (by decide)
    have e16 : ε.i 16 = p16 := h 16 (by decide)
    have e17 : ε.i 17 = p17 := h 17 (by decide)
    have e18 : ε.i 18 = p18 := h 18 (by decide)
    have e19 : ε.i 19 = p19 := h 19 (by decide)
    have e20 : ε.i 20 = p20 := h 20 (by decide)
    have e21 : ε.i 21 = p21 := h 21 (by decide)
    have e22 : ε.i 22 = p22 := h 22 (by decide)
    have e23 : ε.i 23 = p23 := h 23 (by decide)
    have e24 : ε.i 24 = p24 := h 24 (by decide)
    have e25 : ε.i 25 = p25 := h 25 (by decide)
    have e26 : ε.i 26 = p26 := h 26 (by decide)
    have e27 : ε.i 27 = p27 := h 27 (by decide)
    have e28 : ε.i 28 = p28 := h 28 (by decide)
    have e29 : ε.i 29 = p29 := h 29 (by decide)
    have e30 : ε.i 30 = p30 := h 30 (by decide)
    have e31 : ε.i 31 = p31 := h 31 (by decide)
    have e32 : ε.i 32 = p32 := h 32 (by decide)
    have e33 : ε.i 33 = p33 := h 33 (by decide)
    have e34 : ε.i 34 = p34 := h 34 (by decide)
    have e35 : ε.i 35 = p35 := h 35 (by decide)
    have e36 : ε.i 36 = p36 := h 36 (by decide)
    have e37 : ε.i 37 = p37 := h 37 (by decide)
    have e38 : ε.i 38 = p38 := h 38 (by decide)
    have e39 : ε.i 39 = p39 := h 39 (by decide)
    have e40 : ε.i 40 = p40 := h 40 (by decide)
    have e41 : ε.i 41 = p41 := h 41 (by decide)
    have e42 : ε.i 42 = p42 := h 42 (by decide)
    simp only [argsF, List.mem_cons, List.not_mem_nil, or_false] at hx
    rcases hx with rfl | rfl | rfl
    · show Value.agg #[.int .i64 (ε.i 0), .int .i64 (ε.i 1), .int .i64 (ε.i 2), .int .i64 (ε.i 3), .int .i64 (ε.i 4), .int .i64 (ε.i 5), .int .i64 (ε.i 6), .int .i64 (ε.i 7), .int .i64 (ε.i 8), .int .i64 (ε.i 9), .int .i64 (ε.i 10), .int .i64 (ε.i 11), .int .i64 (ε.i 12), .int .i64 (ε.i 13)] = Value.agg #[.int .i64 p0, .int .i64 p1, .int .i64 p2, .int .i64 p3, .int .i64 p4, .int .i64 p5, .int .i64 p6, .int .i64 p7, .int .i64 p8, .int .i64 p9, .int .i64 p10, .int .i64 p11, .int .i64 p12, .int .i64 p13]
      simp only [e0, e1, e2, e3, e4, e5, e6, e7, e8, e9, e10, e11, e12, e13]
    · show Value.agg #[.int .i64 (ε.i 14), .int .i64 (ε.i 15), .int .i64 (ε.i 16), .int .i64 (ε.i 17), .int .i64 (ε.i 18), .int .i64 (ε.i 19), .int .i64 (ε.i 20), .int .i64 (ε.i 21), .int .i64 (ε.i 22), .int .i64 (ε.i 23), .int .i64 (ε.i 24), .int .i64 (ε.i 25), .slice (ε.sa 0) (ε.sn 0) (ε.sc 0), .int .i64 (ε.i 26), .int .i64 (ε.i 27)] = Value.agg #[.int .i64 p14, .int .i64 p15, .int .i64 p16, .int .i64 p17, .int .i64 p18, .int .i64 p19, .int .i64 p20, .int .i64 p21, .int .i64 p22, .int .i64 p23, .int .i64 p24, .int .i64 p25, .slice A n cap, .int .i64 p26, .int .i64 p27]
      simp only [e14, e15, e16, e17, e18, e19, e20, e21, e22, e23, e24, e25, e26, e27, ha, hn, hc]
      rfl
    · show Value.agg #[.int .i64 (ε.i 28), .int .i64 (ε.i 29), .int .i64 (ε.i 30), .int .i64 (ε.i 31), .int .i64 (ε.i 32), .int .i64 (ε.i 33), .int .i64 (ε.i 34), .int .i64 (ε.i 35), .int .i64 (ε.i 36), .int .i64 (ε.i 37), .int .i64 (ε.i 38), .int .i64 (ε.i 39), .int .i64 (ε.i 40), .int .i64 (ε.i 41), .int .i64 (ε.i 42)] = Value.agg #[.int .i64 p28, .int .i64 p29, .int .i64 p30, .int .i64 p31, .int .i64 p32, .int .i64 p33, .int .i64 p34, .int .i64 p35, .int .i64 p36, .int .i64 p37, .int .i64 p38, .int .i64 p39, .int .i64 p40, .int .i64 p41, .int .i64 p42]
      simp only [e28, e29, e30, e31, e32, e33, e34, e35, e36, e37, e38, e39, e40, e41, e42])
  exact this
theorem own : ownKnob Tryz.prog.godebug = none := by kernel_rfl
theorem laidOut : laidOutB Tryz.prog = true := by kernel_rfl
set_option maxRecDepth 100000 in
theorem lifted (os : Os) (started : os.Started) (H : Type) (enc : TypeId × Value → H) :
    ReturnsInHanded {} Tryz.checked os 3 .any (Rows.flightForcesSpec.pre6 enc Tryz.prog Tryz.f3 Rows.flightForcesRow.domain false) (Rows.flightForcesSpec.post enc Tryz.prog Tryz.f3 false true false false) := by
  refine returnsInHanded_of_change (C := Tryz.checked) own started (by kernel_rfl) Tryz.func3
    (ChangeSpec.witness6 (enc := enc) (C := Tryz.checked) false ⟨#[], #[.agg #[.int .i64 0, .int .i64 0, .int .i64 0, .int .i64 0, .int .i64 0, .int .i64 0, .int .i64 0, .int .i64 0, .int .i64 0, .int .i64 0, .int .i64 0, .int .i64 0, .int .i64 0, .int .i64 0], .agg #[.int .i64 0, .int .i64 0, .int .i64 0, .int .i64 0, .int .i64 0, .int .i64 0, .int .i64 0, .int .i64 0, .int .i64 0, .int .i64 0, .int .i64 0, .int .i64 0, .slice none 0 0, .int .i64 0, .int .i64 0], .agg #[.int .i64 0, .int .i64 0, .int .i64 0, .int .i64 0, .int .i64 0, .int .i64 0, .int .i64 0, .int .i64 0, .int .i64 0, .int .i64 0, .int .i64 0, .int .i64 0, .int .i64 0, .int .i64 0, .int .i64 0]], []⟩ 8 (by kernel_rfl) (by kernel_rfl) (by kernel_rfl) (by kernel_rfl)) ?_
  intro W base args ds gs before hval0 hW _ _
  have hval : ∀ (j : Nat) t v, Tryz.f3.params[j]? = some t → args[j]? = some v → Value.okWide Tryz.prog W .any base t v := hval0
  have hW' := hW
  obtain ⟨p, q, hA0, hV, rfl, _, _⟩ := hW
  have hA : DataW.TrodAll enc Tryz.prog W 0 (fun _ => true) true Tryz.f3.params.toList args.toList ds p := hA0
  rw [Tryz.params3] at hA hval
  obtain ⟨v0, vs0, d0, ds0, p0, q0, hargs, rfl, rfl, h0, r0⟩ := trodAll_cons hA
  obtain ⟨v1, vs1, d1, ds1, p1, q1, rfl, rfl, rfl, h1, r1⟩ := trodAll_cons r0
  obtain ⟨v2, vs2, d2, ds2, p2, q2, rfl, rfl, rfl, h2, r2⟩ := trodAll_cons r1
  obtain ⟨rfl, rfl, rfl⟩ := trodAll_nil r2
  obtain rfl : args = #[v0, v1, v2] := by cases args; simp_all
  obtain ⟨rfl, rfl⟩ := trodVars_none hV
  obtain ⟨cs0, rfl, hk0⟩ := open_plain (Q := QTab W) (hQ_tab W) (n := 10) (ks := [.int .i64, .int .i64, .int .i64, .int .i64, .int .i64, .int .i64, .int .i64, .int .i64, .int .i64, .int .i64, .int .i64, .int .i64, .int .i64, .int .i64]) (by kernel_rfl) (by kernel_rfl) (by kernel_rfl) (hval 0 28 v0 rfl rfl) h0
  obtain ⟨x0_0, cs0, rfl, wf0_0, hk0⟩ := hk0.int
  obtain ⟨x0_1, cs0, rfl, wf0_1, hk0⟩ := hk0.int
  obtain ⟨x0_2, cs0, rfl, wf0_2, hk0⟩ := hk0.int
  obtain ⟨x0_3, cs0, rfl, wf0_3, hk0⟩ := hk0.int
  obtain ⟨x0_4, cs0, rfl, wf0_4, hk0⟩ := hk0.int
  obtain ⟨x0_5, cs0, rfl, wf0_5, hk0⟩ := hk0.int
  obtain ⟨x0_6, cs0, rfl, wf0_6, hk0⟩ := hk0.int
  obtain ⟨x0_7, cs0, rfl, wf0_7, hk0⟩ := hk0.int
  obtain ⟨x0_8, cs0, rfl, wf0_8, hk0⟩ := hk0.int
  obtain ⟨x0_9, cs0, rfl, wf0_9, hk0⟩ := hk0.int
  obtain ⟨x0_10, cs0, rfl, wf0_10, hk0⟩ := hk0.int
  obtain ⟨x0_11, cs0, rfl, wf0_11, hk0⟩ := hk0.int
  obtain ⟨x0_12, cs0, rfl, wf0_12, hk0⟩ := hk0.int
  obtain ⟨x0_13, cs0, rfl, wf0_13, hk0⟩ := hk0.int
  obtain rfl := hk0.nil
  obtain ⟨cs1, rfl, hk1⟩ := open_plain (Q := QTab W) (hQ_tab W) (n := 10) (ks := [.int .i64, .int .i64, .int .i64, .int .i64, .int .i64, .int .i64, .int .i64, .int .i64, .int .i64, .int .i64, .int .i64, .int .i64, .sl 29, .int .i64, .int .i64]) (by kernel_rfl) (by kernel_rfl) (by kernel_rfl) (hval 1 31 v1 rfl rfl) h1
  obtain ⟨x1_0, cs1, rfl, wf1_0, hk1⟩ := hk1.int
  obtain ⟨x1_1, cs1, rfl, wf1_1, hk1⟩ := hk1.int
  obtain ⟨x1_2, cs1, rfl, wf1_2, hk1⟩ := hk1.int
  obtain ⟨x1_3, cs1, rfl, wf1_3, hk1⟩ := hk1.int
  obtain ⟨x1_4, cs1, rfl, wf1_4, hk1⟩ := hk1.int
  obtain ⟨x1_5, cs1, rfl, wf1_5, hk1⟩ := hk1.int
  obtain ⟨x1_6, cs1, rfl, wf1_6, hk1⟩ := hk1.int
  obtain ⟨x1_7, cs1, rfl, wf1_7, hk1⟩ := hk1.int
  obtain ⟨x1_8, cs1, rfl, wf1_8, hk1⟩ := hk1.int
  obtain ⟨x1_9, cs1, rfl, wf1_9, hk1⟩ := hk1.int
  obtain ⟨x1_10, cs1, rfl, wf1_10, hk1⟩ := hk1.int
  obtain ⟨x1_11, cs1, rfl, wf1_11, hk1⟩ := hk1.int
  obtain ⟨vt12, ct12, ec12, ht12, hu12⟩ := hk1.sl
  subst ec12
  obtain ⟨A12, n12, cap12, at12, lo12, hi12, rfl, hT12, hI12⟩ := ht12 rfl
  have hk1 := hu12
  clear hu12
  obtain ⟨x1_13, cs1, rfl, wf1_13, hk1⟩ := hk1.int
  obtain ⟨x1_14, cs1, rfl, wf1_14, hk1⟩ := hk1.int
  obtain rfl := hk1.nil
  obtain ⟨cs2, rfl, hk2⟩ := open_plain (Q := QTab W) (hQ_tab W) (n := 10) (ks := [.int .i64, .int .i64, .int .i64, .int .i64, .int .i64, .int .i64, .int .i64, .int .i64, .int .i64, .int .i64, .int .i64, .int .i64, .int .i64, .int .i64, .int .i64]) (by kernel_rfl) (by kernel_rfl) (by kernel_rfl) (hval 2 33 v2 rfl rfl) h2
  obtain ⟨x2_0, cs2, rfl, wf2_0, hk2⟩ := hk2.int
  obtain ⟨x2_1, cs2, rfl, wf2_1, hk2⟩ := hk2.int
  obtain ⟨x2_2, cs2, rfl, wf2_2, hk2⟩ := hk2.int
  obtain ⟨x2_3, cs2, rfl, wf2_3, hk2⟩ := hk2.int
  obtain ⟨x2_4, cs2, rfl, wf2_4, hk2⟩ := hk2.int
  obtain ⟨x2_5, cs2, rfl, wf2_5, hk2⟩ := hk2.int
  obtain ⟨x2_6, cs2, rfl, wf2_6, hk2⟩ := hk2.int
  obtain ⟨x2_7, cs2, rfl, wf2_7, hk2⟩ := hk2.int
  obtain ⟨x2_8, cs2, rfl, wf2_8, hk2⟩ := hk2.int
  obtain ⟨x2_9, cs2, rfl, wf2_9, hk2⟩ := hk2.int
  obtain ⟨x2_10, cs2, rfl, wf2_10, hk2⟩ := hk2.int
  obtain ⟨x2_11, cs2, rfl, wf2_11, hk2⟩ := hk2.int
  obtain ⟨x2_12, cs2, rfl, wf2_12, hk2⟩ := hk2.int
  obtain ⟨x2_13, cs2, rfl, wf2_13, hk2⟩ := hk2.int
  obtain ⟨x2_14, cs2, rfl, wf2_14, hk2⟩ := hk2.int
  obtain rfl := hk2.nil
  clear hA0 hval0
  simp only [List.append_nil] at hW'
  refine (walk x0_0 x0_1 x0_2 x0_3 x0_4 x0_5 x0_6 x0_7 x0_8 x0_9 x0_10 x0_11 x0_12 x0_13 x1_0 x1_1 x1_2 x1_3 x1_4 x1_5 x1_6 x1_7 x1_8 x1_9 x1_10 x1_11 A12 n12 cap12 at12 lo12 hi12 x1_13 x1_14 x2_0 x2_1 x2_2 x2_3 x2_4 x2_5 x2_6 x2_7 x2_8 x2_9 x2_10 x2_11 x2_12 x2_13 x2_14 (i64_of_wf wf0_0) (i64_of_wf wf0_1) (i64_of_wf wf0_2) (i64_of_wf wf0_3) (i64_of_wf wf0_4) (i64_of_wf wf0_5) (i64_of_wf wf0_6) (i64_of_wf wf0_7) (i64_of_wf wf0_8) (i64_of_wf wf0_9) (i64_of_wf wf0_10) (i64_of_wf wf0_11) (i64_of_wf wf0_12) (i64_of_wf wf0_13) (i64_of_wf wf1_0) (i64_of_wf wf1_1) (i64_of_wf wf1_2) (i64_of_wf wf1_3) (i64_of_wf wf1_4) (i64_of_wf wf1_5) (i64_of_wf wf1_6) (i64_of_wf wf1_7) (i64_of_wf wf1_8) (i64_of_wf wf1_9) (i64_of_wf wf1_10) (i64_of_wf wf1_11) (i64_of_wf wf1_13) (i64_of_wf wf1_14) (i64_of_wf wf2_0) (i64_of_wf wf2_1) (i64_of_wf wf2_2) (i64_of_wf wf2_3) (i64_of_wf wf2_4) (i64_of_wf wf2_5) (i64_of_wf wf2_6) (i64_of_wf wf2_7) (i64_of_wf wf2_8) (i64_of_wf wf2_9) (i64_of_wf wf2_10) (i64_of_wf wf2_11) (i64_of_wf wf2_12) (i64_of_wf wf2_13) (i64_of_wf wf2_14) W hT12 hI12).mono fun e W' ⟨he, hb⟩ => ?_
  subst he
  exact ⟨_, rfl, _, _, _, [], _, [], hW', (trodAll_cons_mk (shut_bool Tryz.underlying4 _) trodAll_mk0), (trodAll_cons_mk (Below.trod laidOut (by kernel_rfl) (of_decide_eq_true (by kernel_rfl)) h0 hb (fun x hx => hW'.lt x (by simp [hx]))) (trodAll_cons_mk (Below.trod laidOut (by kernel_rfl) (of_decide_eq_true (by kernel_rfl)) h1 hb (fun x hx => hW'.lt x (by simp [hx]))) (trodAll_cons_mk (Below.trod laidOut (by kernel_rfl) (of_decide_eq_true (by kernel_rfl)) h2 hb (fun x hx => hW'.lt x (by simp [hx]))) trodAll_mk0))), rfl, hb.frame _, fun h => by cases h⟩
theorem holds : Rows.FlightForcesSaid :=
  OpenClaim.holds_of_wide 3 Tryz.f3 rfl rfl rfl rfl rfl rfl rfl ⟨rfl, rfl, rfl, rfl, rfl⟩ rfl rfl rfl rfl rfl (by kernel_rfl) Tryz.func3 (by kernel_rfl)
    (of_decide_eq_true (by kernel_rfl)) (by unfold Func.isWrapper; first | (rw [if_pos (by decide +kernel)]; kernel_rfl) | (rw [if_neg (by decide +kernel)]; exact ⟨rfl, rfl⟩))
    (fun os started H enc _ => lifted os started H enc)
#print axioms holds
end lawFlightForces
end Go.Proofs.YtcmclgjgniijfaaGreat
end
