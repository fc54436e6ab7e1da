/- Packed: AkLaw. -/
import Derived.Test.YtcjlpgmhlghdkaaGreatRows
import Derived.ProofKit
import Derived.Carry
import Derived.Lib.SmallJoins
import Derived.Test.YtcjlpgmhlghdkaaGreatP28
import Derived.Test.YtcjlpgmhlghdkaaGreatP29
import Derived.Test.YtcjlpgmhlghdkaaGreatP30
set_option linter.unusedVariables false
set_option linter.unusedSimpArgs false
namespace Go.Proofs.YtcjlpgmhlghdkaaGreat
section
set_option maxRecDepth 1000000
open Go.RowKit
namespace lawFlightAsks
open Go.ChangeShapes Go.WideShapes Go.ChangeAt Go.Joins
open SX in
def envF (l : List Int) (A : Option Addr) (n cap : Nat) : Env := ⟨fun i => l.getD i 0, fun _ => false, fun _ => A, fun _ => n, fun _ => cap, fun _ => default, fun _ _ => 0⟩
open SX in
theorem walk_some (p0 p1 p2 p3 p4 p5 p6 p7 p8 p9 p10 p11 p12 p13 p14 p15 p16 p17 p18 p19 p20 p21 p22 p23 p24 p25 p26 p27 p28 p29 p31 p32 p33 p34 p35 p36 p37 p38 p39 p40 p41 p42 p43 p44 p45 : Int) (A : Option Addr) (n cap : Nat) (at_ lo hi : Nat → Int) (k0 : I64 p0) (k1 : I64 p1) (k2 : I64 p2) (k3 : I64 p3) (k4 : I64 p4) (k5 : I64 p5) (k6 : I64 p6) (k7 : I64 p7) (k8 : I64 p8) (k9 : I64 p9) (k10 : I64 p10) (k11 : I64 p11) (k12 : I64 p12) (k13 : I64 p13) (k14 : I64 p14) (k15 : I64 p15) (k16 : I64 p16) (k17 : I64 p17) (k18 : I64 p18) (k19 : I64 p19) (k20 : I64 p20) (k21 : I64 p21) (k22 : I64 p22) (k23 : I64 p23) (k24 : I64 p24) (k25 : I64 p25) (k26 : I64 p26) (k27 : I64 p27) (k28 : I64 p28) (k29 : I64 p29) (k31 : I64 p31) (k32 : I64 p32) (k33 : I64 p33) (k34 : I64 p34) (k35 : I64 p35) (k36 : I64 p36) (k37 : I64 p37) (k38 : I64 p38) (k39 : I64 p39) (k40 : I64 p40) (k41 : I64 p41) (k42 : I64 p42) (k43 : I64 p43) (k44 : I64 p44) (k45 : I64 p45) (w : World) (hT : 0 < n → ∃ ad, A = some ad ∧ Tab w ad n at_ lo hi) (hI : ∀ i, i < n → I64 (at_ i) ∧ I64 (lo i) ∧ I64 (hi i)) :
  Calls Tryz.prog 3 #[.agg #[.int .i64 p0, .int .i64 p1, .int .i64 p2, .int .i64 p3, .int .i64 p4, .int .i64 p5, .int .i64 p6, .int .i64 p7, .int .i64 p8, .int .i64 p9, .int .i64 p10, .int .i64 p11, .int .i64 p12, .int .i64 p13], .agg #[.int .i64 p14, .int .i64 p15, .int .i64 p16, .int .i64 p17, .int .i64 p18, .int .i64 p19, .int .i64 p20, .int .i64 p21, .int .i64 p22, .int .i64 p23, .int .i64 p24, .int .i64 p25, .int .i64 p26, .int .i64 p27, .int .i64 p28, .int .i64 p29], .slice A n cap, .agg #[.int .i64 p31, .int .i64 p32, .int .i64 p33, .int .i64 p34, .int .i64 p35, .int .i64 p36, .int .i64 p37, .int .i64 p38, .int .i64 p39, .int .i64 p40, .int .i64 p41, .int .i64 p42, .int .i64 p43, .int .i64 p44, .int .i64 p45]] w fun e w' => e = .returned (.bool true) ∧ Below w.heap.size w w' := by
 have hR : ∀ i, R64 ((envF [p0, p1, p2, p3, p4, p5, p6, p7, p8, p9, p10, p11, p12, p13, p14, p15, p16, p17, p18, p19, p20, p21, p22, p23, p24, p25, p26, p27, p28, p29, 0, p31, p32, p33, p34, p35, p36, p37, p38, p39, p40, p41, p42, p43, p44, p45] A n cap).i i) := fun i => envL_R64 (T := T0) (l := [p0, p1, p2, p3, p4, p5, p6, p7, p8, p9, p10, p11, p12, p13, p14, p15, p16, p17, p18, p19, p20, p21, p22, p23, p24, p25, p26, p27, p28, p29, 0, p31, p32, p33, p34, p35, p36, p37, p38, p39, p40, p41, p42, p43, p44, p45]) (by
  intro x hx
  simp only [List.mem_cons, List.not_mem_nil, or_false] at hx
  rcases hx with rfl | rfl | rfl | rfl | rfl | rfl | rfl | rfl | rfl | rfl | rfl | rfl | rfl | rfl | rfl | rfl | rfl | rfl | rfl | rfl | rfl | rfl | rfl | rfl | rfl | rfl | rfl | rfl | rfl | rfl | rfl | rfl | rfl | rfl | rfl | rfl | rfl | rfl | rfl | rfl | rfl | rfl | rfl | rfl | rfl | rfl
  ·exact k0
  ·exact k1
  ·exact k2
  ·exact k3
  ·exact k4
  ·exact k5
  ·exact k6
  ·exact k7
  ·exact k8
  ·exact k9
  ·exact k10
  ·exact k11
  ·exact k12
  ·exact k13
  ·exact k14
  ·exact k15
  ·exact k16
  ·exact k17
  ·exact k18
  ·exact k19
  ·exact k20
  ·exact k21
  ·exact k22
  ·exact k23
  ·exact k24
  ·exact k25
  ·exact k26
  ·exact k27
  ·exact k28
  ·exact k29
  ·exact R64_0
  ·exact k31
  ·exact k32
  ·exact k33
  ·exact k34
  ·exact k35
  ·exact k36
  ·exact k37
  ·exact k38
  ·exact k39
  ·exact k40
  ·exact k41
  ·exact k42
  ·exact k43
  ·exact k44
  ·exact k45) i
 have := law_true' hmix (S := S2 n at_ lo hi (envF [p0, p1, p2, p3, p4, p5, p6, p7, p8, p9, p10, p11, p12, p13, p14, p15, p16, p17, p18, p19, p20, p21, p22, p23, p24, p25, p26, p27, p28, p29, 0, p31, p32, p33, p34, p35, p36, p37, p38, p39, p40, p41, p42, p43, p44, p45] A n cap)) (shp := shp2) (K := KF) (n := 3000) (sp := 2^240) (by decide) (split lt0 (lt1 n at_ lo hi _) lt2 (lt3 n at_ lo hi _) lt4) (by kernel_rfl) (val2_R64 _ _ _ _ _) (T := envF [p0, p1, p2, p3, p4, p5, p6, p7, p8, p9, p10, p11, p12, p13, p14, p15, p16, p17, p18, p19, p20, p21, p22, p23, p24, p25, p26, p27, p28, p29, 0, p31, p32, p33, p34, p35, p36, p37, p38, p39, p40, p41, p42, p43, p44, p45] A n cap) (w := w) (con2 n cap A at_ lo hi w hT hI _ rfl rfl rfl) (envF [p0, p1, p2, p3, p4, p5, p6, p7, p8, p9, p10, p11, p12, p13, p14, p15, p16, p17, p18, p19, p20, p21, p22, p23, p24, p25, p26, p27, p28, p29, 0, p31, p32, p33, p34, p35, p36, p37, p38, p39, p40, p41, p42, p43, p44, p45] A n cap) hR ⟨rfl, rfl, rfl⟩ (by
  intro x hx ε h ha hn hc
  have e0 : ε.i 0 = p0 := h 0 (by decide)
  have e1 : ε.i 1 = p1 := h 1 (by decide)
  have e2 : ε.i 2 = p2 := h 2 (by decide)
  have e3 : ε.i 3 = p3 := h 3 (by decide)
  have e4 : ε.i 4 = p4 := h 4 (by decide)
  have e5 : ε.i 5 = p5 := h 5 (by decide)
  have e6 : ε.i 6 = p6 := h 6 (by decide)
  have e7 : ε.i 7 = p7 := h 7 (by decide)
  have e8 : ε.i 8 = p8 := h 8 (by decide)
  have e9 : ε.i 9 = p9 := h 9 (by decide)
  have e10 : ε.i 10 = p10 := h 10 (by decide)
  have e11 : ε.i 11 = p11 := h 11 (by decide)
  have e12 : ε.i 12 = p12 := h 12 (by decide)
  have e13 : ε.i 13 = p13 := h 13 (by decide)
  have e14 : ε.i 14 = p14 := h 14 (by decide)
  have e15 : ε.i 15 = p15 := h 15 (by decide)
  have e16 : ε.i 16 = p16 := h 16 (by decide)
  have e17 : ε.i 17 = p17 := h 17 (by decide)
  have e18 : ε.i 18 = p18 := h 18 (by decide)
  have e19 : ε.i 19 = p19 := h 19 (by decide)
  have e20 : ε.i 20 = p20 := h 20 (by decide)
  have e21 : ε.i 21 = p21 := h 21 (by decide)
  have e22 : ε.i 22 = p22 := h 22 (by decide)
  have e23 : ε.i 23 = p23 := h 23 (by decide)
  have e24 : ε.i 24 = p24 := h 24 (by decide)
  have e25 : ε.i 25 = p25 := h 25 (by decide)
  have e26 : ε.i 26 = p26 := h 26 (by decide)
  have e27 : ε.i 27 = p27 := h 27 (by decide)
  have e28 : ε.i 28 = p28 := h 28 (by decide)
  have e29 : ε.i 29 = p29 := h 29 (by decide)
  have e31 : ε.i 31 = p31 := h 31 (by decide)
  have e32 : ε.i 32 = p32 := h 32 (by decide)
  have e33 : ε.i 33 = p33 := h 33 (by decide)
  have e34 : ε.i 34 = p34 := h 34 (by decide)
  have e35 : ε.i 35 = p35 := h 35 (by decide)
  have e36 : ε.i 36 = p36 := h 36 (by decide)
  have e37 : ε.i 37 = p37 := h 37 (by decide)
  have e38 : ε.i 38 = p38 := h 38 (by decide)
  have e39 : ε.i 39 = p39 := h 39 (by decide)
  have e40 : ε.i 40 = p40 := h 40 (by decide)
  have e41 : ε.i 41 = p41 := h 41 (by decide)
  have e42 : ε.i 42 = p42 := h 42 (by decide)
  have e43 : ε.i 43 = p43 := h 43 (by decide)
  have e44 : ε.i 44 = p44 := h 44 (by decide)
  have e45 : ε.i 45 = p45 := h 45 (by decide)
  simp only [argsF, List.mem_cons, List.not_mem_nil, or_false] at hx
  rcases hx with rfl | rfl | rfl | rfl
  ·show Value.agg #[.int .i64 (ε.i 0), .int .i64 (ε.i 1), .int .i64 (ε.i 2), .int .i64 (ε.i 3), .int .i64 (ε.i 4), .int .i64 (ε.i 5), .int .i64 (ε.i 6), .int .i64 (ε.i 7), .int .i64 (ε.i 8), .int .i64 (ε.i 9), .int .i64 (ε.i 10), .int .i64 (ε.i 11), .int .i64 (ε.i 12), .int .i64 (ε.i 13)] = Value.agg #[.int .i64 p0, .int .i64 p1, .int .i64 p2, .int .i64 p3, .int .i64 p4, .int .i64 p5, .int .i64 p6, .int .i64 p7, .int .i64 p8, .int .i64 p9, .int .i64 p10, .int .i64 p11, .int .i64 p12, .int .i64 p13]
   simp only [e0, e1, e2, e3, e4, e5, e6, e7, e8, e9, e10, e11, e12, e13]
  ·show Value.agg #[.int .i64 (ε.i 14), .int .i64 (ε.i 15), .int .i64 (ε.i 16), .int .i64 (ε.i 17), .int .i64 (ε.i 18), .int .i64 (ε.i 19), .int .i64 (ε.i 20), .int .i64 (ε.i 21), .int .i64 (ε.i 22), .int .i64 (ε.i 23), .int .i64 (ε.i 24), .int .i64 (ε.i 25), .int .i64 (ε.i 26), .int .i64 (ε.i 27), .int .i64 (ε.i 28), .int .i64 (ε.i 29)] = Value.agg #[.int .i64 p14, .int .i64 p15, .int .i64 p16, .int .i64 p17, .int .i64 p18, .int .i64 p19, .int .i64 p20, .int .i64 p21, .int .i64 p22, .int .i64 p23, .int .i64 p24, .int .i64 p25, .int .i64 p26, .int .i64 p27, .int .i64 p28, .int .i64 p29]
   simp only [e14, e15, e16, e17, e18, e19, e20, e21, e22, e23, e24, e25, e26, e27, e28, e29]
  ·show Value.slice (ε.sa 0) (ε.sn 0) (ε.sc 0) = Value.slice A n cap
   rw [ha, hn, hc]; rfl
  ·show Value.agg #[.int .i64 (ε.i 31), .int .i64 (ε.i 32), .int .i64 (ε.i 33), .int .i64 (ε.i 34), .int .i64 (ε.i 35), .int .i64 (ε.i 36), .int .i64 (ε.i 37), .int .i64 (ε.i 38), .int .i64 (ε.i 39), .int .i64 (ε.i 40), .int .i64 (ε.i 41), .int .i64 (ε.i 42), .int .i64 (ε.i 43), .int .i64 (ε.i 44), .int .i64 (ε.i 45)] = Value.agg #[.int .i64 p31, .int .i64 p32, .int .i64 p33, .int .i64 p34, .int .i64 p35, .int .i64 p36, .int .i64 p37, .int .i64 p38, .int .i64 p39, .int .i64 p40, .int .i64 p41, .int .i64 p42, .int .i64 p43, .int .i64 p44, .int .i64 p45]
   simp only [e31, e32, e33, e34, e35, e36, e37, e38, e39, e40, e41, e42, e43, e44, e45])
 exact this
theorem walk_many (p0 p1 p2 p3 p4 p5 p6 p7 p8 p9 p10 p11 p12 p13 p14 p15 p16 p17 p18 p19 p20 p21 p22 p23 p24 p25 p26 p27 p28 p29 p31 p32 p33 p34 p35 p36 p37 p38 p39 p40 p41 p42 p43 p44 p45 : Int) (A : Option Addr) (n cap : Nat) (hn : 70 < n) (w : World) :
  Calls Tryz.prog 3 #[.agg #[.int .i64 p0, .int .i64 p1, .int .i64 p2, .int .i64 p3, .int .i64 p4, .int .i64 p5, .int .i64 p6, .int .i64 p7, .int .i64 p8, .int .i64 p9, .int .i64 p10, .int .i64 p11, .int .i64 p12, .int .i64 p13], .agg #[.int .i64 p14, .int .i64 p15, .int .i64 p16, .int .i64 p17, .int .i64 p18, .int .i64 p19, .int .i64 p20, .int .i64 p21, .int .i64 p22, .int .i64 p23, .int .i64 p24, .int .i64 p25, .int .i64 p26, .int .i64 p27, .int .i64 p28, .int .i64 p29], .slice A n cap, .agg #[.int .i64 p31, .int .i64 p32, .int .i64 p33, .int .i64 p34, .int .i64 p35, .int .i64 p36, .int .i64 p37, .int .i64 p38, .int .i64 p39, .int .i64 p40, .int .i64 p41, .int .i64 p42, .int .i64 p43, .int .i64 p44, .int .i64 p45]] w fun e w' => e = .returned (.bool true) ∧ Below w.heap.size w w' := by
 have g : (70 : Int) < (n : Int) := by omega
 go_enter Tryz.func3, Tryz.ntmps3
 go_wp2
 go_ret
 exact ⟨rfl, blw_⟩
theorem walk (p0 p1 p2 p3 p4 p5 p6 p7 p8 p9 p10 p11 p12 p13 p14 p15 p16 p17 p18 p19 p20 p21 p22 p23 p24 p25 p26 p27 p28 p29 : Int) (v : Value) (p31 p32 p33 p34 p35 p36 p37 p38 p39 p40 p41 p42 p43 p44 p45 : Int) (k0 : I64 p0) (k1 : I64 p1) (k2 : I64 p2) (k3 : I64 p3) (k4 : I64 p4) (k5 : I64 p5) (k6 : I64 p6) (k7 : I64 p7) (k8 : I64 p8) (k9 : I64 p9) (k10 : I64 p10) (k11 : I64 p11) (k12 : I64 p12) (k13 : I64 p13) (k14 : I64 p14) (k15 : I64 p15) (k16 : I64 p16) (k17 : I64 p17) (k18 : I64 p18) (k19 : I64 p19) (k20 : I64 p20) (k21 : I64 p21) (k22 : I64 p22) (k23 : I64 p23) (k24 : I64 p24) (k25 : I64 p25) (k26 : I64 p26) (k27 : I64 p27) (k28 : I64 p28) (k29 : I64 p29) (k31 : I64 p31) (k32 : I64 p32) (k33 : I64 p33) (k34 : I64 p34) (k35 : I64 p35) (k36 : I64 p36) (k37 : I64 p37) (k38 : I64 p38) (k39 : I64 p39) (k40 : I64 p40) (k41 : I64 p41) (k42 : I64 p42) (k43 : I64 p43) (k44 : I64 p44) (k45 : I64 p45) (w : World) (hv : v = .slice none 0 0 ∨ ∃ (ad : Addr) (n cap : Nat) (at_ lo hi : Nat → Int), v = .slice (some ad) n cap ∧ n ≤ maxLen ∧ (0 < n → Tab w ad n at_ lo hi) ∧ ∀ i, i < n → I64 (at_ i) ∧ I64 (lo i) ∧ I64 (hi i)) :
  Calls Tryz.prog 3 #[.agg #[.int .i64 p0, .int .i64 p1, .int .i64 p2, .int .i64 p3, .int .i64 p4, .int .i64 p5, .int .i64 p6, .int .i64 p7, .int .i64 p8, .int .i64 p9, .int .i64 p10, .int .i64 p11, .int .i64 p12, .int .i64 p13], .agg #[.int .i64 p14, .int .i64 p15, .int .i64 p16, .int .i64 p17, .int .i64 p18, .int .i64 p19, .int .i64 p20, .int .i64 p21, .int .i64 p22, .int .i64 p23, .int .i64 p24, .int .i64 p25, .int .i64 p26, .int .i64 p27, .int .i64 p28, .int .i64 p29], v, .agg #[.int .i64 p31, .int .i64 p32, .int .i64 p33, .int .i64 p34, .int .i64 p35, .int .i64 p36, .int .i64 p37, .int .i64 p38, .int .i64 p39, .int .i64 p40, .int .i64 p41, .int .i64 p42, .int .i64 p43, .int .i64 p44, .int .i64 p45]] w fun e w' => e = .returned (.bool true) ∧ Below w.heap.size w w' := by
 rcases hv with rfl | ⟨ad, n, cap, at_, lo, hi, rfl, _, hT, hI⟩
 ·exact walk_some p0 p1 p2 p3 p4 p5 p6 p7 p8 p9 p10 p11 p12 p13 p14 p15 p16 p17 p18 p19 p20 p21 p22 p23 p24 p25 p26 p27 p28 p29 p31 p32 p33 p34 p35 p36 p37 p38 p39 p40 p41 p42 p43 p44 p45 none 0 0 (fun _ => 0) (fun _ => 0) (fun _ => 0) k0 k1 k2 k3 k4 k5 k6 k7 k8 k9 k10 k11 k12 k13 k14 k15 k16 k17 k18 k19 k20 k21 k22 k23 k24 k25 k26 k27 k28 k29 k31 k32 k33 k34 k35 k36 k37 k38 k39 k40 k41 k42 k43 k44 k45 w (fun h => absurd h (Nat.lt_irrefl 0)) (fun i h => absurd h (Nat.not_lt_zero i))
 ·by_cases h70 : n ≤ 70
  ·exact walk_some p0 p1 p2 p3 p4 p5 p6 p7 p8 p9 p10 p11 p12 p13 p14 p15 p16 p17 p18 p19 p20 p21 p22 p23 p24 p25 p26 p27 p28 p29 p31 p32 p33 p34 p35 p36 p37 p38 p39 p40 p41 p42 p43 p44 p45 (some ad) n cap at_ lo hi k0 k1 k2 k3 k4 k5 k6 k7 k8 k9 k10 k11 k12 k13 k14 k15 k16 k17 k18 k19 k20 k21 k22 k23 k24 k25 k26 k27 k28 k29 k31 k32 k33 k34 k35 k36 k37 k38 k39 k40 k41 k42 k43 k44 k45 w (fun h => ⟨ad, rfl, hT h⟩) hI
  ·exact walk_many p0 p1 p2 p3 p4 p5 p6 p7 p8 p9 p10 p11 p12 p13 p14 p15 p16 p17 p18 p19 p20 p21 p22 p23 p24 p25 p26 p27 p28 p29 p31 p32 p33 p34 p35 p36 p37 p38 p39 p40 p41 p42 p43 p44 p45 (some ad) n cap (by omega) w
theorem own : ownKnob Tryz.prog.godebug = none := by kernel_rfl
theorem laidOut : laidOutB Tryz.prog = true := by kernel_rfl
set_option maxRecDepth 100000 in
theorem lifted (os : Os) (started : os.Started) (H : Type) (enc : TypeId × Value → H) :
  ReturnsInHanded {} Tryz.checked os 3 .any (Rows.flightAsksSpec.pre6 enc Tryz.prog Tryz.f3 Rows.flightAsksRow.domain false) (Rows.flightAsksSpec.post enc Tryz.prog Tryz.f3 false true false false) := by
 refine returnsInHanded_of_change (C := Tryz.checked) own started (by kernel_rfl) Tryz.func3
  (ChangeSpec.witness6 (enc := enc) (C := Tryz.checked) false ⟨#[], #[.agg #[.int .i64 0, .int .i64 0, .int .i64 0, .int .i64 0, .int .i64 0, .int .i64 0, .int .i64 0, .int .i64 0, .int .i64 0, .int .i64 0, .int .i64 0, .int .i64 0, .int .i64 0, .int .i64 0], .agg #[.int .i64 0, .int .i64 0, .int .i64 0, .int .i64 0, .int .i64 0, .int .i64 0, .int .i64 0, .int .i64 0, .int .i64 0, .int .i64 0, .int .i64 0, .int .i64 0, .int .i64 0, .int .i64 0, .int .i64 0, .int .i64 0], .slice none 0 0, .agg #[.int .i64 0, .int .i64 0, .int .i64 0, .int .i64 0, .int .i64 0, .int .i64 0, .int .i64 0, .int .i64 0, .int .i64 0, .int .i64 0, .int .i64 0, .int .i64 0, .int .i64 0, .int .i64 0, .int .i64 0]], []⟩ 8 (by kernel_rfl) (by kernel_rfl) (by kernel_rfl) (by kernel_rfl)) ?_
 intro W base args ds gs before hval0 hW _ _
 have hval : ∀ (j : Nat) t v, Tryz.f3.params[j]? = some t → args[j]? = some v → Value.okWide Tryz.prog W .any base t v := hval0
 have hW' := hW
 obtain ⟨p, q, hA0, hV, rfl, _, _⟩ := hW
 have hA : DataW.TrodAll enc Tryz.prog W 0 (fun _ => true) true Tryz.f3.params.toList args.toList ds p := hA0
 rw [Tryz.params3] at hA hval
 obtain ⟨v0, vs0, d0, ds0, p0, q0, hargs, rfl, rfl, h0, r0⟩ := trodAll_cons hA
 obtain ⟨v1, vs1, d1, ds1, p1, q1, rfl, rfl, rfl, h1, r1⟩ := trodAll_cons r0
 obtain ⟨v2, vs2, d2, ds2, p2, q2, rfl, rfl, rfl, h2, r2⟩ := trodAll_cons r1
 obtain ⟨v3, vs3, d3, ds3, p3, q3, rfl, rfl, rfl, h3, r3⟩ := trodAll_cons r2
 obtain ⟨rfl, rfl, rfl⟩ := trodAll_nil r3
 obtain rfl : args = #[v0, v1, v2, v3] := by cases args; simp_all
 obtain ⟨rfl, rfl⟩ := trodVars_none hV
 obtain ⟨cs0, rfl, hk0⟩ := open_plain (Q := fun _ _ => True) (fun _ _ _ _ _ _ _ _ _ => trivial) (n := 10) (ks := [.int .i64, .int .i64, .int .i64, .int .i64, .int .i64, .int .i64, .int .i64, .int .i64, .int .i64, .int .i64, .int .i64, .int .i64, .int .i64, .int .i64]) (by kernel_rfl) (by kernel_rfl) (by kernel_rfl) (hval 0 28 v0 rfl rfl) h0
 obtain ⟨x0_0, cs0, rfl, wf0_0, hk0⟩ := hk0.int
 obtain ⟨x0_1, cs0, rfl, wf0_1, hk0⟩ := hk0.int
 obtain ⟨x0_2, cs0, rfl, wf0_2, hk0⟩ := hk0.int
 obtain ⟨x0_3, cs0, rfl, wf0_3, hk0⟩ := hk0.int
 obtain ⟨x0_4, cs0, rfl, wf0_4, hk0⟩ := hk0.int
 obtain ⟨x0_5, cs0, rfl, wf0_5, hk0⟩ := hk0.int
 obtain ⟨x0_6, cs0, rfl, wf0_6, hk0⟩ := hk0.int
 obtain ⟨x0_7, cs0, rfl, wf0_7, hk0⟩ := hk0.int
 obtain ⟨x0_8, cs0, rfl, wf0_8, hk0⟩ := hk0.int
 obtain ⟨x0_9, cs0, rfl, wf0_9, hk0⟩ := hk0.int
 obtain ⟨x0_10, cs0, rfl, wf0_10, hk0⟩ := hk0.int
 obtain ⟨x0_11, cs0, rfl, wf0_11, hk0⟩ := hk0.int
 obtain ⟨x0_12, cs0, rfl, wf0_12, hk0⟩ := hk0.int
 obtain ⟨x0_13, cs0, rfl, wf0_13, hk0⟩ := hk0.int
 obtain rfl := hk0.nil
 obtain ⟨cs1, rfl, hk1⟩ := open_plain (Q := fun _ _ => True) (fun _ _ _ _ _ _ _ _ _ => trivial) (n := 10) (ks := [.int .i64, .int .i64, .int .i64, .int .i64, .int .i64, .int .i64, .int .i64, .int .i64, .int .i64, .int .i64, .int .i64, .int .i64, .int .i64, .int .i64, .int .i64, .int .i64]) (by kernel_rfl) (by kernel_rfl) (by kernel_rfl) (hval 1 30 v1 rfl rfl) h1
 obtain ⟨x1_0, cs1, rfl, wf1_0, hk1⟩ := hk1.int
 obtain ⟨x1_1, cs1, rfl, wf1_1, hk1⟩ := hk1.int
 obtain ⟨x1_2, cs1, rfl, wf1_2, hk1⟩ := hk1.int
 obtain ⟨x1_3, cs1, rfl, wf1_3, hk1⟩ := hk1.int
 obtain ⟨x1_4, cs1, rfl, wf1_4, hk1⟩ := hk1.int
 obtain ⟨x1_5, cs1, rfl, wf1_5, hk1⟩ := hk1.int
 obtain ⟨x1_6, cs1, rfl, wf1_6, hk1⟩ := hk1.int
 obtain ⟨x1_7, cs1, rfl, wf1_7, hk1⟩ := hk1.int
 obtain ⟨x1_8, cs1, rfl, wf1_8, hk1⟩ := hk1.int
 obtain ⟨x1_9, cs1, rfl, wf1_9, hk1⟩ := hk1.int
 obtain ⟨x1_10, cs1, rfl, wf1_10, hk1⟩ := hk1.int
 obtain ⟨x1_11, cs1, rfl, wf1_11, hk1⟩ := hk1.int
 obtain ⟨x1_12, cs1, rfl, wf1_12, hk1⟩ := hk1.int
 obtain ⟨x1_13, cs1, rfl, wf1_13, hk1⟩ := hk1.int
 obtain ⟨x1_14, cs1, rfl, wf1_14, hk1⟩ := hk1.int
 obtain ⟨x1_15, cs1, rfl, wf1_15, hk1⟩ := hk1.int
 obtain rfl := hk1.nil
 have hsl2 := okWide_slice Tryz.underlying31 (hval 2 31 v2 rfl rfl)
 have hol2 := open_table hsl2 h2
 obtain ⟨cs3, rfl, hk3⟩ := open_plain (Q := fun _ _ => True) (fun _ _ _ _ _ _ _ _ _ => trivial) (n := 10) (ks := [.int .i64, .int .i64, .int .i64, .int .i64, .int .i64, .int .i64, .int .i64, .int .i64, .int .i64, .int .i64, .int .i64, .int .i64, .int .i64, .int .i64, .int .i64]) (by kernel_rfl) (by kernel_rfl) (by kernel_rfl) (hval 3 33 v3 rfl rfl) h3
 obtain ⟨x3_0, cs3, rfl, wf3_0, hk3⟩ := hk3.int
 obtain ⟨x3_1, cs3, rfl, wf3_1, hk3⟩ := hk3.int
 obtain ⟨x3_2, cs3, rfl, wf3_2, hk3⟩ := hk3.int
 obtain ⟨x3_3, cs3, rfl, wf3_3, hk3⟩ := hk3.int
 obtain ⟨x3_4, cs3, rfl, wf3_4, hk3⟩ := hk3.int
 obtain ⟨x3_5, cs3, rfl, wf3_5, hk3⟩ := hk3.int
 obtain ⟨x3_6, cs3, rfl, wf3_6, hk3⟩ := hk3.int
 obtain ⟨x3_7, cs3, rfl, wf3_7, hk3⟩ := hk3.int
 obtain ⟨x3_8, cs3, rfl, wf3_8, hk3⟩ := hk3.int
 obtain ⟨x3_9, cs3, rfl, wf3_9, hk3⟩ := hk3.int
 obtain ⟨x3_10, cs3, rfl, wf3_10, hk3⟩ := hk3.int
 obtain ⟨x3_11, cs3, rfl, wf3_11, hk3⟩ := hk3.int
 obtain ⟨x3_12, cs3, rfl, wf3_12, hk3⟩ := hk3.int
 obtain ⟨x3_13, cs3, rfl, wf3_13, hk3⟩ := hk3.int
 obtain ⟨x3_14, cs3, rfl, wf3_14, hk3⟩ := hk3.int
 obtain rfl := hk3.nil
 clear hA0 hval0
 simp only [List.append_nil] at hW'
 refine (walk x0_0 x0_1 x0_2 x0_3 x0_4 x0_5 x0_6 x0_7 x0_8 x0_9 x0_10 x0_11 x0_12 x0_13 x1_0 x1_1 x1_2 x1_3 x1_4 x1_5 x1_6 x1_7 x1_8 x1_9 x1_10 x1_11 x1_12 x1_13 x1_14 x1_15 v2 x3_0 x3_1 x3_2 x3_3 x3_4 x3_5 x3_6 x3_7 x3_8 x3_9 x3_10 x3_11 x3_12 x3_13 x3_14 (i64_of_wf wf0_0) (i64_of_wf wf0_1) (i64_of_wf wf0_2) (i64_of_wf wf0_3) (i64_of_wf wf0_4) (i64_of_wf wf0_5) (i64_of_wf wf0_6) (i64_of_wf wf0_7) (i64_of_wf wf0_8) (i64_of_wf wf0_9) (i64_of_wf wf0_10) (i64_of_wf wf0_11) (i64_of_wf wf0_12) (i64_of_wf wf0_13) (i64_of_wf wf1_0) (i64_of_wf wf1_1) (i64_of_wf wf1_2) (i64_of_wf wf1_3) (i64_of_wf wf1_4) (i64_of_wf wf1_5) (i64_of_wf wf1_6) (i64_of_wf wf1_7) (i64_of_wf wf1_8) (i64_of_wf wf1_9) (i64_of_wf wf1_10) (i64_of_wf wf1_11) (i64_of_wf wf1_12) (i64_of_wf wf1_13) (i64_of_wf wf1_14) (i64_of_wf wf1_15) (i64_of_wf wf3_0) (i64_of_wf wf3_1) (i64_of_wf wf3_2) (i64_of_wf wf3_3) (i64_of_wf wf3_4) (i64_of_wf wf3_5) (i64_of_wf wf3_6) (i64_of_wf wf3_7) (i64_of_wf wf3_8) (i64_of_wf wf3_9) (i64_of_wf wf3_10) (i64_of_wf wf3_11) (i64_of_wf wf3_12) (i64_of_wf wf3_13) (i64_of_wf wf3_14) W hol2).mono fun e W' ⟨he, hb⟩ => ?_
 subst he
 exact ⟨_, rfl, _, _, _, [], _, [], hW', (trodAll_cons_mk (shut_bool Tryz.underlying4 _) trodAll_mk0), (trodAll_cons_mk (Below.trod laidOut (by kernel_rfl) (of_decide_eq_true (by kernel_rfl)) h0 hb (fun x hx => hW'.lt x (by simp [hx]))) (trodAll_cons_mk (Below.trod laidOut (by kernel_rfl) (of_decide_eq_true (by kernel_rfl)) h1 hb (fun x hx => hW'.lt x (by simp [hx]))) (trodAll_cons_mk (Below.trod laidOut (by kernel_rfl) (of_decide_eq_true (by kernel_rfl)) h2 hb (fun x hx => hW'.lt x (by simp [hx]))) (trodAll_cons_mk (Below.trod laidOut (by kernel_rfl) (of_decide_eq_true (by kernel_rfl)) h3 hb (fun x hx => hW'.lt x (by simp [hx]))) trodAll_mk0)))), rfl, hb.frame _, fun h => by cases h⟩
theorem holds : Rows.FlightAsksSaid :=
 OpenClaim.holds_of_wide 3 Tryz.f3 rfl rfl rfl rfl rfl rfl rfl ⟨rfl, rfl, rfl, rfl, rfl⟩ rfl rfl rfl rfl rfl (by kernel_rfl) Tryz.func3 (by kernel_rfl)
  (of_decide_eq_true (by kernel_rfl)) (by unfold Func.isWrapper; first | (rw [if_pos (by decide +kernel)]; kernel_rfl) | (rw [if_neg (by decide +kernel)]; exact ⟨rfl, rfl⟩))
  (fun os started H enc _ => lifted os started H enc)
#print axioms holds
end lawFlightAsks
end
end Go.Proofs.YtcjlpgmhlghdkaaGreat
