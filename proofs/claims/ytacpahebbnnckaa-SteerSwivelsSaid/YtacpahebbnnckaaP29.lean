/- Packed: SwK SwL SwM SwN SwO. -/
import Derived.Deep.RegionHeld3
import Derived.Deep.CutRange
import Derived.Test.YtacpahebbnnckaaP7
import Derived.Test.YtacpahebbnnckaaP11
import Derived.Test.YtacpahebbnnckaaP21
import Derived.Test.YtacpahebbnnckaaP27
import Derived.Test.YtacpahebbnnckaaP28
set_option linter.unusedVariables false
set_option linter.unusedSimpArgs false
namespace Go.Proofs.Ytacpahebbnnckaa
section
set_option maxRecDepth 100000
open Go.RowKit
open FP
namespace Sw
abbrev vv (a b : FD.Sp) : Bool := vB a.lo a.hi && vB b.lo b.hi
def stD (a b : FD.Sp) : FD.Sp × Int :=
 (⟨okI (vv a b) (zI (zB b.lo b.hi) (oLo (mi (dL a.lo b.lo b.hi) (dL a.hi b.lo b.hi)) (mx (dH a.lo b.lo b.hi) (dH a.hi b.lo b.hi)))), okI (vv a b) (zI (zB b.lo b.hi) (oHi (mi (dL a.lo b.lo b.hi) (dL a.hi b.lo b.hi)) (mx (dH a.lo b.lo b.hi) (dH a.hi b.lo b.hi)))), SX.okI_R64 (SX.zI_R64 (SX.oLo_R64 _ _)), SX.okI_R64 (SX.zI_R64 (SX.oHi_R64 _ _))⟩,
  errE (vv a b) (zE (zB b.lo b.hi) (oE (mi (dL a.lo b.lo b.hi) (dL a.hi b.lo b.hi)) (mx (dH a.lo b.lo b.hi) (dH a.hi b.lo b.hi)))))
def stM (a b : FD.Sp) : FD.Sp × Int :=
 (⟨okI (vv a b) (oLo (mi (mL a.lo b.lo b.hi) (mL a.hi b.lo b.hi)) (mx (mH a.lo b.lo b.hi) (mH a.hi b.lo b.hi))), okI (vv a b) (oHi (mi (mL a.lo b.lo b.hi) (mL a.hi b.lo b.hi)) (mx (mH a.lo b.lo b.hi) (mH a.hi b.lo b.hi))), SX.okI_R64 (SX.oLo_R64 _ _), SX.okI_R64 (SX.oHi_R64 _ _)⟩,
  errE (vv a b) (oE (mi (mL a.lo b.lo b.hi) (mL a.hi b.lo b.hi)) (mx (mH a.lo b.lo b.hi) (mH a.hi b.lo b.hi))))
def stS (a b : FD.Sp) : FD.Sp × Int :=
 (⟨okI (vv a b) (oLo (a.lo - b.hi) (a.hi - b.lo)), okI (vv a b) (oHi (a.lo - b.hi) (a.hi - b.lo)), SX.okI_R64 (SX.oLo_R64 _ _), SX.okI_R64 (SX.oHi_R64 _ _)⟩, errE (vv a b) (oE (a.lo - b.hi) (a.hi - b.lo)))
theorem mx_64 {a b : Int} (h : FD.In64 a) (k : FD.In64 b) : FD.In64 (mx a b) := by unfold mx; split <;> assumption
theorem mi_64 {a b : Int} (h : FD.In64 a) (k : FD.In64 b) : FD.In64 (mi a b) := by unfold mi; split <;> assumption
def stX (a b : FD.Sp) : FD.Sp × Int :=
 (⟨okI (vv a b) (mx a.lo b.lo), okI (vv a b) (mx a.hi b.hi), SX.okI_R64 (mx_64 a.ok.1 b.ok.1), SX.okI_R64 (mx_64 a.ok.2 b.ok.2)⟩, errE (vv a b) 0)
def stN (a b : FD.Sp) : FD.Sp × Int :=
 (⟨okI (vv a b) (mi a.lo b.lo), okI (vv a b) (mi a.hi b.hi), SX.okI_R64 (mi_64 a.ok.1 b.ok.1), SX.okI_R64 (mi_64 a.ok.2 b.ok.2)⟩, errE (vv a b) 0)
abbrev OpIs (f : FuncId) (g : FD.Sp → FD.Sp → FD.Sp × Int) : Prop := ∀ (a b : FD.Sp) (W : World), Calls Try.prog f #[FD.spv a, FD.spv b] W fun e W' => e = .returned (.tuple #[FD.spv (g a b).1, .int .i64 (g a b).2]) ∧ Below W.heap.size W W'
theorem gD : OpIs 96 stD := fun a b W => div_any a.lo a.hi b.lo b.hi a.ok.1 a.ok.2 b.ok.1 b.ok.2 W
theorem hD : OpIs 101 stD := fun a b W => rdiv_any a.lo a.hi b.lo b.hi a.ok.1 a.ok.2 b.ok.1 b.ok.2 W
theorem gM : OpIs 100 stM := fun a b W => mul_any a.lo a.hi b.lo b.hi a.ok.1 a.ok.2 b.ok.1 b.ok.2 W
theorem hM : OpIs 73 stM := fun a b W => rmul_any a.lo a.hi b.lo b.hi a.ok.1 a.ok.2 b.ok.1 b.ok.2 W
theorem gS : OpIs 99 stS := fun a b W => sub_any a.lo a.hi b.lo b.hi a.ok.1 a.ok.2 b.ok.1 b.ok.2 W
theorem hS : OpIs 74 stS := fun a b W => rsub_any a.lo a.hi b.lo b.hi a.ok.1 a.ok.2 b.ok.1 b.ok.2 W
theorem gX : OpIs 97 stX := fun a b W => most_any a.lo a.hi b.lo b.hi a.ok.1 b.ok.1 W
theorem hX : OpIs 61 stX := fun a b W => rmost_any a.lo a.hi b.lo b.hi W
theorem gN : OpIs 98 stN := fun a b W => least_any a.lo a.hi b.lo b.hi a.ok.1 b.ok.1 W
theorem hN : OpIs 60 stN := fun a b W => rleast_any a.lo a.hi b.lo b.hi W
abbrev Nil (x : FD.Sp × Int) : Prop := ¬ x.2 = 0 → x.1 = .zero
theorem sp_zero {x : FD.Sp} (h : x.lo = 0 ∧ x.hi = 0) : x = .zero := by
 obtain ⟨a, b, c⟩ := x
 obtain ⟨rfl, rfl⟩ := h
 rfl
theorem nD (a b : FD.Sp) : Nil (stD a b) := fun h => sp_zero (SX.zero2 h)
theorem nM (a b : FD.Sp) : Nil (stM a b) := fun h => sp_zero (SX.zero1 h)
theorem nS (a b : FD.Sp) : Nil (stS a b) := fun h => sp_zero (SX.zero1 h)
theorem nX (a b : FD.Sp) : Nil (stX a b) := fun h => sp_zero (SX.zero3 h)
theorem nN (a b : FD.Sp) : Nil (stN a b) := fun h => sp_zero (SX.zero3 h)
def ck (e0 : Int) (x : FD.Sp × Int) : FD.Sp × Int := if e0 = 0 then x else (.zero, e0)
theorem ck_f {e0 : Int} {x : FD.Sp × Int} (h : Nil x) : kpV e0 x.2 x.1.lo = (ck e0 x).1.lo ∧ kpV e0 x.2 x.1.hi = (ck e0 x).1.hi ∧ kpE e0 x.2 = (ck e0 x).2 := by
 unfold kpV kpE ck
 by_cases h0 : e0 = 0
 ·by_cases h1 : x.2 = 0
  ·simp [h0, h1]
  ·simp [h0, h1, h h1, FD.Sp.zero]
 ·simp [h0, FD.Sp.zero]
theorem ck_c {e0 : Int} {x : FD.Sp × Int} : ckV e0 x.1.lo = (ck e0 x).1.lo ∧ ckV e0 x.1.hi = (ck e0 x).1.hi ∧ ckE e0 x.2 = (ck e0 x).2 := by
 unfold ckV ckE ck
 by_cases h0 : e0 = 0
 ·simp [h0]
 ·simp [h0, FD.Sp.zero]
abbrev KeepIs (f : FuncId) (g : FD.Sp → FD.Sp → FD.Sp × Int) : Prop := ∀ (b : Nat) (e0 : Int) (x y : FD.Sp) (w : World), w.cell? ⟨b, 0, none⟩ = some (.int .i64 e0) → w.frozen? ⟨b, 0, none⟩ = false → b < w.heap.size →
  Calls Try.prog f #[.pointer (some ⟨b, 0, none⟩), FD.spv x, FD.spv y] w fun r w' => r = .returned (FD.spv (ck e0 (g x y)).1) ∧ Below (w.setCell ⟨b, 0, none⟩ (.int .i64 (ck e0 (g x y)).2)).heap.size (w.setCell ⟨b, 0, none⟩ (.int .i64 (ck e0 (g x y)).2)) w'
theorem fD : KeepIs 50 stD := fun b e0 x y w hc hf hb => by
 have h := fdiv_any b e0 x.lo x.hi y.lo y.hi (stD x y).1.lo (stD x y).1.hi (stD x y).2 (gD x y) w hc hf hb
 obtain ⟨k1, k2, k3⟩ := ck_f (e0 := e0) (nD x y)
 rw [k1, k2, k3] at h
 exact h
theorem fM : KeepIs 54 stM := fun b e0 x y w hc hf hb => by
 have h := fmul_any b e0 x.lo x.hi y.lo y.hi (stM x y).1.lo (stM x y).1.hi (stM x y).2 (gM x y) w hc hf hb
 obtain ⟨k1, k2, k3⟩ := ck_f (e0 := e0) (nM x y)
 rw [k1, k2, k3] at h
 exact h
theorem fS : KeepIs 53 stS := fun b e0 x y w hc hf hb => by
 have h := fsub_any b e0 x.lo x.hi y.lo y.hi (stS x y).1.lo (stS x y).1.hi (stS x y).2 (gS x y) w hc hf hb
 obtain ⟨k1, k2, k3⟩ := ck_f (e0 := e0) (nS x y)
 rw [k1, k2, k3] at h
 exact h
theorem fX : KeepIs 51 stX := fun b e0 x y w hc hf hb => by
 have h := fmost_any b e0 x.lo x.hi y.lo y.hi (stX x y).1.lo (stX x y).1.hi (stX x y).2 (gX x y) w hc hf hb
 obtain ⟨k1, k2, k3⟩ := ck_f (e0 := e0) (nX x y)
 rw [k1, k2, k3] at h
 exact h
theorem fN : KeepIs 52 stN := fun b e0 x y w hc hf hb => by
 have h := fleast_any b e0 x.lo x.hi y.lo y.hi (stN x y).1.lo (stN x y).1.hi (stN x y).2 (gN x y) w hc hf hb
 obtain ⟨k1, k2, k3⟩ := ck_f (e0 := e0) (nN x y)
 rw [k1, k2, k3] at h
 exact h
theorem cA : KeepIs 22 stepA := fun b e0 x y w hc hf hb => by
 have h := cAdd_any b e0 x.lo x.hi y.lo y.hi (stepA x y).1.lo (stepA x y).1.hi (stepA x y).2 (rstepA_in x y) w hc hf hb
 obtain ⟨k1, k2, k3⟩ := ck_c (e0 := e0) (x := stepA x y)
 rw [k1, k2, k3] at h
 exact h
theorem cD : KeepIs 59 stD := fun b e0 x y w hc hf hb => by
 have h := cDiv_any b e0 x.lo x.hi y.lo y.hi (stD x y).1.lo (stD x y).1.hi (stD x y).2 (hD x y) w hc hf hb
 obtain ⟨k1, k2, k3⟩ := ck_c (e0 := e0) (x := stD x y)
 rw [k1, k2, k3] at h
 exact h
theorem cM : KeepIs 23 stM := fun b e0 x y w hc hf hb => by
 have h := cMul_any b e0 x.lo x.hi y.lo y.hi (stM x y).1.lo (stM x y).1.hi (stM x y).2 (hM x y) w hc hf hb
 obtain ⟨k1, k2, k3⟩ := ck_c (e0 := e0) (x := stM x y)
 rw [k1, k2, k3] at h
 exact h
theorem cS : KeepIs 24 stS := fun b e0 x y w hc hf hb => by
 have h := cSub_any b e0 x.lo x.hi y.lo y.hi (stS x y).1.lo (stS x y).1.hi (stS x y).2 (hS x y) w hc hf hb
 obtain ⟨k1, k2, k3⟩ := ck_c (e0 := e0) (x := stS x y)
 rw [k1, k2, k3] at h
 exact h
end Sw
end
section
set_option maxRecDepth 100000
open Go.RowKit
open FP
namespace Sw
abbrev none3 (e : Int) : Value := .tuple #[.agg #[.int .i64 (0), .int .i64 (0)], .agg #[.int .i64 (0), .int .i64 (0)], .int .i64 e]

set_option maxHeartbeats 1000000 in
theorem sw_long (A : Option Addr) (n cap : Nat) (lo hi : Nat → Int) (hE : ∀ j, FD.In64 (lo j) ∧ FD.In64 (hi j)) (f : Int) (arm : FD.Sp) (limit want : Int) (hl : FD.In64 limit) (hw : FD.In64 want) (w : World) (hS : SpL w A n lo hi) (h12 : 12 < n) (h20 : n ≤ 20) :
  Calls Try.prog 16 #[.slice A n cap, .int .i64 f, FD.spv arm, .int .i64 limit, .int .i64 want] w fun e w' => e = .returned (none3 3) ∧ Below w.heap.size w w' := by
 go_enter Try.func16, Try.ntmps16
 go_wp2
 refine bodyPost_ret (v := none3 3) (by simp only [results, Try.results16]; go_simp) rfl ⟨rfl, blw_⟩

set_option maxHeartbeats 1000000 in
theorem sw_bad0 (A : Option Addr) (n cap : Nat) (lo hi : Nat → Int) (hE : ∀ j, FD.In64 (lo j) ∧ FD.In64 (hi j)) (f : Int) (arm : FD.Sp) (limit want : Int) (hl : FD.In64 limit) (hw : FD.In64 want) (w : World) (hS : SpL w A n lo hi) (h12 : n ≤ 12) (h0 : (posB n lo hi) = false) :
  Calls Try.prog 16 #[.slice A n cap, .int .i64 f, FD.spv arm, .int .i64 limit, .int .i64 want] w fun e w' => e = .returned (none3 2) ∧ Below w.heap.size w w' := by
 have HS := hide (fun W (hb : Below w.heap.size w W) => hS.below hb)
 have NN := hide (fun W hs => notNegative_any A n cap lo hi (by omega) hE W hs _ h0)
 clear hS hE hl hw h0
 go_enter Try.func16, Try.ntmps16
 go_wp2_with fail
 refine (NN.out _ (HS.out _ blw_)).mono ?_
 rintro e w1 ⟨rfl, hb1⟩
 obtain ⟨hc1, hf1⟩ := bcell hb1
 have hz1 := hb1.size
 try simp only [World.size_alloc, World.size_setCell] at hz1
 try refine zw3 w w1 (by omega) fun _ _ _ _ _ _ => ?_
 have c1_0_0 := zci w1 w.heap.size 0 (arm.lo) (by go_simp)
 have c1_0_1 := zci w1 w.heap.size 1 (arm.hi) (by go_simp)
 have c1_1_0 := zci w1 (w.heap.size + 1) 0 (0) (by go_simp)
 have g1_1_0 := zfe w1 (w.heap.size + 1) 0 (by go_simp)
 have c1_1_1 := zci w1 (w.heap.size + 1) 1 (0) (by go_simp)
 have g1_1_1 := zfe w1 (w.heap.size + 1) 1 (by go_simp)
 have c1_2_0 := zci w1 (w.heap.size + 1 + 1) 0 (0) (by go_simp)
 have g1_2_0 := zfe w1 (w.heap.size + 1 + 1) 0 (by go_simp)
 have c1_2_1 := zci w1 (w.heap.size + 1 + 1) 1 (0) (by go_simp)
 have g1_2_1 := zfe w1 (w.heap.size + 1 + 1) 1 (by go_simp)
 clear hc1 hf1
 go_wp2
 refine bodyPost_ret (v := none3 2) (by simp only [results, Try.results16]; go_simp) rfl ⟨rfl, blw_⟩
set_option maxHeartbeats 1000000 in
theorem sw_bad1 (A : Option Addr) (n cap : Nat) (lo hi : Nat → Int) (hE : ∀ j, FD.In64 (lo j) ∧ FD.In64 (hi j)) (f : Int) (arm : FD.Sp) (limit want : Int) (hl : FD.In64 limit) (hw : FD.In64 want) (w : World) (hS : SpL w A n lo hi) (h12 : n ≤ 12) (h0 : (posB n lo hi) = true) (h1 : (orderI arm.lo arm.hi 0 0 == 1) = false) :
  Calls Try.prog 16 #[.slice A n cap, .int .i64 f, FD.spv arm, .int .i64 limit, .int .i64 want] w fun e w' => e = .returned (none3 2) ∧ Below w.heap.size w w' := by
 have HS := hide (fun W (hb : Below w.heap.size w W) => hS.below hb)
 have NN := hide (fun W hs => notNegative_any A n cap lo hi (by omega) hE W hs _ h0)
 have PO := hide (fun W => isPositive_any arm.lo arm.hi arm.ok.1.1 W)
 rw [h1] at PO
 clear hS hE hl hw h0 h1
 go_enter Try.func16, Try.ntmps16
 go_wp2_with fail
 refine (NN.out _ (HS.out _ blw_)).mono ?_
 rintro e w1 ⟨rfl, hb1⟩
 obtain ⟨hc1, hf1⟩ := bcell hb1
 have hz1 := hb1.size
 try simp only [World.size_alloc, World.size_setCell] at hz1
 try refine zw3 w w1 (by omega) fun _ _ _ _ _ _ => ?_
 have c1_0_0 := zci w1 w.heap.size 0 (arm.lo) (by go_simp)
 have c1_0_1 := zci w1 w.heap.size 1 (arm.hi) (by go_simp)
 have c1_1_0 := zci w1 (w.heap.size + 1) 0 (0) (by go_simp)
 have g1_1_0 := zfe w1 (w.heap.size + 1) 0 (by go_simp)
 have c1_1_1 := zci w1 (w.heap.size + 1) 1 (0) (by go_simp)
 have g1_1_1 := zfe w1 (w.heap.size + 1) 1 (by go_simp)
 have c1_2_0 := zci w1 (w.heap.size + 1 + 1) 0 (0) (by go_simp)
 have g1_2_0 := zfe w1 (w.heap.size + 1 + 1) 0 (by go_simp)
 have c1_2_1 := zci w1 (w.heap.size + 1 + 1) 1 (0) (by go_simp)
 have g1_2_1 := zfe w1 (w.heap.size + 1 + 1) 1 (by go_simp)
 clear hc1 hf1
 go_wp2_with fail
 refine (PO.out _).mono ?_
 rintro e w2 ⟨rfl, hb2⟩
 obtain ⟨hc2, hf2⟩ := bcell hb2
 have hz2 := hb2.size
 try simp only [World.size_alloc, World.size_setCell] at hz2
 try refine zw3 w w2 (by omega) fun _ _ _ _ _ _ => ?_
 have c2_0_0 := zci w2 w.heap.size 0 (arm.lo) (by go_simp)
 have c2_0_1 := zci w2 w.heap.size 1 (arm.hi) (by go_simp)
 have c2_1_0 := zci w2 (w.heap.size + 1) 0 (0) (by go_simp)
 have g2_1_0 := zfe w2 (w.heap.size + 1) 0 (by go_simp)
 have c2_1_1 := zci w2 (w.heap.size + 1) 1 (0) (by go_simp)
 have g2_1_1 := zfe w2 (w.heap.size + 1) 1 (by go_simp)
 have c2_2_0 := zci w2 (w.heap.size + 1 + 1) 0 (0) (by go_simp)
 have g2_2_0 := zfe w2 (w.heap.size + 1 + 1) 0 (by go_simp)
 have c2_2_1 := zci w2 (w.heap.size + 1 + 1) 1 (0) (by go_simp)
 have g2_2_1 := zfe w2 (w.heap.size + 1 + 1) 1 (by go_simp)
 clear hc2 hf2 c1_0_0 c1_0_1 c1_1_0 g1_1_0 c1_1_1 g1_1_1 c1_2_0 g1_2_0 c1_2_1 g1_2_1
 go_wp2
 refine bodyPost_ret (v := none3 2) (by simp only [results, Try.results16]; go_simp) rfl ⟨rfl, blw_⟩
set_option maxHeartbeats 1000000 in
theorem sw_bad2 (A : Option Addr) (n cap : Nat) (lo hi : Nat → Int) (hE : ∀ j, FD.In64 (lo j) ∧ FD.In64 (hi j)) (f : Int) (arm : FD.Sp) (limit want : Int) (hl : FD.In64 limit) (hw : FD.In64 want) (w : World) (hS : SpL w A n lo hi) (h12 : n ≤ 12) (h0 : (posB n lo hi) = true) (h1 : (orderI arm.lo arm.hi 0 0 == 1) = true) (hL : limit < 0) :
  Calls Try.prog 16 #[.slice A n cap, .int .i64 f, FD.spv arm, .int .i64 limit, .int .i64 want] w fun e w' => e = .returned (none3 2) ∧ Below w.heap.size w w' := by
 have HS := hide (fun W (hb : Below w.heap.size w W) => hS.below hb)
 have NN := hide (fun W hs => notNegative_any A n cap lo hi (by omega) hE W hs _ h0)
 have PO := hide (fun W => isPositive_any arm.lo arm.hi arm.ok.1.1 W)
 rw [h1] at PO
 clear hS hE hl hw h0 h1
 go_enter Try.func16, Try.ntmps16
 go_wp2_with fail
 refine (NN.out _ (HS.out _ blw_)).mono ?_
 rintro e w1 ⟨rfl, hb1⟩
 obtain ⟨hc1, hf1⟩ := bcell hb1
 have hz1 := hb1.size
 try simp only [World.size_alloc, World.size_setCell] at hz1
 try refine zw3 w w1 (by omega) fun _ _ _ _ _ _ => ?_
 have c1_0_0 := zci w1 w.heap.size 0 (arm.lo) (by go_simp)
 have c1_0_1 := zci w1 w.heap.size 1 (arm.hi) (by go_simp)
 have c1_1_0 := zci w1 (w.heap.size + 1) 0 (0) (by go_simp)
 have g1_1_0 := zfe w1 (w.heap.size + 1) 0 (by go_simp)
 have c1_1_1 := zci w1 (w.heap.size + 1) 1 (0) (by go_simp)
 have g1_1_1 := zfe w1 (w.heap.size + 1) 1 (by go_simp)
 have c1_2_0 := zci w1 (w.heap.size + 1 + 1) 0 (0) (by go_simp)
 have g1_2_0 := zfe w1 (w.heap.size + 1 + 1) 0 (by go_simp)
 have c1_2_1 := zci w1 (w.heap.size + 1 + 1) 1 (0) (by go_simp)
 have g1_2_1 := zfe w1 (w.heap.size + 1 + 1) 1 (by go_simp)
 clear hc1 hf1
 go_wp2_with fail
 refine (PO.out _).mono ?_
 rintro e w2 ⟨rfl, hb2⟩
 obtain ⟨hc2, hf2⟩ := bcell hb2
 have hz2 := hb2.size
 try simp only [World.size_alloc, World.size_setCell] at hz2
 try refine zw3 w w2 (by omega) fun _ _ _ _ _ _ => ?_
 have c2_0_0 := zci w2 w.heap.size 0 (arm.lo) (by go_simp)
 have c2_0_1 := zci w2 w.heap.size 1 (arm.hi) (by go_simp)
 have c2_1_0 := zci w2 (w.heap.size + 1) 0 (0) (by go_simp)
 have g2_1_0 := zfe w2 (w.heap.size + 1) 0 (by go_simp)
 have c2_1_1 := zci w2 (w.heap.size + 1) 1 (0) (by go_simp)
 have g2_1_1 := zfe w2 (w.heap.size + 1) 1 (by go_simp)
 have c2_2_0 := zci w2 (w.heap.size + 1 + 1) 0 (0) (by go_simp)
 have g2_2_0 := zfe w2 (w.heap.size + 1 + 1) 0 (by go_simp)
 have c2_2_1 := zci w2 (w.heap.size + 1 + 1) 1 (0) (by go_simp)
 have g2_2_1 := zfe w2 (w.heap.size + 1 + 1) 1 (by go_simp)
 clear hc2 hf2 c1_0_0 c1_0_1 c1_1_0 g1_1_0 c1_1_1 g1_1_1 c1_2_0 g1_2_0 c1_2_1 g1_2_1
 go_wp2
 refine bodyPost_ret (v := none3 2) (by simp only [results, Try.results16]; go_simp) rfl ⟨rfl, blw_⟩
set_option maxHeartbeats 1000000 in
theorem sw_bad3 (A : Option Addr) (n cap : Nat) (lo hi : Nat → Int) (hE : ∀ j, FD.In64 (lo j) ∧ FD.In64 (hi j)) (f : Int) (arm : FD.Sp) (limit want : Int) (hl : FD.In64 limit) (hw : FD.In64 want) (w : World) (hS : SpL w A n lo hi) (h12 : n ≤ 12) (h0 : (posB n lo hi) = true) (h1 : (orderI arm.lo arm.hi 0 0 == 1) = true) (hL : 0 ≤ limit) (h3 : (numB want) = false) :
  Calls Try.prog 16 #[.slice A n cap, .int .i64 f, FD.spv arm, .int .i64 limit, .int .i64 want] w fun e w' => e = .returned (none3 2) ∧ Below w.heap.size w w' := by
 have HS := hide (fun W (hb : Below w.heap.size w W) => hS.below hb)
 have NN := hide (fun W hs => notNegative_any A n cap lo hi (by omega) hE W hs _ h0)
 have PO := hide (fun W => isPositive_any arm.lo arm.hi arm.ok.1.1 W)
 rw [h1] at PO
 have NU := hide (fun W => isNumber_any want hw W)
 rw [h3] at NU
 clear hS hE hl hw h0 h1 h3
 go_enter Try.func16, Try.ntmps16
 go_wp2_with fail
 refine (NN.out _ (HS.out _ blw_)).mono ?_
 rintro e w1 ⟨rfl, hb1⟩
 obtain ⟨hc1, hf1⟩ := bcell hb1
 have hz1 := hb1.size
 try simp only [World.size_alloc, World.size_setCell] at hz1
 try refine zw3 w w1 (by omega) fun _ _ _ _ _ _ => ?_
 have c1_0_0 := zci w1 w.heap.size 0 (arm.lo) (by go_simp)
 have c1_0_1 := zci w1 w.heap.size 1 (arm.hi) (by go_simp)
 have c1_1_0 := zci w1 (w.heap.size + 1) 0 (0) (by go_simp)
 have g1_1_0 := zfe w1 (w.heap.size + 1) 0 (by go_simp)
 have c1_1_1 := zci w1 (w.heap.size + 1) 1 (0) (by go_simp)
 have g1_1_1 := zfe w1 (w.heap.size + 1) 1 (by go_simp)
 have c1_2_0 := zci w1 (w.heap.size + 1 + 1) 0 (0) (by go_simp)
 have g1_2_0 := zfe w1 (w.heap.size + 1 + 1) 0 (by go_simp)
 have c1_2_1 := zci w1 (w.heap.size + 1 + 1) 1 (0) (by go_simp)
 have g1_2_1 := zfe w1 (w.heap.size + 1 + 1) 1 (by go_simp)
 clear hc1 hf1
 go_wp2_with fail
 refine (PO.out _).mono ?_
 rintro e w2 ⟨rfl, hb2⟩
 obtain ⟨hc2, hf2⟩ := bcell hb2
 have hz2 := hb2.size
 try simp only [World.size_alloc, World.size_setCell] at hz2
 try refine zw3 w w2 (by omega) fun _ _ _ _ _ _ => ?_
 have c2_0_0 := zci w2 w.heap.size 0 (arm.lo) (by go_simp)
 have c2_0_1 := zci w2 w.heap.size 1 (arm.hi) (by go_simp)
 have c2_1_0 := zci w2 (w.heap.size + 1) 0 (0) (by go_simp)
 have g2_1_0 := zfe w2 (w.heap.size + 1) 0 (by go_simp)
 have c2_1_1 := zci w2 (w.heap.size + 1) 1 (0) (by go_simp)
 have g2_1_1 := zfe w2 (w.heap.size + 1) 1 (by go_simp)
 have c2_2_0 := zci w2 (w.heap.size + 1 + 1) 0 (0) (by go_simp)
 have g2_2_0 := zfe w2 (w.heap.size + 1 + 1) 0 (by go_simp)
 have c2_2_1 := zci w2 (w.heap.size + 1 + 1) 1 (0) (by go_simp)
 have g2_2_1 := zfe w2 (w.heap.size + 1 + 1) 1 (by go_simp)
 clear hc2 hf2 c1_0_0 c1_0_1 c1_1_0 g1_1_0 c1_1_1 g1_1_1 c1_2_0 g1_2_0 c1_2_1 g1_2_1
 go_wp2_with fail
 refine (NU.out _).mono ?_
 rintro e w3 ⟨rfl, hb3⟩
 obtain ⟨hc3, hf3⟩ := bcell hb3
 have hz3 := hb3.size
 try simp only [World.size_alloc, World.size_setCell] at hz3
 try refine zw3 w w3 (by omega) fun _ _ _ _ _ _ => ?_
 have c3_0_0 := zci w3 w.heap.size 0 (arm.lo) (by go_simp)
 have c3_0_1 := zci w3 w.heap.size 1 (arm.hi) (by go_simp)
 have c3_1_0 := zci w3 (w.heap.size + 1) 0 (0) (by go_simp)
 have g3_1_0 := zfe w3 (w.heap.size + 1) 0 (by go_simp)
 have c3_1_1 := zci w3 (w.heap.size + 1) 1 (0) (by go_simp)
 have g3_1_1 := zfe w3 (w.heap.size + 1) 1 (by go_simp)
 have c3_2_0 := zci w3 (w.heap.size + 1 + 1) 0 (0) (by go_simp)
 have g3_2_0 := zfe w3 (w.heap.size + 1 + 1) 0 (by go_simp)
 have c3_2_1 := zci w3 (w.heap.size + 1 + 1) 1 (0) (by go_simp)
 have g3_2_1 := zfe w3 (w.heap.size + 1 + 1) 1 (by go_simp)
 clear hc3 hf3 c2_0_0 c2_0_1 c2_1_0 g2_1_0 c2_1_1 g2_1_1 c2_2_0 g2_2_0 c2_2_1 g2_2_1
 go_wp2
 refine bodyPost_ret (v := none3 2) (by simp only [results, Try.results16]; go_simp) rfl ⟨rfl, blw_⟩
set_option maxHeartbeats 1000000 in
theorem sw_bad4 (A : Option Addr) (n cap : Nat) (lo hi : Nat → Int) (hE : ∀ j, FD.In64 (lo j) ∧ FD.In64 (hi j)) (f : Int) (arm : FD.Sp) (limit want : Int) (hl : FD.In64 limit) (hw : FD.In64 want) (w : World) (hS : SpL w A n lo hi) (h12 : n ≤ 12) (h0 : (posB n lo hi) = true) (h1 : (orderI arm.lo arm.hi 0 0 == 1) = true) (hL : 0 ≤ limit) (h3 : (numB want) = true) (h4 : (decide (0 ≤ f ∧ f < 2 ^ n)) = false) :
  Calls Try.prog 16 #[.slice A n cap, .int .i64 f, FD.spv arm, .int .i64 limit, .int .i64 want] w fun e w' => e = .returned (none3 2) ∧ Below w.heap.size w w' := by
 have HS := hide (fun W (hb : Below w.heap.size w W) => hS.below hb)
 have NN := hide (fun W hs => notNegative_any A n cap lo hi (by omega) hE W hs _ h0)
 have PO := hide (fun W => isPositive_any arm.lo arm.hi arm.ok.1.1 W)
 rw [h1] at PO
 have NU := hide (fun W => isNumber_any want hw W)
 rw [h3] at NU
 have MA := hide (fun W => isMask_any f n (by omega) W)
 rw [h4] at MA
 clear hS hE hl hw h0 h1 h3 h4
 go_enter Try.func16, Try.ntmps16
 go_wp2_with fail
 refine (NN.out _ (HS.out _ blw_)).mono ?_
 rintro e w1 ⟨rfl, hb1⟩
 obtain ⟨hc1, hf1⟩ := bcell hb1
 have hz1 := hb1.size
 try simp only [World.size_alloc, World.size_setCell] at hz1
 try refine zw3 w w1 (by omega) fun _ _ _ _ _ _ => ?_
 have c1_0_0 := zci w1 w.heap.size 0 (arm.lo) (by go_simp)
 have c1_0_1 := zci w1 w.heap.size 1 (arm.hi) (by go_simp)
 have c1_1_0 := zci w1 (w.heap.size + 1) 0 (0) (by go_simp)
 have g1_1_0 := zfe w1 (w.heap.size + 1) 0 (by go_simp)
 have c1_1_1 := zci w1 (w.heap.size + 1) 1 (0) (by go_simp)
 have g1_1_1 := zfe w1 (w.heap.size + 1) 1 (by go_simp)
 have c1_2_0 := zci w1 (w.heap.size + 1 + 1) 0 (0) (by go_simp)
 have g1_2_0 := zfe w1 (w.heap.size + 1 + 1) 0 (by go_simp)
 have c1_2_1 := zci w1 (w.heap.size + 1 + 1) 1 (0) (by go_simp)
 have g1_2_1 := zfe w1 (w.heap.size + 1 + 1) 1 (by go_simp)
 clear hc1 hf1
 go_wp2_with fail
 refine (PO.out _).mono ?_
 rintro e w2 ⟨rfl, hb2⟩
 obtain ⟨hc2, hf2⟩ := bcell hb2
 have hz2 := hb2.size
 try simp only [World.size_alloc, World.size_setCell] at hz2
 try refine zw3 w w2 (by omega) fun _ _ _ _ _ _ => ?_
 have c2_0_0 := zci w2 w.heap.size 0 (arm.lo) (by go_simp)
 have c2_0_1 := zci w2 w.heap.size 1 (arm.hi) (by go_simp)
 have c2_1_0 := zci w2 (w.heap.size + 1) 0 (0) (by go_simp)
 have g2_1_0 := zfe w2 (w.heap.size + 1) 0 (by go_simp)
 have c2_1_1 := zci w2 (w.heap.size + 1) 1 (0) (by go_simp)
 have g2_1_1 := zfe w2 (w.heap.size + 1) 1 (by go_simp)
 have c2_2_0 := zci w2 (w.heap.size + 1 + 1) 0 (0) (by go_simp)
 have g2_2_0 := zfe w2 (w.heap.size + 1 + 1) 0 (by go_simp)
 have c2_2_1 := zci w2 (w.heap.size + 1 + 1) 1 (0) (by go_simp)
 have g2_2_1 := zfe w2 (w.heap.size + 1 + 1) 1 (by go_simp)
 clear hc2 hf2 c1_0_0 c1_0_1 c1_1_0 g1_1_0 c1_1_1 g1_1_1 c1_2_0 g1_2_0 c1_2_1 g1_2_1
 go_wp2_with fail
 refine (NU.out _).mono ?_
 rintro e w3 ⟨rfl, hb3⟩
 obtain ⟨hc3, hf3⟩ := bcell hb3
 have hz3 := hb3.size
 try simp only [World.size_alloc, World.size_setCell] at hz3
 try refine zw3 w w3 (by omega) fun _ _ _ _ _ _ => ?_
 have c3_0_0 := zci w3 w.heap.size 0 (arm.lo) (by go_simp)
 have c3_0_1 := zci w3 w.heap.size 1 (arm.hi) (by go_simp)
 have c3_1_0 := zci w3 (w.heap.size + 1) 0 (0) (by go_simp)
 have g3_1_0 := zfe w3 (w.heap.size + 1) 0 (by go_simp)
 have c3_1_1 := zci w3 (w.heap.size + 1) 1 (0) (by go_simp)
 have g3_1_1 := zfe w3 (w.heap.size + 1) 1 (by go_simp)
 have c3_2_0 := zci w3 (w.heap.size + 1 + 1) 0 (0) (by go_simp)
 have g3_2_0 := zfe w3 (w.heap.size + 1 + 1) 0 (by go_simp)
 have c3_2_1 := zci w3 (w.heap.size + 1 + 1) 1 (0) (by go_simp)
 have g3_2_1 := zfe w3 (w.heap.size + 1 + 1) 1 (by go_simp)
 clear hc3 hf3 c2_0_0 c2_0_1 c2_1_0 g2_1_0 c2_1_1 g2_1_1 c2_2_0 g2_2_0 c2_2_1 g2_2_1
 go_wp2_with fail
 refine (MA.out _).mono ?_
 rintro e w4 ⟨rfl, hb4⟩
 obtain ⟨hc4, hf4⟩ := bcell hb4
 have hz4 := hb4.size
 try simp only [World.size_alloc, World.size_setCell] at hz4
 try refine zw3 w w4 (by omega) fun _ _ _ _ _ _ => ?_
 have c4_0_0 := zci w4 w.heap.size 0 (arm.lo) (by go_simp)
 have c4_0_1 := zci w4 w.heap.size 1 (arm.hi) (by go_simp)
 have c4_1_0 := zci w4 (w.heap.size + 1) 0 (0) (by go_simp)
 have g4_1_0 := zfe w4 (w.heap.size + 1) 0 (by go_simp)
 have c4_1_1 := zci w4 (w.heap.size + 1) 1 (0) (by go_simp)
 have g4_1_1 := zfe w4 (w.heap.size + 1) 1 (by go_simp)
 have c4_2_0 := zci w4 (w.heap.size + 1 + 1) 0 (0) (by go_simp)
 have g4_2_0 := zfe w4 (w.heap.size + 1 + 1) 0 (by go_simp)
 have c4_2_1 := zci w4 (w.heap.size + 1 + 1) 1 (0) (by go_simp)
 have g4_2_1 := zfe w4 (w.heap.size + 1 + 1) 1 (by go_simp)
 clear hc4 hf4 c3_0_0 c3_0_1 c3_1_0 g3_1_0 c3_1_1 g3_1_1 c3_2_0 g3_2_0 c3_2_1 g3_2_1
 go_wp2
 refine bodyPost_ret (v := none3 2) (by simp only [results, Try.results16]; go_simp) rfl ⟨rfl, blw_⟩
end Sw
end
section
set_option maxRecDepth 100000
open Go.RowKit
open FP
namespace Sw
def smP (f : Int) (n : Nat) (lo hi : Nat → Int) (hE : ∀ j, FD.In64 (lo j) ∧ FD.In64 (hi j)) : FD.Sp × Int := FD.foldS stepA .zero (keepS f (FD.el lo hi hE) n)
theorem sum_leftP (f : Int) (n : Nat) (lo hi : Nat → Int) (hE : ∀ j, FD.In64 (lo j) ∧ FD.In64 (hi j)) (hn : n ≤ 20) (hp : ∀ j, j < n → vB (lo j) (hi j) = true) (w : World) (base : Nat) (v : Value) (h : w.ownsRow base 24 2 v (keep f lo hi n).length (spC (keep f lo hi n))) :
  Calls Try.prog 47 #[v] w fun e w' => e = .returned (.tuple #[FD.spv (smP f n lo hi hE).1, .int .i64 (smP f n lo hi hE).2]) ∧ Below w.heap.size w w' := sum_left f n lo hi hE hn hp w base v h
theorem pos_lst {n : Nat} {lo hi : Nat → Int} (h : posB n lo hi = true) : ∀ j, j < n → vB (lo j) (hi j) = true ∧ 0 ≤ lo j := fun j hj => by
 have := List.all_eq_true.1 h j (List.mem_range.2 hj)
 simpa using this

set_option maxHeartbeats 2000000 in
theorem sw_sum (A : Option Addr) (n cap : Nat) (lo hi : Nat → Int) (hE : ∀ j, FD.In64 (lo j) ∧ FD.In64 (hi j)) (f : Int) (arm : FD.Sp) (limit want : Int) (hl : FD.In64 limit) (hw : FD.In64 want) (w : World) (hS : SpL w A n lo hi) (h12 : n ≤ 12) (h0 : posB n lo hi = true) (h1 : (orderI arm.lo arm.hi 0 0 == 1) = true) (hL : 0 ≤ limit) (h3 : numB want = true) (hM : 0 ≤ f ∧ f < 2 ^ n) (hs : ¬ (smP f n lo hi hE).2 = 0) :
  Calls Try.prog 16 #[.slice A n cap, .int .i64 f, FD.spv arm, .int .i64 limit, .int .i64 want] w fun e w' => e = .returned (none3 (smP f n lo hi hE).2) ∧ Below w.heap.size w w' := by
 have HS := hide (fun W (hb : Below w.heap.size w W) => hS.below hb)
 have hp := pow_12 (n := n) (by omega)
 have LF := hide (fun W hs => left_any A n cap lo hi f (by omega) (by omega) (by omega) W hs)
 have SL := hide (fun W base v h => sum_leftP f n lo hi hE (by omega) (fun j hj => (pos_lst h0 j hj).1) W base v h)
 have NN := hide (fun W hs => notNegative_any A n cap lo hi (by omega) hE W hs _ h0)
 have PO := hide (fun W => isPositive_any arm.lo arm.hi arm.ok.1.1 W)
 rw [h1] at PO
 have NU := hide (fun W => isNumber_any want hw W)
 rw [h3] at NU
 have MA := hide (fun W => isMask_any f n (by omega) W)
 rw [decide_eq_true hM] at MA
 generalize smP f n lo hi hE = s at *
 obtain ⟨⟨s0, s1, s2⟩, se⟩ := s
 have hs1 : (se == 0) = false := by simpa using hs
 have hs2 : (se != 0) = true := by simpa using hs
 dsimp only [FD.spv] at SL ⊢
 clear hS hl hw h0 h1 h3 hM hp hE
 go_enter Try.func16, Try.ntmps16
 go_wp2_with fail
 refine (NN.out _ (HS.out _ blw_)).mono ?_
 rintro e w1 ⟨rfl, hb1⟩
 obtain ⟨hc1, hf1⟩ := bcell hb1
 have hz1 := hb1.size
 try simp only [World.size_alloc, World.size_setCell] at hz1
 try refine zw3 w w1 (by omega) fun _ _ _ _ _ _ => ?_
 have c1_0_0 := zci w1 w.heap.size 0 (arm.lo) (by go_simp)
 have c1_0_1 := zci w1 w.heap.size 1 (arm.hi) (by go_simp)
 have c1_1_0 := zci w1 (w.heap.size + 1) 0 (0) (by go_simp)
 have g1_1_0 := zfe w1 (w.heap.size + 1) 0 (by go_simp)
 have c1_1_1 := zci w1 (w.heap.size + 1) 1 (0) (by go_simp)
 have g1_1_1 := zfe w1 (w.heap.size + 1) 1 (by go_simp)
 have c1_2_0 := zci w1 (w.heap.size + 1 + 1) 0 (0) (by go_simp)
 have g1_2_0 := zfe w1 (w.heap.size + 1 + 1) 0 (by go_simp)
 have c1_2_1 := zci w1 (w.heap.size + 1 + 1) 1 (0) (by go_simp)
 have g1_2_1 := zfe w1 (w.heap.size + 1 + 1) 1 (by go_simp)
 clear hc1 hf1
 go_wp2_with fail
 refine (PO.out _).mono ?_
 rintro e w2 ⟨rfl, hb2⟩
 obtain ⟨hc2, hf2⟩ := bcell hb2
 have hz2 := hb2.size
 try simp only [World.size_alloc, World.size_setCell] at hz2
 try refine zw3 w w2 (by omega) fun _ _ _ _ _ _ => ?_
 have c2_0_0 := zci w2 w.heap.size 0 (arm.lo) (by go_simp)
 have c2_0_1 := zci w2 w.heap.size 1 (arm.hi) (by go_simp)
 have c2_1_0 := zci w2 (w.heap.size + 1) 0 (0) (by go_simp)
 have g2_1_0 := zfe w2 (w.heap.size + 1) 0 (by go_simp)
 have c2_1_1 := zci w2 (w.heap.size + 1) 1 (0) (by go_simp)
 have g2_1_1 := zfe w2 (w.heap.size + 1) 1 (by go_simp)
 have c2_2_0 := zci w2 (w.heap.size + 1 + 1) 0 (0) (by go_simp)
 have g2_2_0 := zfe w2 (w.heap.size + 1 + 1) 0 (by go_simp)
 have c2_2_1 := zci w2 (w.heap.size + 1 + 1) 1 (0) (by go_simp)
 have g2_2_1 := zfe w2 (w.heap.size + 1 + 1) 1 (by go_simp)
 clear hc2 hf2 c1_0_0 c1_0_1 c1_1_0 g1_1_0 c1_1_1 g1_1_1 c1_2_0 g1_2_0 c1_2_1 g1_2_1
 go_wp2_with fail
 refine (NU.out _).mono ?_
 rintro e w3 ⟨rfl, hb3⟩
 obtain ⟨hc3, hf3⟩ := bcell hb3
 have hz3 := hb3.size
 try simp only [World.size_alloc, World.size_setCell] at hz3
 try refine zw3 w w3 (by omega) fun _ _ _ _ _ _ => ?_
 have c3_0_0 := zci w3 w.heap.size 0 (arm.lo) (by go_simp)
 have c3_0_1 := zci w3 w.heap.size 1 (arm.hi) (by go_simp)
 have c3_1_0 := zci w3 (w.heap.size + 1) 0 (0) (by go_simp)
 have g3_1_0 := zfe w3 (w.heap.size + 1) 0 (by go_simp)
 have c3_1_1 := zci w3 (w.heap.size + 1) 1 (0) (by go_simp)
 have g3_1_1 := zfe w3 (w.heap.size + 1) 1 (by go_simp)
 have c3_2_0 := zci w3 (w.heap.size + 1 + 1) 0 (0) (by go_simp)
 have g3_2_0 := zfe w3 (w.heap.size + 1 + 1) 0 (by go_simp)
 have c3_2_1 := zci w3 (w.heap.size + 1 + 1) 1 (0) (by go_simp)
 have g3_2_1 := zfe w3 (w.heap.size + 1 + 1) 1 (by go_simp)
 clear hc3 hf3 c2_0_0 c2_0_1 c2_1_0 g2_1_0 c2_1_1 g2_1_1 c2_2_0 g2_2_0 c2_2_1 g2_2_1
 go_wp2_with fail
 refine (MA.out _).mono ?_
 rintro e w4 ⟨rfl, hb4⟩
 obtain ⟨hc4, hf4⟩ := bcell hb4
 have hz4 := hb4.size
 try simp only [World.size_alloc, World.size_setCell] at hz4
 try refine zw3 w w4 (by omega) fun _ _ _ _ _ _ => ?_
 have c4_0_0 := zci w4 w.heap.size 0 (arm.lo) (by go_simp)
 have c4_0_1 := zci w4 w.heap.size 1 (arm.hi) (by go_simp)
 have c4_1_0 := zci w4 (w.heap.size + 1) 0 (0) (by go_simp)
 have g4_1_0 := zfe w4 (w.heap.size + 1) 0 (by go_simp)
 have c4_1_1 := zci w4 (w.heap.size + 1) 1 (0) (by go_simp)
 have g4_1_1 := zfe w4 (w.heap.size + 1) 1 (by go_simp)
 have c4_2_0 := zci w4 (w.heap.size + 1 + 1) 0 (0) (by go_simp)
 have g4_2_0 := zfe w4 (w.heap.size + 1 + 1) 0 (by go_simp)
 have c4_2_1 := zci w4 (w.heap.size + 1 + 1) 1 (0) (by go_simp)
 have g4_2_1 := zfe w4 (w.heap.size + 1 + 1) 1 (by go_simp)
 clear hc4 hf4 c3_0_0 c3_0_1 c3_1_0 g3_1_0 c3_1_1 g3_1_1 c3_2_0 g3_2_0 c3_2_1 g3_2_1
 go_wp2_with fail
 refine (LF.out _ (HS.out _ blw_)).mono ?_
 rintro e w5 ⟨v5, rfl, hown, hb5⟩
 have SL5 := hide (fun W h => SL.out W w4.heap.size v5 h)
 clear SL LF
 obtain ⟨hc5, hf5⟩ := bcell hb5
 have hz5 := hb5.size
 try simp only [World.size_alloc, World.size_setCell] at hz5
 have : w.heap.size < w5.heap.size := by omega
 have : w.heap.size < w5.heap.size + 1 := by omega
 have : w.heap.size < w5.heap.size + 1 + 1 := by omega
 have : w.heap.size ≤ w5.heap.size := by omega
 have : w.heap.size + 1 < w5.heap.size := by omega
 have : w.heap.size + 1 < w5.heap.size + 1 := by omega
 have : w.heap.size + 1 < w5.heap.size + 1 + 1 := by omega
 have : w.heap.size + 1 ≤ w5.heap.size := by omega
 have : w.heap.size + 1 + 1 < w5.heap.size := by omega
 have : w.heap.size + 1 + 1 < w5.heap.size + 1 := by omega
 have : w.heap.size + 1 + 1 < w5.heap.size + 1 + 1 := by omega
 have : w.heap.size + 1 + 1 ≤ w5.heap.size := by omega
 have c5_0_0 := zci w5 w.heap.size 0 (arm.lo) (by go_simp)
 have c5_0_1 := zci w5 w.heap.size 1 (arm.hi) (by go_simp)
 have c5_1_0 := zci w5 (w.heap.size + 1) 0 (0) (by go_simp)
 have g5_1_0 := zfe w5 (w.heap.size + 1) 0 (by go_simp)
 have c5_1_1 := zci w5 (w.heap.size + 1) 1 (0) (by go_simp)
 have g5_1_1 := zfe w5 (w.heap.size + 1) 1 (by go_simp)
 have c5_2_0 := zci w5 (w.heap.size + 1 + 1) 0 (0) (by go_simp)
 have g5_2_0 := zfe w5 (w.heap.size + 1 + 1) 0 (by go_simp)
 have c5_2_1 := zci w5 (w.heap.size + 1 + 1) 1 (0) (by go_simp)
 have g5_2_1 := zfe w5 (w.heap.size + 1 + 1) 1 (by go_simp)
 clear hc5 hf5 c4_0_0 c4_0_1 c4_1_0 g4_1_0 c4_1_1 g4_1_1 c4_2_0 g4_2_0 c4_2_1 g4_2_1
 go_wp2_with fail
 refine (SL5.out _ hown).mono ?_
 rintro e w6 ⟨rfl, hb6⟩
 obtain ⟨hc6, hf6⟩ := bcell hb6
 have hz6 := hb6.size
 try simp only [World.size_alloc, World.size_setCell] at hz6
 have : w.heap.size < w6.heap.size := by omega
 have : w.heap.size < w6.heap.size + 1 := by omega
 have : w.heap.size < w6.heap.size + 1 + 1 := by omega
 have : w.heap.size ≤ w6.heap.size := by omega
 have : w.heap.size + 1 < w6.heap.size := by omega
 have : w.heap.size + 1 < w6.heap.size + 1 := by omega
 have : w.heap.size + 1 < w6.heap.size + 1 + 1 := by omega
 have : w.heap.size + 1 ≤ w6.heap.size := by omega
 have : w.heap.size + 1 + 1 < w6.heap.size := by omega
 have : w.heap.size + 1 + 1 < w6.heap.size + 1 := by omega
 have : w.heap.size + 1 + 1 < w6.heap.size + 1 + 1 := by omega
 have : w.heap.size + 1 + 1 ≤ w6.heap.size := by omega
 have c6_0_0 := zci w6 w.heap.size 0 (arm.lo) (by go_simp)
 have c6_0_1 := zci w6 w.heap.size 1 (arm.hi) (by go_simp)
 have c6_1_0 := zci w6 (w.heap.size + 1) 0 (0) (by go_simp)
 have g6_1_0 := zfe w6 (w.heap.size + 1) 0 (by go_simp)
 have c6_1_1 := zci w6 (w.heap.size + 1) 1 (0) (by go_simp)
 have g6_1_1 := zfe w6 (w.heap.size + 1) 1 (by go_simp)
 have c6_2_0 := zci w6 (w.heap.size + 1 + 1) 0 (0) (by go_simp)
 have g6_2_0 := zfe w6 (w.heap.size + 1 + 1) 0 (by go_simp)
 have c6_2_1 := zci w6 (w.heap.size + 1 + 1) 1 (0) (by go_simp)
 have g6_2_1 := zfe w6 (w.heap.size + 1 + 1) 1 (by go_simp)
 clear hc6 hf6 c5_0_0 c5_0_1 c5_1_0 g5_1_0 c5_1_1 g5_1_1 c5_2_0 g5_2_0 c5_2_1 g5_2_1
 go_wp2
 refine bodyPost_ret (v := none3 se) (by simp only [results, Try.results16]; go_simp) rfl ⟨rfl, blw_⟩
end Sw
end
section
set_option maxRecDepth 100000
open Go.RowKit
open FP
namespace Sw
structure PS (w0 w : World) (a b c d e z : Nat) (arm x y s wp : FD.Sp) (E : Int) : Prop where
 below : Below w0.heap.size w0 w
 la : a < w.heap.size
 lb : b < w.heap.size
 lc : c < w.heap.size
 ld : d < w.heap.size
 le : e < w.heap.size
 lz : z < w.heap.size
 ga : w0.heap.size ≤ a
 gb : w0.heap.size ≤ b
 gc : w0.heap.size ≤ c
 gd : w0.heap.size ≤ d
 ge : w0.heap.size ≤ e
 gz : w0.heap.size ≤ z
 za : ¬ z = a
 zb : ¬ z = b
 zc : ¬ z = c
 zd : ¬ z = d
 ze : ¬ z = e
 ba : ¬ b = a
 bc : ¬ b = c
 bd : ¬ b = d
 be : ¬ b = e
 ca : ¬ c = a
 cd : ¬ c = d
 ce : ¬ c = e
 a0 : w.cell? ⟨a, 0, none⟩ = some (.int .i64 arm.lo)
 a1 : w.cell? ⟨a, 1, none⟩ = some (.int .i64 arm.hi)
 b0 : w.cell? ⟨b, 0, none⟩ = some (.int .i64 x.lo)
 b1 : w.cell? ⟨b, 1, none⟩ = some (.int .i64 x.hi)
 c0 : w.cell? ⟨c, 0, none⟩ = some (.int .i64 y.lo)
 c1 : w.cell? ⟨c, 1, none⟩ = some (.int .i64 y.hi)
 d0 : w.cell? ⟨d, 0, none⟩ = some (.int .i64 s.lo)
 d1 : w.cell? ⟨d, 1, none⟩ = some (.int .i64 s.hi)
 e0 : w.cell? ⟨e, 0, none⟩ = some (.int .i64 wp.lo)
 e1 : w.cell? ⟨e, 1, none⟩ = some (.int .i64 wp.hi)
 z0 : w.cell? ⟨z, 0, none⟩ = some (.int .i64 E)
 fb0 : w.frozen? ⟨b, 0, none⟩ = false
 fb1 : w.frozen? ⟨b, 1, none⟩ = false
 fc0 : w.frozen? ⟨c, 0, none⟩ = false
 fc1 : w.frozen? ⟨c, 1, none⟩ = false
 fz0 : w.frozen? ⟨z, 0, none⟩ = false
section
variable {w0 w w' : World} {a b c d e z : Nat} {arm x y s wp : FD.Sp} {E : Int}
theorem PS.quiet (h : PS w0 w a b c d e z arm x y s wp E) (hb : Below w.heap.size w w') : PS w0 w' a b c d e z arm x y s wp E := by
 have hz := hb.size
 have hc : ∀ k o, k < w.heap.size → w'.cell? ⟨k, o, none⟩ = w.cell? ⟨k, o, none⟩ := (bcell hb).1
 have hf : ∀ k o, k < w.heap.size → w'.frozen? ⟨k, o, none⟩ = w.frozen? ⟨k, o, none⟩ := (bcell hb).2
 have := h.below.size
 exact ⟨h.below.trans (hb.mono this), by have := h.la; omega, by have := h.lb; omega, by have := h.lc; omega, by have := h.ld; omega, by have := h.le; omega, by have := h.lz; omega, h.ga, h.gb, h.gc, h.gd, h.ge, h.gz, h.za, h.zb, h.zc, h.zd, h.ze, h.ba, h.bc, h.bd, h.be, h.ca, h.cd, h.ce,
  (hc _ _ h.la).trans h.a0, (hc _ _ h.la).trans h.a1, (hc _ _ h.lb).trans h.b0, (hc _ _ h.lb).trans h.b1, (hc _ _ h.lc).trans h.c0, (hc _ _ h.lc).trans h.c1, (hc _ _ h.ld).trans h.d0, (hc _ _ h.ld).trans h.d1, (hc _ _ h.le).trans h.e0, (hc _ _ h.le).trans h.e1, (hc _ _ h.lz).trans h.z0,
  (hf _ _ h.lb).trans h.fb0, (hf _ _ h.lb).trans h.fb1, (hf _ _ h.lc).trans h.fc0, (hf _ _ h.lc).trans h.fc1, (hf _ _ h.lz).trans h.fz0⟩
theorem far {w : World} {p k o i : Nat} {v : Value} (h : ¬ p = k) : (w.setCell ⟨p, i, none⟩ v).cell? ⟨k, o, none⟩ = w.cell? ⟨k, o, none⟩ :=
 World.cell?_setCell_other w _ _ v (fun e => h (by simpa using congrArg Addr.block e))
theorem far2 {w : World} {p o i : Nat} {v : Value} (h : ¬ i = o) : (w.setCell ⟨p, i, none⟩ v).cell? ⟨p, o, none⟩ = w.cell? ⟨p, o, none⟩ :=
 World.cell?_setCell_other w _ _ v (fun e => h (by simpa using congrArg Addr.off e))
theorem PS.setz (h : PS w0 w a b c d e z arm x y s wp E) (F : Int) : PS w0 (w.setCell ⟨z, 0, none⟩ (.int .i64 F)) a b c d e z arm x y s wp F := by
 have sz : (w.setCell ⟨z, 0, none⟩ (.int .i64 F)).heap.size = w.heap.size := by simp
 exact ⟨h.below.setCell h.gz _, sz ▸ h.la, sz ▸ h.lb, sz ▸ h.lc, sz ▸ h.ld, sz ▸ h.le, sz ▸ h.lz, h.ga, h.gb, h.gc, h.gd, h.ge, h.gz, h.za, h.zb, h.zc, h.zd, h.ze, h.ba, h.bc, h.bd, h.be, h.ca, h.cd, h.ce,
  (far h.za).trans h.a0, (far h.za).trans h.a1, (far h.zb).trans h.b0, (far h.zb).trans h.b1, (far h.zc).trans h.c0, (far h.zc).trans h.c1, (far h.zd).trans h.d0, (far h.zd).trans h.d1, (far h.ze).trans h.e0, (far h.ze).trans h.e1, World.cell?_setCell_same _ _ _ h.z0,
  by rw [World.frozen?_setCell]; exact h.fb0, by rw [World.frozen?_setCell]; exact h.fb1, by rw [World.frozen?_setCell]; exact h.fc0, by rw [World.frozen?_setCell]; exact h.fc1, by rw [World.frozen?_setCell]; exact h.fz0⟩
theorem PS.call {F : Int} (h : PS w0 w a b c d e z arm x y s wp E) (hb : Below (w.setCell ⟨z, 0, none⟩ (.int .i64 F)).heap.size (w.setCell ⟨z, 0, none⟩ (.int .i64 F)) w') : PS w0 w' a b c d e z arm x y s wp F := (h.setz F).quiet hb
theorem PS.setb (h : PS w0 w a b c d e z arm x y s wp E) (x' : FD.Sp) : PS w0 ((w.setCell ⟨b, 0, none⟩ (.int .i64 x'.lo)).setCell ⟨b, 1, none⟩ (.int .i64 x'.hi)) a b c d e z arm x' y s wp E := by
 have sz : ((w.setCell ⟨b, 0, none⟩ (.int .i64 x'.lo)).setCell ⟨b, 1, none⟩ (.int .i64 x'.hi)).heap.size = w.heap.size := by simp
 have zb' : ¬ b = z := fun q => h.zb q.symm
 exact ⟨(h.below.setCell h.gb _).setCell h.gb _, sz ▸ h.la, sz ▸ h.lb, sz ▸ h.lc, sz ▸ h.ld, sz ▸ h.le, sz ▸ h.lz, h.ga, h.gb, h.gc, h.gd, h.ge, h.gz, h.za, h.zb, h.zc, h.zd, h.ze, h.ba, h.bc, h.bd, h.be, h.ca, h.cd, h.ce,
  ((far h.ba).trans (far h.ba)).trans h.a0, ((far h.ba).trans (far h.ba)).trans h.a1, (far2 (by decide)).trans (World.cell?_setCell_same _ _ _ h.b0), World.cell?_setCell_same _ _ _ ((far2 (by decide)).trans h.b1), ((far h.bc).trans (far h.bc)).trans h.c0, ((far h.bc).trans (far h.bc)).trans h.c1, ((far h.bd).trans (far h.bd)).trans h.d0, ((far h.bd).trans (far h.bd)).trans h.d1, ((far h.be).trans (far h.be)).trans h.e0, ((far h.be).trans (far h.be)).trans h.e1, ((far zb').trans (far zb')).trans h.z0,
  by rw [World.frozen?_setCell, World.frozen?_setCell]; exact h.fb0, by rw [World.frozen?_setCell, World.frozen?_setCell]; exact h.fb1, by rw [World.frozen?_setCell, World.frozen?_setCell]; exact h.fc0, by rw [World.frozen?_setCell, World.frozen?_setCell]; exact h.fc1, by rw [World.frozen?_setCell, World.frozen?_setCell]; exact h.fz0⟩
theorem PS.setc (h : PS w0 w a b c d e z arm x y s wp E) (y' : FD.Sp) : PS w0 ((w.setCell ⟨c, 0, none⟩ (.int .i64 y'.lo)).setCell ⟨c, 1, none⟩ (.int .i64 y'.hi)) a b c d e z arm x y' s wp E := by
 have sz : ((w.setCell ⟨c, 0, none⟩ (.int .i64 y'.lo)).setCell ⟨c, 1, none⟩ (.int .i64 y'.hi)).heap.size = w.heap.size := by simp
 have zc' : ¬ c = z := fun q => h.zc q.symm
 have bc' : ¬ c = b := fun q => h.bc q.symm
 exact ⟨(h.below.setCell h.gc _).setCell h.gc _, sz ▸ h.la, sz ▸ h.lb, sz ▸ h.lc, sz ▸ h.ld, sz ▸ h.le, sz ▸ h.lz, h.ga, h.gb, h.gc, h.gd, h.ge, h.gz, h.za, h.zb, h.zc, h.zd, h.ze, h.ba, h.bc, h.bd, h.be, h.ca, h.cd, h.ce,
  ((far h.ca).trans (far h.ca)).trans h.a0, ((far h.ca).trans (far h.ca)).trans h.a1, ((far bc').trans (far bc')).trans h.b0, ((far bc').trans (far bc')).trans h.b1, (far2 (by decide)).trans (World.cell?_setCell_same _ _ _ h.c0), World.cell?_setCell_same _ _ _ ((far2 (by decide)).trans h.c1), ((far h.cd).trans (far h.cd)).trans h.d0, ((far h.cd).trans (far h.cd)).trans h.d1, ((far h.ce).trans (far h.ce)).trans h.e0, ((far h.ce).trans (far h.ce)).trans h.e1, ((far zc').trans (far zc')).trans h.z0,
  by rw [World.frozen?_setCell, World.frozen?_setCell]; exact h.fb0, by rw [World.frozen?_setCell, World.frozen?_setCell]; exact h.fb1, by rw [World.frozen?_setCell, World.frozen?_setCell]; exact h.fc0, by rw [World.frozen?_setCell, World.frozen?_setCell]; exact h.fc1, by rw [World.frozen?_setCell, World.frozen?_setCell]; exact h.fz0⟩
end

theorem FD_use {w : World} {a b c d e z : Nat} {arm x y s wp : FD.Sp} {p1 p2 : FD.Sp} {E0 : Int} {q : FD.Sp × Int} (eq : ck E0 (stD p1 p2) = q) (W : World) (h : PS w W a b c d e z arm x y s wp E0) : Calls Try.prog 50 #[.pointer (some ⟨z, 0, none⟩), FD.spv p1, FD.spv p2] W fun r w' => r = .returned (FD.spv q.1) ∧ PS w w' a b c d e z arm x y s wp q.2 := by
 subst eq
 refine (fD z E0 p1 p2 W h.z0 h.fz0 h.lz).mono ?_
 rintro r w' ⟨rfl, hb⟩
 exact ⟨rfl, h.call hb⟩
theorem FM_use {w : World} {a b c d e z : Nat} {arm x y s wp : FD.Sp} {p1 p2 : FD.Sp} {E0 : Int} {q : FD.Sp × Int} (eq : ck E0 (stM p1 p2) = q) (W : World) (h : PS w W a b c d e z arm x y s wp E0) : Calls Try.prog 54 #[.pointer (some ⟨z, 0, none⟩), FD.spv p1, FD.spv p2] W fun r w' => r = .returned (FD.spv q.1) ∧ PS w w' a b c d e z arm x y s wp q.2 := by
 subst eq
 refine (fM z E0 p1 p2 W h.z0 h.fz0 h.lz).mono ?_
 rintro r w' ⟨rfl, hb⟩
 exact ⟨rfl, h.call hb⟩
theorem FS_use {w : World} {a b c d e z : Nat} {arm x y s wp : FD.Sp} {p1 p2 : FD.Sp} {E0 : Int} {q : FD.Sp × Int} (eq : ck E0 (stS p1 p2) = q) (W : World) (h : PS w W a b c d e z arm x y s wp E0) : Calls Try.prog 53 #[.pointer (some ⟨z, 0, none⟩), FD.spv p1, FD.spv p2] W fun r w' => r = .returned (FD.spv q.1) ∧ PS w w' a b c d e z arm x y s wp q.2 := by
 subst eq
 refine (fS z E0 p1 p2 W h.z0 h.fz0 h.lz).mono ?_
 rintro r w' ⟨rfl, hb⟩
 exact ⟨rfl, h.call hb⟩
theorem FX_use {w : World} {a b c d e z : Nat} {arm x y s wp : FD.Sp} {p1 p2 : FD.Sp} {E0 : Int} {q : FD.Sp × Int} (eq : ck E0 (stX p1 p2) = q) (W : World) (h : PS w W a b c d e z arm x y s wp E0) : Calls Try.prog 51 #[.pointer (some ⟨z, 0, none⟩), FD.spv p1, FD.spv p2] W fun r w' => r = .returned (FD.spv q.1) ∧ PS w w' a b c d e z arm x y s wp q.2 := by
 subst eq
 refine (fX z E0 p1 p2 W h.z0 h.fz0 h.lz).mono ?_
 rintro r w' ⟨rfl, hb⟩
 exact ⟨rfl, h.call hb⟩
theorem FN_use {w : World} {a b c d e z : Nat} {arm x y s wp : FD.Sp} {p1 p2 : FD.Sp} {E0 : Int} {q : FD.Sp × Int} (eq : ck E0 (stN p1 p2) = q) (W : World) (h : PS w W a b c d e z arm x y s wp E0) : Calls Try.prog 52 #[.pointer (some ⟨z, 0, none⟩), FD.spv p1, FD.spv p2] W fun r w' => r = .returned (FD.spv q.1) ∧ PS w w' a b c d e z arm x y s wp q.2 := by
 subst eq
 refine (fN z E0 p1 p2 W h.z0 h.fz0 h.lz).mono ?_
 rintro r w' ⟨rfl, hb⟩
 exact ⟨rfl, h.call hb⟩
set_option maxHeartbeats 2000000 in
theorem sw_main (A : Option Addr) (n cap : Nat) (lo hi : Nat → Int) (hE : ∀ j, FD.In64 (lo j) ∧ FD.In64 (hi j)) (f : Int) (arm : FD.Sp) (limit want : Int) (hl : FD.In64 limit) (hw : FD.In64 want) (w : World) (hS : SpL w A n lo hi) (h12 : n ≤ 12) (h0 : posB n lo hi = true) (h1 : (orderI arm.lo arm.hi 0 0 == 1) = true) (hL : 0 ≤ limit) (h3 : numB want = true) (hM : 0 ≤ f ∧ f < 2 ^ n) (s wp lm nl : FD.Sp) (hs : smP f n lo hi hE = (s, 0)) (w0 : wp.lo = want) (w1 : wp.hi = want) (l0 : lm.lo = limit) (l1 : lm.hi = limit) (n0 : nl.lo = -limit) (n1 : nl.hi = -limit) (q1 q2 q3 q4 q5 q6 q7 : FD.Sp × Int) (e1 : ck 0 (stD wp s) = q1) (e2 : ck q1.2 (stD q1.1 arm) = q2) (e3 : ck q2.2 (stN lm q2.1) = q3) (e4 : ck q3.2 (stX nl q3.1) = q4) (e5 : ck q4.2 (stM s arm) = q5) (e6 : ck q5.2 (stM q5.1 q4.1) = q6) (e7 : ck q6.2 (stS wp q6.1) = q7) :
  Calls Try.prog 16 #[.slice A n cap, .int .i64 f, FD.spv arm, .int .i64 limit, .int .i64 want] w fun e w' => e = .returned (.tuple #[.agg #[.int .i64 (ckV q7.2 q4.1.lo), .int .i64 (ckV q7.2 q4.1.hi)], .agg #[.int .i64 (ckV q7.2 q7.1.lo), .int .i64 (ckV q7.2 q7.1.hi)], .int .i64 q7.2]) ∧ Below w.heap.size w w' := by
 have HS := hide (fun W (hb : Below w.heap.size w W) => hS.below hb)
 have hp := pow_12 (n := n) (by omega)
 have LF := hide (fun W hs => left_any A n cap lo hi f (by omega) (by omega) (by omega) W hs)
 have SL := hide (fun W base v h => sum_leftP f n lo hi hE (by omega) (fun j hj => (pos_lst h0 j hj).1) W base v h)
 have NN := hide (fun W hs => notNegative_any A n cap lo hi (by omega) hE W hs _ h0)
 have PO := hide (fun W => isPositive_any arm.lo arm.hi arm.ok.1.1 W)
 rw [h1] at PO
 have NU := hide (fun W => isNumber_any want hw W)
 rw [h3] at NU
 have MA := hide (fun W => isMask_any f n (by omega) W)
 rw [decide_eq_true hM] at MA
 rw [hs] at SL
 have PT := hide (fun x W => pointU_any x W)
 have F1 := hide (fun (a b c d e z : Nat) (x y : FD.Sp) => FD_use (w := w) (a := a) (b := b) (c := c) (d := d) (e := e) (z := z) (arm := arm) (x := x) (y := y) (s := s) (wp := wp) e1)
 have F2 := hide (fun (a b c d e z : Nat) (x y : FD.Sp) => FD_use (w := w) (a := a) (b := b) (c := c) (d := d) (e := e) (z := z) (arm := arm) (x := x) (y := y) (s := s) (wp := wp) e2)
 have F3 := hide (fun (a b c d e z : Nat) (x y : FD.Sp) => FN_use (w := w) (a := a) (b := b) (c := c) (d := d) (e := e) (z := z) (arm := arm) (x := x) (y := y) (s := s) (wp := wp) e3)
 have F4 := hide (fun (a b c d e z : Nat) (x y : FD.Sp) => FX_use (w := w) (a := a) (b := b) (c := c) (d := d) (e := e) (z := z) (arm := arm) (x := x) (y := y) (s := s) (wp := wp) e4)
 have F5 := hide (fun (a b c d e z : Nat) (x y : FD.Sp) => FM_use (w := w) (a := a) (b := b) (c := c) (d := d) (e := e) (z := z) (arm := arm) (x := x) (y := y) (s := s) (wp := wp) e5)
 have F6 := hide (fun (a b c d e z : Nat) (x y : FD.Sp) => FM_use (w := w) (a := a) (b := b) (c := c) (d := d) (e := e) (z := z) (arm := arm) (x := x) (y := y) (s := s) (wp := wp) e6)
 have F7 := hide (fun (a b c d e z : Nat) (x y : FD.Sp) => FS_use (w := w) (a := a) (b := b) (c := c) (d := d) (e := e) (z := z) (arm := arm) (x := x) (y := y) (s := s) (wp := wp) e7)
 have PN1 : Hid (∀ W, Calls Try.prog 49 #[.int .i64 (wrap64 (-limit))] W fun e w' => e = .returned (FD.spv nl) ∧ Below W.heap.size W w') := hide (fun W => by have hh := pointU_any (wrap64 (-limit)) W; have k : wrap64 (-limit) = -limit := (by obtain ⟨k1, k2⟩ := hl; unfold wrap64; omega); rw [k] at hh ⊢; unfold FD.spv; rw [n0, n1]; exact hh)
 have PN2 : Hid (∀ W, Calls Try.prog 49 #[.int .i64 (IntKind.i64.wrap (-limit))] W fun e w' => e = .returned (FD.spv nl) ∧ Below W.heap.size W w') := hide (fun W => by rw [show IntKind.i64.wrap (-limit) = wrap64 (-limit) from (by rw [IntKind.wrap_i64]; unfold wrap64; omega)]; exact PN1.out W)
 have PL : Hid (∀ W, Calls Try.prog 49 #[.int .i64 limit] W fun e w' => e = .returned (FD.spv lm) ∧ Below W.heap.size W w') := hide (fun W => by have hh := pointU_any limit W; unfold FD.spv; rw [l0, l1]; exact hh)
 have PW : Hid (∀ W, Calls Try.prog 49 #[.int .i64 want] W fun e w' => e = .returned (FD.spv wp) ∧ Below W.heap.size W w') := hide (fun W => by have hh := pointU_any want W; unfold FD.spv; rw [w0, w1]; exact hh)
 have NG : Hid (wrap64 (-limit) = -limit) := hide (by obtain ⟨k1, k2⟩ := hl; unfold wrap64; omega)
 have W0 := hide (And.intro w0 w1)
 have L0 := hide (And.intro l0 l1)
 have N0 := hide (And.intro n0 n1)
 clear hS hl hw h0 h1 h3 hM hp hE hs e1 e2 e3 e4 e5 e6 e7 w0 w1 l0 l1 n0 n1
 go_enter Try.func16, Try.ntmps16
 go_wp2_with fail
 refine (NN.out _ (HS.out _ blw_)).mono ?_
 rintro e w1 ⟨rfl, hb1⟩
 obtain ⟨hc1, hf1⟩ := bcell hb1
 have hz1 := hb1.size
 try simp only [World.size_alloc, World.size_setCell] at hz1
 try refine zw3 w w1 (by omega) fun _ _ _ _ _ _ => ?_
 have c1_0_0 := zci w1 w.heap.size 0 (arm.lo) (by go_simp)
 have c1_0_1 := zci w1 w.heap.size 1 (arm.hi) (by go_simp)
 have c1_1_0 := zci w1 (w.heap.size + 1) 0 (0) (by go_simp)
 have g1_1_0 := zfe w1 (w.heap.size + 1) 0 (by go_simp)
 have c1_1_1 := zci w1 (w.heap.size + 1) 1 (0) (by go_simp)
 have g1_1_1 := zfe w1 (w.heap.size + 1) 1 (by go_simp)
 have c1_2_0 := zci w1 (w.heap.size + 1 + 1) 0 (0) (by go_simp)
 have g1_2_0 := zfe w1 (w.heap.size + 1 + 1) 0 (by go_simp)
 have c1_2_1 := zci w1 (w.heap.size + 1 + 1) 1 (0) (by go_simp)
 have g1_2_1 := zfe w1 (w.heap.size + 1 + 1) 1 (by go_simp)
 clear hc1 hf1
 go_wp2_with fail
 refine (PO.out _).mono ?_
 rintro e w2 ⟨rfl, hb2⟩
 obtain ⟨hc2, hf2⟩ := bcell hb2
 have hz2 := hb2.size
 try simp only [World.size_alloc, World.size_setCell] at hz2
 try refine zw3 w w2 (by omega) fun _ _ _ _ _ _ => ?_
 have c2_0_0 := zci w2 w.heap.size 0 (arm.lo) (by go_simp)
 have c2_0_1 := zci w2 w.heap.size 1 (arm.hi) (by go_simp)
 have c2_1_0 := zci w2 (w.heap.size + 1) 0 (0) (by go_simp)
 have g2_1_0 := zfe w2 (w.heap.size + 1) 0 (by go_simp)
 have c2_1_1 := zci w2 (w.heap.size + 1) 1 (0) (by go_simp)
 have g2_1_1 := zfe w2 (w.heap.size + 1) 1 (by go_simp)
 have c2_2_0 := zci w2 (w.heap.size + 1 + 1) 0 (0) (by go_simp)
 have g2_2_0 := zfe w2 (w.heap.size + 1 + 1) 0 (by go_simp)
 have c2_2_1 := zci w2 (w.heap.size + 1 + 1) 1 (0) (by go_simp)
 have g2_2_1 := zfe w2 (w.heap.size + 1 + 1) 1 (by go_simp)
 clear hc2 hf2 c1_0_0 c1_0_1 c1_1_0 g1_1_0 c1_1_1 g1_1_1 c1_2_0 g1_2_0 c1_2_1 g1_2_1
 go_wp2_with fail
 refine (NU.out _).mono ?_
 rintro e w3 ⟨rfl, hb3⟩
 obtain ⟨hc3, hf3⟩ := bcell hb3
 have hz3 := hb3.size
 try simp only [World.size_alloc, World.size_setCell] at hz3
 try refine zw3 w w3 (by omega) fun _ _ _ _ _ _ => ?_
 have c3_0_0 := zci w3 w.heap.size 0 (arm.lo) (by go_simp)
 have c3_0_1 := zci w3 w.heap.size 1 (arm.hi) (by go_simp)
 have c3_1_0 := zci w3 (w.heap.size + 1) 0 (0) (by go_simp)
 have g3_1_0 := zfe w3 (w.heap.size + 1) 0 (by go_simp)
 have c3_1_1 := zci w3 (w.heap.size + 1) 1 (0) (by go_simp)
 have g3_1_1 := zfe w3 (w.heap.size + 1) 1 (by go_simp)
 have c3_2_0 := zci w3 (w.heap.size + 1 + 1) 0 (0) (by go_simp)
 have g3_2_0 := zfe w3 (w.heap.size + 1 + 1) 0 (by go_simp)
 have c3_2_1 := zci w3 (w.heap.size + 1 + 1) 1 (0) (by go_simp)
 have g3_2_1 := zfe w3 (w.heap.size + 1 + 1) 1 (by go_simp)
 clear hc3 hf3 c2_0_0 c2_0_1 c2_1_0 g2_1_0 c2_1_1 g2_1_1 c2_2_0 g2_2_0 c2_2_1 g2_2_1
 go_wp2_with fail
 refine (MA.out _).mono ?_
 rintro e w4 ⟨rfl, hb4⟩
 obtain ⟨hc4, hf4⟩ := bcell hb4
 have hz4 := hb4.size
 try simp only [World.size_alloc, World.size_setCell] at hz4
 try refine zw3 w w4 (by omega) fun _ _ _ _ _ _ => ?_
 have c4_0_0 := zci w4 w.heap.size 0 (arm.lo) (by go_simp)
 have c4_0_1 := zci w4 w.heap.size 1 (arm.hi) (by go_simp)
 have c4_1_0 := zci w4 (w.heap.size + 1) 0 (0) (by go_simp)
 have g4_1_0 := zfe w4 (w.heap.size + 1) 0 (by go_simp)
 have c4_1_1 := zci w4 (w.heap.size + 1) 1 (0) (by go_simp)
 have g4_1_1 := zfe w4 (w.heap.size + 1) 1 (by go_simp)
 have c4_2_0 := zci w4 (w.heap.size + 1 + 1) 0 (0) (by go_simp)
 have g4_2_0 := zfe w4 (w.heap.size + 1 + 1) 0 (by go_simp)
 have c4_2_1 := zci w4 (w.heap.size + 1 + 1) 1 (0) (by go_simp)
 have g4_2_1 := zfe w4 (w.heap.size + 1 + 1) 1 (by go_simp)
 clear hc4 hf4 c3_0_0 c3_0_1 c3_1_0 g3_1_0 c3_1_1 g3_1_1 c3_2_0 g3_2_0 c3_2_1 g3_2_1
 go_wp2_with fail
 refine (LF.out _ (HS.out _ blw_)).mono ?_
 rintro e w5 ⟨v5, rfl, hown, hb5⟩
 have SL5 := hide (fun W h => SL.out W w4.heap.size v5 h)
 clear SL LF
 obtain ⟨hc5, hf5⟩ := bcell hb5
 have hz5 := hb5.size
 try simp only [World.size_alloc, World.size_setCell] at hz5
 have : w.heap.size < w5.heap.size := by omega
 have : w.heap.size < w5.heap.size + 1 := by omega
 have : w.heap.size < w5.heap.size + 1 + 1 := by omega
 have : w.heap.size ≤ w5.heap.size := by omega
 have : w.heap.size + 1 < w5.heap.size := by omega
 have : w.heap.size + 1 < w5.heap.size + 1 := by omega
 have : w.heap.size + 1 < w5.heap.size + 1 + 1 := by omega
 have : w.heap.size + 1 ≤ w5.heap.size := by omega
 have : w.heap.size + 1 + 1 < w5.heap.size := by omega
 have : w.heap.size + 1 + 1 < w5.heap.size + 1 := by omega
 have : w.heap.size + 1 + 1 < w5.heap.size + 1 + 1 := by omega
 have : w.heap.size + 1 + 1 ≤ w5.heap.size := by omega
 have c5_0_0 := zci w5 w.heap.size 0 (arm.lo) (by go_simp)
 have c5_0_1 := zci w5 w.heap.size 1 (arm.hi) (by go_simp)
 have c5_1_0 := zci w5 (w.heap.size + 1) 0 (0) (by go_simp)
 have g5_1_0 := zfe w5 (w.heap.size + 1) 0 (by go_simp)
 have c5_1_1 := zci w5 (w.heap.size + 1) 1 (0) (by go_simp)
 have g5_1_1 := zfe w5 (w.heap.size + 1) 1 (by go_simp)
 have c5_2_0 := zci w5 (w.heap.size + 1 + 1) 0 (0) (by go_simp)
 have g5_2_0 := zfe w5 (w.heap.size + 1 + 1) 0 (by go_simp)
 have c5_2_1 := zci w5 (w.heap.size + 1 + 1) 1 (0) (by go_simp)
 have g5_2_1 := zfe w5 (w.heap.size + 1 + 1) 1 (by go_simp)
 clear hc5 hf5 c4_0_0 c4_0_1 c4_1_0 g4_1_0 c4_1_1 g4_1_1 c4_2_0 g4_2_0 c4_2_1 g4_2_1
 go_wp2_with fail
 refine (SL5.out _ hown).mono ?_
 rintro e w6 ⟨rfl, hb6⟩
 obtain ⟨hc6, hf6⟩ := bcell hb6
 have hz6 := hb6.size
 try simp only [World.size_alloc, World.size_setCell] at hz6
 have : w.heap.size < w6.heap.size := by omega
 have : w.heap.size < w6.heap.size + 1 := by omega
 have : w.heap.size < w6.heap.size + 1 + 1 := by omega
 have : w.heap.size ≤ w6.heap.size := by omega
 have : w.heap.size + 1 < w6.heap.size := by omega
 have : w.heap.size + 1 < w6.heap.size + 1 := by omega
 have : w.heap.size + 1 < w6.heap.size + 1 + 1 := by omega
 have : w.heap.size + 1 ≤ w6.heap.size := by omega
 have : w.heap.size + 1 + 1 < w6.heap.size := by omega
 have : w.heap.size + 1 + 1 < w6.heap.size + 1 := by omega
 have : w.heap.size + 1 + 1 < w6.heap.size + 1 + 1 := by omega
 have : w.heap.size + 1 + 1 ≤ w6.heap.size := by omega
 have c6_0_0 := zci w6 w.heap.size 0 (arm.lo) (by go_simp)
 have c6_0_1 := zci w6 w.heap.size 1 (arm.hi) (by go_simp)
 have c6_1_0 := zci w6 (w.heap.size + 1) 0 (0) (by go_simp)
 have g6_1_0 := zfe w6 (w.heap.size + 1) 0 (by go_simp)
 have c6_1_1 := zci w6 (w.heap.size + 1) 1 (0) (by go_simp)
 have g6_1_1 := zfe w6 (w.heap.size + 1) 1 (by go_simp)
 have c6_2_0 := zci w6 (w.heap.size + 1 + 1) 0 (0) (by go_simp)
 have g6_2_0 := zfe w6 (w.heap.size + 1 + 1) 0 (by go_simp)
 have c6_2_1 := zci w6 (w.heap.size + 1 + 1) 1 (0) (by go_simp)
 have g6_2_1 := zfe w6 (w.heap.size + 1 + 1) 1 (by go_simp)
 clear hc6 hf6 c5_0_0 c5_0_1 c5_1_0 g5_1_0 c5_1_1 g5_1_1 c5_2_0 g5_2_0 c5_2_1 g5_2_1
 go_upto_region 9 with fail
 go_cut [12, 13, 14, 15] from 16 to 60 (fun s12 s13 s14 s15 wx => ∃ d e z : Nat, s12 = .int .i64 0 ∧ s13 = .pointer (some ⟨d, 0, none⟩) ∧ s14 = .pointer (some ⟨z, 0, none⟩) ∧ s15 = .pointer (some ⟨e, 0, none⟩) ∧ PS w wx w.heap.size (w.heap.size + 1) (w.heap.size + 1 + 1) d e z arm .zero .zero s wp 0)
 case first =>
  go_wp2_with fail
  refine (PW.out _).mono ?_
  rintro e w7 ⟨rfl, hb7⟩
  obtain ⟨hc7, hf7⟩ := bcell hb7
  have hz7 := hb7.size
  try simp only [World.size_alloc, World.size_setCell] at hz7
  have : w.heap.size < w7.heap.size := by omega
  have : w.heap.size < w7.heap.size + 1 := by omega
  have : w.heap.size < w7.heap.size + 1 + 1 := by omega
  have : w.heap.size ≤ w7.heap.size := by omega
  have : w.heap.size + 1 < w7.heap.size := by omega
  have : w.heap.size + 1 < w7.heap.size + 1 := by omega
  have : w.heap.size + 1 < w7.heap.size + 1 + 1 := by omega
  have : w.heap.size + 1 ≤ w7.heap.size := by omega
  have : w.heap.size + 1 + 1 < w7.heap.size := by omega
  have : w.heap.size + 1 + 1 < w7.heap.size + 1 := by omega
  have : w.heap.size + 1 + 1 < w7.heap.size + 1 + 1 := by omega
  have : w.heap.size + 1 + 1 ≤ w7.heap.size := by omega
  have : w6.heap.size < w7.heap.size := by omega
  have : w6.heap.size < w7.heap.size + 1 := by omega
  have : w6.heap.size < w7.heap.size + 1 + 1 := by omega
  have : w6.heap.size ≤ w7.heap.size := by omega
  have : w6.heap.size + 1 < w7.heap.size := by omega
  have : w6.heap.size + 1 < w7.heap.size + 1 := by omega
  have : w6.heap.size + 1 < w7.heap.size + 1 + 1 := by omega
  have : w6.heap.size + 1 ≤ w7.heap.size := by omega
  have c7_0_0 := zci w7 w.heap.size 0 (arm.lo) (by go_simp)
  have c7_0_1 := zci w7 w.heap.size 1 (arm.hi) (by go_simp)
  have c7_1_0 := zci w7 (w.heap.size + 1) 0 (0) (by go_simp)
  have g7_1_0 := zfe w7 (w.heap.size + 1) 0 (by go_simp)
  have c7_1_1 := zci w7 (w.heap.size + 1) 1 (0) (by go_simp)
  have g7_1_1 := zfe w7 (w.heap.size + 1) 1 (by go_simp)
  have c7_2_0 := zci w7 (w.heap.size + 1 + 1) 0 (0) (by go_simp)
  have g7_2_0 := zfe w7 (w.heap.size + 1 + 1) 0 (by go_simp)
  have c7_2_1 := zci w7 (w.heap.size + 1 + 1) 1 (0) (by go_simp)
  have g7_2_1 := zfe w7 (w.heap.size + 1 + 1) 1 (by go_simp)
  have c7_3_0 := zci w7 w6.heap.size 0 (s.lo) (by go_simp)
  have c7_3_1 := zci w7 w6.heap.size 1 (s.hi) (by go_simp)
  have c7_z := zci w7 (w6.heap.size + 1) 0 0 (by go_simp)
  have g7_z := zfe w7 (w6.heap.size + 1) 0 (by go_simp)
  clear hc7 hf7 c6_0_0 c6_0_1 c6_1_0 g6_1_0 c6_1_1 g6_1_1 c6_2_0 g6_2_0 c6_2_1 g6_2_1 
  go_wp2_with fail
  go_meet
  refine ⟨w6.heap.size, w7.heap.size, w6.heap.size + 1, rfl, rfl, rfl, rfl, ⟨blw_, ?_, ?_, ?_, ?_, ?_, ?_, ?_, ?_, ?_, ?_, ?_, ?_, ?_, ?_, ?_, ?_, ?_, ?_, ?_, ?_, ?_, ?_, ?_, ?_, ?_, ?_, ?_, ?_, ?_, ?_, ?_, ?_, ?_, ?_, ?_, ?_, ?_, ?_, ?_, ?_⟩⟩
  all_goals first | omega | (simp only [World.size_alloc, World.size_setCell]; omega) | (go_simp; done) | (simp only [FD.Sp.zero]; go_simp; done)
 case rest =>
  obtain ⟨d, e, z, rfl, rfl, rfl, rfl, hP⟩ := hcut
  clear NN PO NU MA PT HS W0 hb1 hb2 hb3 hb4 hb5 hb6 hown
  go_wp2_with fail
  go_region_held3 (fun w' => w'.cell? ⟨e, 0, none⟩ = some (.int .i64 wp.lo) ∧ w'.cell? ⟨e, 1, none⟩ = some (.int .i64 wp.hi) ∧ w'.cell? ⟨d, 0, none⟩ = some (.int .i64 s.lo) ∧ w'.cell? ⟨d, 1, none⟩ = some (.int .i64 s.hi) ∧ w'.cell? ⟨w.heap.size, 0, none⟩ = some (.int .i64 arm.lo) ∧ w'.cell? ⟨w.heap.size, 1, none⟩ = some (.int .i64 arm.hi))
   (first | exact ⟨(hP9.setb q2.1).e0, (hP9.setb q2.1).e1, (hP9.setb q2.1).d0, (hP9.setb q2.1).d1, (hP9.setb q2.1).a0, (hP9.setb q2.1).a1⟩ | exact ⟨hP9.e0, hP9.e1, hP9.d0, hP9.d1, hP9.a0, hP9.a1⟩ | exact ⟨hP8.e0, hP8.e1, hP8.d0, hP8.d1, hP8.a0, hP8.a1⟩ | exact ⟨(hP.quiet (Below.refl _ _).drew).e0, (hP.quiet (Below.refl _ _).drew).e1, (hP.quiet (Below.refl _ _).drew).d0, (hP.quiet (Below.refl _ _).drew).d1, (hP.quiet (Below.refl _ _).drew).a0, (hP.quiet (Below.refl _ _).drew).a1⟩)
   (first | (go_at_call 50; refine (F2.out w.heap.size (w.heap.size + 1) (w.heap.size + 1 + 1) d e z .zero .zero _ hP8).mono ?_; rintro r w_hP9 ⟨rfl, hP9⟩; have s0_hP9 := hP9.b0; have s1_hP9 := hP9.b1; have s2_hP9 := hP9.fb0; have s3_hP9 := hP9.fb1) | (go_at_call 50; refine (F1.out w.heap.size (w.heap.size + 1) (w.heap.size + 1 + 1) d e z .zero .zero _ (hP.quiet (Below.refl _ _).drew)).mono ?_; rintro r w_hP8 ⟨rfl, hP8⟩; have s0_hP8 := hP8.b0; have s1_hP8 := hP8.b1; have s2_hP8 := hP8.fb0; have s3_hP8 := hP8.fb1))
  have hPa := hP9.setb q2.1
  generalize (w_hP9.setCell ⟨w.heap.size + 1, 0, none⟩ (.int .i64 q2.1.lo)).setCell ⟨w.heap.size + 1, 1, none⟩ (.int .i64 q2.1.hi) = wa at *
  clear hP hP8 hP9 s0_hP8 s1_hP8 s2_hP8 s3_hP8 s0_hP9 s1_hP9 s2_hP9 s3_hP9
  have lb_hPa := hPa.lb
  have b0_hPa := hPa.b0
  have b1_hPa := hPa.b1
  go_wp2_with fail
  refine QT.tail_b 6 (by kernel_rfl) (by kernel_rfl) ?_
  simp only [List.take_succ_cons, List.take_zero, List.drop_succ_cons, List.drop_zero]
  repeat (first
   | go_big_quiet_skip
   | (go_big_quiet_want; go_big_quiet_op; first
    | go_big_quiet_on
    | (apply Exists.intro
       refine ⟨fun _ => ?_, ?_⟩
       ·first
        | rfl
        | (intro hC; obtain ⟨hcq, hfq⟩ := bcellB hC; go_simp; done)
        | (intro hC; obtain ⟨hcq, hfq⟩ := bcellB hC; go_simp; rfl)
        | (intro hC; have hcq := bcellG hC; go_simp; done)
        | (intro hC; have hcq := bcellG hC; go_simp; rfl)
        | (intro hC; go_at_call 49; (first | (with_reducible refine (PN1.out _).mono ?_) | (with_reducible refine (PN2.out _).mono ?_) | (with_reducible refine (PL.out _).mono ?_)); (intro e w2 hw; exact ⟨hw.1, qtrans (by simp) hC hw.2⟩))
       go_big_quiet_on)))
  refine wpQuiet_nil ?_
  intro w9 hC9
  obtain ⟨hc9, hf9⟩ := bcellB hC9
  have hz9 := hC9.size
  have hPb := hPa.quiet hC9
  clear hPa hC9 hc9 hf9 hz9 lb_hPa b0_hPa b1_hPa
  go_wp2_with fail
  refine (F3.out w.heap.size (w.heap.size + 1) (w.heap.size + 1 + 1) d e z q2.1 .zero _ hPb).mono ?_
  rintro r wb ⟨rfl, hPc⟩
  go_wp2_with fail
  refine (F4.out w.heap.size (w.heap.size + 1) (w.heap.size + 1 + 1) d e z q2.1 .zero _ hPc).mono ?_
  rintro r wd ⟨rfl, hPd⟩
  have lb_hPd := hPd.lb
  have b0_hPd := hPd.b0
  have b1_hPd := hPd.b1
  have fb0_hPd := hPd.fb0
  have fb1_hPd := hPd.fb1
  go_wp2_with fail
  have hPe := hPd.setb q4.1
  generalize (wd.setCell ⟨w.heap.size + 1, 0, none⟩ (.int .i64 q4.1.lo)).setCell ⟨w.heap.size + 1, 1, none⟩ (.int .i64 q4.1.hi) = we at *
  clear hPb hPc hPd lb_hPd b0_hPd b1_hPd fb0_hPd fb1_hPd
  go_region_held3 (fun w' => w'.cell? ⟨e, 0, none⟩ = some (.int .i64 wp.lo) ∧ w'.cell? ⟨e, 1, none⟩ = some (.int .i64 wp.hi) ∧ w'.cell? ⟨d, 0, none⟩ = some (.int .i64 s.lo) ∧ w'.cell? ⟨d, 1, none⟩ = some (.int .i64 s.hi) ∧ w'.cell? ⟨w.heap.size, 0, none⟩ = some (.int .i64 arm.lo) ∧ w'.cell? ⟨w.heap.size, 1, none⟩ = some (.int .i64 arm.hi) ∧ w'.cell? ⟨w.heap.size + 1, 0, none⟩ = some (.int .i64 q4.1.lo) ∧ w'.cell? ⟨w.heap.size + 1, 1, none⟩ = some (.int .i64 q4.1.hi))
   (first | exact ⟨(hPf.setc q7.1).e0, (hPf.setc q7.1).e1, (hPf.setc q7.1).d0, (hPf.setc q7.1).d1, (hPf.setc q7.1).a0, (hPf.setc q7.1).a1, (hPf.setc q7.1).b0, (hPf.setc q7.1).b1⟩ | exact ⟨hPf.e0, hPf.e1, hPf.d0, hPf.d1, hPf.a0, hPf.a1, hPf.b0, hPf.b1⟩ | exact ⟨hP9.e0, hP9.e1, hP9.d0, hP9.d1, hP9.a0, hP9.a1, hP9.b0, hP9.b1⟩ | exact ⟨hP8.e0, hP8.e1, hP8.d0, hP8.d1, hP8.a0, hP8.a1, hP8.b0, hP8.b1⟩ | exact ⟨(hPe.quiet (Below.refl _ _).drew).e0, (hPe.quiet (Below.refl _ _).drew).e1, (hPe.quiet (Below.refl _ _).drew).d0, (hPe.quiet (Below.refl _ _).drew).d1, (hPe.quiet (Below.refl _ _).drew).a0, (hPe.quiet (Below.refl _ _).drew).a1, (hPe.quiet (Below.refl _ _).drew).b0, (hPe.quiet (Below.refl _ _).drew).b1⟩)
   (first | (go_at_call 53; refine (F7.out w.heap.size (w.heap.size + 1) (w.heap.size + 1 + 1) d e z q4.1 .zero _ hP9).mono ?_; rintro r w_hPf ⟨rfl, hPf⟩; have s0_hPf := hPf.c0; have s1_hPf := hPf.c1; have s2_hPf := hPf.fc0; have s3_hPf := hPf.fc1) | (go_at_call 54; refine (F6.out w.heap.size (w.heap.size + 1) (w.heap.size + 1 + 1) d e z q4.1 .zero _ hP8).mono ?_; rintro r w_hP9 ⟨rfl, hP9⟩; have s0_hP9 := hP9.c0; have s1_hP9 := hP9.c1; have s2_hP9 := hP9.fc0; have s3_hP9 := hP9.fc1) | (go_at_call 54; refine (F5.out w.heap.size (w.heap.size + 1) (w.heap.size + 1 + 1) d e z q4.1 .zero _ (hPe.quiet (Below.refl _ _).drew)).mono ?_; rintro r w_hP8 ⟨rfl, hP8⟩; have s0_hP8 := hP8.c0; have s1_hP8 := hP8.c1; have s2_hP8 := hP8.fc0; have s3_hP8 := hP8.fc1))
  have hPg := hPf.setc q7.1
  generalize (w_hPf.setCell ⟨w.heap.size + 1 + 1, 0, none⟩ (.int .i64 q7.1.lo)).setCell ⟨w.heap.size + 1 + 1, 1, none⟩ (.int .i64 q7.1.hi) = wg at *
  clear hPe hP8 hP9 hPf s0_hP8 s1_hP8 s2_hP8 s3_hP8 s0_hP9 s1_hP9 s2_hP9 s3_hP9 s0_hPf s1_hPf s2_hPf s3_hPf
  have lb_hPg := hPg.lb
  have lc_hPg := hPg.lc
  have b0_hPg := hPg.b0
  have b1_hPg := hPg.b1
  have c0_hPg := hPg.c0
  have c1_hPg := hPg.c1
  have fb0_hPg := hPg.fb0
  have fb1_hPg := hPg.fb1
  have fc0_hPg := hPg.fc0
  have fc1_hPg := hPg.fc1
  go_wp2_with fail
  refine (results_any z q7.2 q4.1.lo q4.1.hi q7.1.lo q7.1.hi _ hPg.z0 hPg.lz).mono ?_
  rintro r wh ⟨rfl, hbh⟩
  have hPh := hPg.quiet hbh
  clear hPg lb_hPg lc_hPg b0_hPg b1_hPg c0_hPg c1_hPg fb0_hPg fb1_hPg fc0_hPg fc1_hPg
  have below_hPh := hPh.below
  have lb_hPh := hPh.lb
  have lc_hPh := hPh.lc
  have b0_hPh := hPh.b0
  have b1_hPh := hPh.b1
  have c0_hPh := hPh.c0
  have c1_hPh := hPh.c1
  have fb0_hPh := hPh.fb0
  have fb1_hPh := hPh.fb1
  have fc0_hPh := hPh.fc0
  have fc1_hPh := hPh.fc1
  go_wp2
  refine bodyPost_ret (v := .tuple #[.agg #[.int .i64 (ckV q7.2 q4.1.lo), .int .i64 (ckV q7.2 q4.1.hi)], .agg #[.int .i64 (ckV q7.2 q7.1.lo), .int .i64 (ckV q7.2 q7.1.hi)], .int .i64 q7.2]) (by simp only [results, Try.results16]; go_simp) rfl ⟨rfl, blw_⟩
end Sw
end
section
set_option maxRecDepth 100000
open Go.RowKit
open FP
namespace Sw
def Box (W : World) (b : Nat) (x : FD.Sp) : Prop := b < W.heap.size ∧ W.cell? ⟨b, 0, none⟩ = some (.int .i64 x.lo) ∧ W.cell? ⟨b, 1, none⟩ = some (.int .i64 x.hi) ∧ W.frozen? ⟨b, 0, none⟩ = false ∧ W.frozen? ⟨b, 1, none⟩ = false
structure ES (w0 W : World) (z : Nat) (E : Int) (L : List (Nat × FD.Sp)) : Prop where
 below : Below w0.heap.size w0 W
 gz : w0.heap.size ≤ z
 lz : z < W.heap.size
 z0 : W.cell? ⟨z, 0, none⟩ = some (.int .i64 E)
 fz : W.frozen? ⟨z, 0, none⟩ = false
 box : ∀ p ∈ L, Box W p.1 p.2 ∧ ¬ z = p.1 ∧ w0.heap.size ≤ p.1
 nd : L.Pairwise fun p q => ¬ p.1 = q.1
theorem Box.quiet {W W' : World} {b : Nat} {x : FD.Sp} (h : Box W b x) (hb : Below W.heap.size W W') : Box W' b x :=
 ⟨Nat.lt_of_lt_of_le h.1 hb.size, ((bcell hb).1 _ _ h.1).trans h.2.1, ((bcell hb).1 _ _ h.1).trans h.2.2.1, ((bcell hb).2 _ _ h.1).trans h.2.2.2.1, ((bcell hb).2 _ _ h.1).trans h.2.2.2.2⟩
theorem Box.far {W : World} {b k o : Nat} {x : FD.Sp} {v : Value} (h : Box W b x) (hk : ¬ k = b) : Box (W.setCell ⟨k, o, none⟩ v) b x :=
 ⟨by simpa using h.1, (Sw.far hk).trans h.2.1, (Sw.far hk).trans h.2.2.1, by rw [World.frozen?_setCell]; exact h.2.2.2.1, by rw [World.frozen?_setCell]; exact h.2.2.2.2⟩
theorem Box.set {W : World} {b : Nat} {x : FD.Sp} (h : Box W b x) (y : FD.Sp) : Box ((W.setCell ⟨b, 0, none⟩ (.int .i64 y.lo)).setCell ⟨b, 1, none⟩ (.int .i64 y.hi)) b y :=
 ⟨by simpa using h.1, (far2 (by decide)).trans (World.cell?_setCell_same _ _ _ h.2.1), World.cell?_setCell_same _ _ _ ((far2 (by decide)).trans h.2.2.1), by rw [World.frozen?_setCell, World.frozen?_setCell]; exact h.2.2.2.1, by rw [World.frozen?_setCell, World.frozen?_setCell]; exact h.2.2.2.2⟩
theorem Box.new (W : World) (x : FD.Sp) : Box (W.alloc (.cells #[.int .i64 x.lo, .int .i64 x.hi] 24)) W.heap.size x :=
 ⟨by simp, by go_simp, by go_simp, by go_simp, by go_simp⟩
section
variable {w0 W W' : World} {z : Nat} {E : Int} {L : List (Nat × FD.Sp)}
theorem ES.quiet (h : ES w0 W z E L) (hb : Below W.heap.size W W') : ES w0 W' z E L :=
 ⟨h.below.trans (hb.mono h.below.size), h.gz, Nat.lt_of_lt_of_le h.lz hb.size, ((bcell hb).1 _ _ h.lz).trans h.z0, ((bcell hb).2 _ _ h.lz).trans h.fz, fun p hp => ⟨(h.box p hp).1.quiet hb, (h.box p hp).2⟩, h.nd⟩
theorem ES.drew (h : ES w0 W z E L) : ES w0 W.drew z E L := h.quiet (Below.refl _ _).drew
theorem ES.setz (h : ES w0 W z E L) (F : Int) : ES w0 (W.setCell ⟨z, 0, none⟩ (.int .i64 F)) z F L :=
 ⟨h.below.setCell h.gz _, h.gz, by simpa using h.lz, World.cell?_setCell_same _ _ _ h.z0, by rw [World.frozen?_setCell]; exact h.fz, fun p hp => ⟨(h.box p hp).1.far (h.box p hp).2.1, (h.box p hp).2⟩, h.nd⟩
theorem ES.call {F : Int} (h : ES w0 W z E L) (hb : Below (W.setCell ⟨z, 0, none⟩ (.int .i64 F)).heap.size (W.setCell ⟨z, 0, none⟩ (.int .i64 F)) W') : ES w0 W' z F L := (h.setz F).quiet hb
theorem ES.new (h : ES w0 W z E L) (x : FD.Sp) : ES w0 (W.alloc (.cells #[.int .i64 x.lo, .int .i64 x.hi] 24)) z E ((W.heap.size, x) :: L) := by
 have hq := h.quiet ((Below.refl W.heap.size W).alloc (Nat.le_refl _) (.cells #[.int .i64 x.lo, .int .i64 x.hi] 24))
 refine ⟨hq.below, hq.gz, hq.lz, hq.z0, hq.fz, fun p hp => ?_, ?_⟩
 ·rcases List.mem_cons.1 hp with rfl | hp
  ·exact ⟨Box.new W x, Nat.ne_of_lt h.lz, h.below.size⟩
  ·exact hq.box p hp
 ·exact List.pairwise_cons.2 ⟨fun p hp => Nat.ne_of_gt (h.box p hp).1.1, h.nd⟩
theorem ES.new0 (h : ES w0 W z E L) : ES w0 (W.alloc (.cells #[.int .i64 0, .int .i64 0] 24)) z E ((W.heap.size, .zero) :: L) := h.new .zero
theorem ES.head {p : Nat} {x : FD.Sp} (h : ES w0 W z E ((p, x) :: L)) : Box W p x := (h.box _ (List.mem_cons_self ..)).1
theorem ES.sethead {p : Nat} {x : FD.Sp} (h : ES w0 W z E ((p, x) :: L)) (y : FD.Sp) : ES w0 ((W.setCell ⟨p, 0, none⟩ (.int .i64 y.lo)).setCell ⟨p, 1, none⟩ (.int .i64 y.hi)) z E ((p, y) :: L) := by
 obtain ⟨h1, h2, h3⟩ := h.box _ (List.mem_cons_self ..)
 have h2' : ¬ p = z := fun q => h2 q.symm
 obtain ⟨n1, n2⟩ := List.pairwise_cons.1 h.nd
 refine ⟨(h.below.setCell h3 _).setCell h3 _, h.gz, by simpa using h.lz, ((Sw.far h2').trans (Sw.far h2')).trans h.z0, by rw [World.frozen?_setCell, World.frozen?_setCell]; exact h.fz, fun q hq => ?_, List.pairwise_cons.2 ⟨n1, n2⟩⟩
 rcases List.mem_cons.1 hq with rfl | hq
 ·exact ⟨h1.set y, h2, h3⟩
 ·have := h.box q (List.mem_cons_of_mem _ hq)
  exact ⟨(this.1.far (n1 q hq)).far (n1 q hq), this.2⟩
theorem ES.at {p : Nat} {x : FD.Sp} (h : ES w0 W z E L) (hp : (p, x) ∈ L) : Box W p x := (h.box _ hp).1
theorem C_use {f : FuncId} {g : FD.Sp → FD.Sp → FD.Sp × Int} (k : KeepIs f g) {p1 p2 : FD.Sp} {E0 : Int} {q : FD.Sp × Int} (eq : ck E0 (g p1 p2) = q) (W : World) (L : List (Nat × FD.Sp)) (h : ES w0 W z E0 L) :
  Calls Try.prog f #[.pointer (some ⟨z, 0, none⟩), FD.spv p1, FD.spv p2] W fun r w' => r = .returned (FD.spv q.1) ∧ ES w0 w' z q.2 L := by
 subst eq
 refine (k z E0 p1 p2 W h.z0 h.fz h.lz).mono ?_
 rintro r w' ⟨rfl, hb⟩
 exact ⟨rfl, h.call hb⟩
theorem O_use {f : FuncId} {g : FD.Sp → FD.Sp → FD.Sp × Int} (k : OpIs f g) {p1 p2 : FD.Sp} {q : FD.Sp × Int} (eq : g p1 p2 = q) (W : World) (L : List (Nat × FD.Sp)) (E : Int) (h : ES w0 W z E L) :
  Calls Try.prog f #[FD.spv p1, FD.spv p2] W fun r w' => r = .returned (.tuple #[FD.spv q.1, .int .i64 q.2]) ∧ ES w0 w' z E L := by
 subst eq
 refine (k p1 p2 W).mono ?_
 rintro r w' ⟨rfl, hb⟩
 exact ⟨rfl, h.quiet hb⟩
theorem P_use {n : Int} {x : FD.Sp} (h0 : x.lo = n) (h1 : x.hi = n) (W : World) (L : List (Nat × FD.Sp)) (E : Int) (h : ES w0 W z E L) :
  Calls Try.prog 25 #[.int .i64 n] W fun r w' => r = .returned (FD.spv x) ∧ ES w0 w' z E L := by
 refine (dot1_any n W).mono ?_
 rintro r w' ⟨rfl, hb⟩
 obtain ⟨a, b, c⟩ := x
 dsimp only at h0 h1
 subst h0 h1
 exact ⟨rfl, h.quiet hb⟩
end
end Sw
end
end Go.Proofs.Ytacpahebbnnckaa
