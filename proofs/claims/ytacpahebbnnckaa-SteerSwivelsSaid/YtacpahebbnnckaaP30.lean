/- Packed: SwQ SwR SwS. -/
import Derived.Test.YtacpahebbnnckaaP29
set_option linter.unusedVariables false
set_option linter.unusedSimpArgs false
namespace Go.Proofs.Ytacpahebbnnckaa
section
set_option maxRecDepth 100000
open Go.RowKit
open FP
namespace Sw

set_option maxHeartbeats 1000000 in
theorem rw_long (A : Option Addr) (n cap : Nat) (lo hi : Nat → Int) (hE : ∀ j, FD.In64 (lo j) ∧ FD.In64 (hi j)) (f : Int) (arm : FD.Sp) (limit want : Int) (hl : FD.In64 limit) (hw : FD.In64 want) (w : World) (hS : SpL w A n lo hi) (h12 : 12 < n) (h20 : n ≤ 20) :
  Calls Try.prog 17 #[.slice A n cap, .int .i64 f, FD.spv arm, .int .i64 limit, .int .i64 want] w fun e w' => e = .returned (none3 3) ∧ Below w.heap.size w w' := by
 go_enter Try.func17, Try.ntmps17
 go_wp2
 refine bodyPost_ret (v := none3 3) (by simp only [results, Try.results17]; go_simp) rfl ⟨rfl, blw_⟩

set_option maxHeartbeats 1000000 in
theorem rw_a1 (A : Option Addr) (n cap : Nat) (lo hi : Nat → Int) (hE : ∀ j, FD.In64 (lo j) ∧ FD.In64 (hi j)) (f : Int) (arm : FD.Sp) (limit want : Int) (hl : FD.In64 limit) (hw : FD.In64 want) (w : World) (hS : SpL w A n lo hi) (h12 : n ≤ 12) (h0 : lstB n lo hi = false) (h3 : numB want = false) :
  Calls Try.prog 17 #[.slice A n cap, .int .i64 f, FD.spv arm, .int .i64 limit, .int .i64 want] w fun e w' => e = .returned (none3 2) ∧ Below w.heap.size w w' := by
 have HS := hide (fun W (hb : Below w.heap.size w W) => hS.below hb)
 have AL := hide (fun W hs => all_any A n cap lo hi (by omega) W hs _ h0)
 have NU := hide (fun W => number_any want W)
 rw [h3] at NU
 clear hS hE hl hw h0 h3
 go_enter Try.func17, Try.ntmps17
 go_wp2_with fail
 refine (AL.out _ (HS.out _ blw_)).mono ?_
 rintro e w1 ⟨rfl, hb1⟩
 obtain ⟨hc1, hf1⟩ := bcell hb1
 have hz1 := hb1.size
 try simp only [World.size_alloc, World.size_setCell] at hz1
 try refine zw3 w w1 (by omega) fun _ _ _ _ _ _ => ?_
 have c1_0_0 := zci w1 w.heap.size 0 (arm.lo) (by go_simp)
 have c1_0_1 := zci w1 w.heap.size 1 (arm.hi) (by go_simp)
 have c1_1_0 := zci w1 (w.heap.size + 1) 0 (0) (by go_simp)
 have g1_1_0 := zfe w1 (w.heap.size + 1) 0 (by go_simp)
 have c1_1_1 := zci w1 (w.heap.size + 1) 1 (0) (by go_simp)
 have g1_1_1 := zfe w1 (w.heap.size + 1) 1 (by go_simp)
 have c1_2_0 := zci w1 (w.heap.size + 1 + 1) 0 (0) (by go_simp)
 have g1_2_0 := zfe w1 (w.heap.size + 1 + 1) 0 (by go_simp)
 have c1_2_1 := zci w1 (w.heap.size + 1 + 1) 1 (0) (by go_simp)
 have g1_2_1 := zfe w1 (w.heap.size + 1 + 1) 1 (by go_simp)
 clear hc1 hf1
 go_wp2_with fail
 refine (NU.out _).mono ?_
 rintro e w2 ⟨rfl, hb2⟩
 obtain ⟨hc2, hf2⟩ := bcell hb2
 have hz2 := hb2.size
 try simp only [World.size_alloc, World.size_setCell] at hz2
 try refine zw3 w w2 (by omega) fun _ _ _ _ _ _ => ?_
 have c2_0_0 := zci w2 w.heap.size 0 (arm.lo) (by go_simp)
 have c2_0_1 := zci w2 w.heap.size 1 (arm.hi) (by go_simp)
 have c2_1_0 := zci w2 (w.heap.size + 1) 0 (0) (by go_simp)
 have g2_1_0 := zfe w2 (w.heap.size + 1) 0 (by go_simp)
 have c2_1_1 := zci w2 (w.heap.size + 1) 1 (0) (by go_simp)
 have g2_1_1 := zfe w2 (w.heap.size + 1) 1 (by go_simp)
 have c2_2_0 := zci w2 (w.heap.size + 1 + 1) 0 (0) (by go_simp)
 have g2_2_0 := zfe w2 (w.heap.size + 1 + 1) 0 (by go_simp)
 have c2_2_1 := zci w2 (w.heap.size + 1 + 1) 1 (0) (by go_simp)
 have g2_2_1 := zfe w2 (w.heap.size + 1 + 1) 1 (by go_simp)
 clear hc2 hf2 c1_0_0 c1_0_1 c1_1_0 g1_1_0 c1_1_1 g1_1_1 c1_2_0 g1_2_0 c1_2_1 g1_2_1
 go_wp2
 refine bodyPost_ret (v := none3 2) (by simp only [results, Try.results17]; go_simp) rfl ⟨rfl, blw_⟩
set_option maxHeartbeats 1000000 in
theorem rw_a2 (A : Option Addr) (n cap : Nat) (lo hi : Nat → Int) (hE : ∀ j, FD.In64 (lo j) ∧ FD.In64 (hi j)) (f : Int) (arm : FD.Sp) (limit want : Int) (hl : FD.In64 limit) (hw : FD.In64 want) (w : World) (hS : SpL w A n lo hi) (h12 : n ≤ 12) (h0 : lstB n lo hi = false) (h3 : numB want = true) (hL : limit < 0) :
  Calls Try.prog 17 #[.slice A n cap, .int .i64 f, FD.spv arm, .int .i64 limit, .int .i64 want] w fun e w' => e = .returned (none3 2) ∧ Below w.heap.size w w' := by
 have HS := hide (fun W (hb : Below w.heap.size w W) => hS.below hb)
 have AL := hide (fun W hs => all_any A n cap lo hi (by omega) W hs _ h0)
 have NU := hide (fun W => number_any want W)
 rw [h3] at NU
 clear hS hE hl hw h0 h3
 go_enter Try.func17, Try.ntmps17
 go_wp2_with fail
 refine (AL.out _ (HS.out _ blw_)).mono ?_
 rintro e w1 ⟨rfl, hb1⟩
 obtain ⟨hc1, hf1⟩ := bcell hb1
 have hz1 := hb1.size
 try simp only [World.size_alloc, World.size_setCell] at hz1
 try refine zw3 w w1 (by omega) fun _ _ _ _ _ _ => ?_
 have c1_0_0 := zci w1 w.heap.size 0 (arm.lo) (by go_simp)
 have c1_0_1 := zci w1 w.heap.size 1 (arm.hi) (by go_simp)
 have c1_1_0 := zci w1 (w.heap.size + 1) 0 (0) (by go_simp)
 have g1_1_0 := zfe w1 (w.heap.size + 1) 0 (by go_simp)
 have c1_1_1 := zci w1 (w.heap.size + 1) 1 (0) (by go_simp)
 have g1_1_1 := zfe w1 (w.heap.size + 1) 1 (by go_simp)
 have c1_2_0 := zci w1 (w.heap.size + 1 + 1) 0 (0) (by go_simp)
 have g1_2_0 := zfe w1 (w.heap.size + 1 + 1) 0 (by go_simp)
 have c1_2_1 := zci w1 (w.heap.size + 1 + 1) 1 (0) (by go_simp)
 have g1_2_1 := zfe w1 (w.heap.size + 1 + 1) 1 (by go_simp)
 clear hc1 hf1
 go_wp2_with fail
 refine (NU.out _).mono ?_
 rintro e w2 ⟨rfl, hb2⟩
 obtain ⟨hc2, hf2⟩ := bcell hb2
 have hz2 := hb2.size
 try simp only [World.size_alloc, World.size_setCell] at hz2
 try refine zw3 w w2 (by omega) fun _ _ _ _ _ _ => ?_
 have c2_0_0 := zci w2 w.heap.size 0 (arm.lo) (by go_simp)
 have c2_0_1 := zci w2 w.heap.size 1 (arm.hi) (by go_simp)
 have c2_1_0 := zci w2 (w.heap.size + 1) 0 (0) (by go_simp)
 have g2_1_0 := zfe w2 (w.heap.size + 1) 0 (by go_simp)
 have c2_1_1 := zci w2 (w.heap.size + 1) 1 (0) (by go_simp)
 have g2_1_1 := zfe w2 (w.heap.size + 1) 1 (by go_simp)
 have c2_2_0 := zci w2 (w.heap.size + 1 + 1) 0 (0) (by go_simp)
 have g2_2_0 := zfe w2 (w.heap.size + 1 + 1) 0 (by go_simp)
 have c2_2_1 := zci w2 (w.heap.size + 1 + 1) 1 (0) (by go_simp)
 have g2_2_1 := zfe w2 (w.heap.size + 1 + 1) 1 (by go_simp)
 clear hc2 hf2 c1_0_0 c1_0_1 c1_1_0 g1_1_0 c1_1_1 g1_1_1 c1_2_0 g1_2_0 c1_2_1 g1_2_1
 go_wp2
 refine bodyPost_ret (v := none3 2) (by simp only [results, Try.results17]; go_simp) rfl ⟨rfl, blw_⟩
set_option maxHeartbeats 1000000 in
theorem rw_a3 (A : Option Addr) (n cap : Nat) (lo hi : Nat → Int) (hE : ∀ j, FD.In64 (lo j) ∧ FD.In64 (hi j)) (f : Int) (arm : FD.Sp) (limit want : Int) (hl : FD.In64 limit) (hw : FD.In64 want) (w : World) (hS : SpL w A n lo hi) (h12 : n ≤ 12) (h0 : lstB n lo hi = false) (h3 : numB want = true) (hL : 0 ≤ limit) :
  Calls Try.prog 17 #[.slice A n cap, .int .i64 f, FD.spv arm, .int .i64 limit, .int .i64 want] w fun e w' => e = .returned (none3 2) ∧ Below w.heap.size w w' := by
 have HS := hide (fun W (hb : Below w.heap.size w W) => hS.below hb)
 have AL := hide (fun W hs => all_any A n cap lo hi (by omega) W hs _ h0)
 have NU := hide (fun W => number_any want W)
 rw [h3] at NU
 clear hS hE hl hw h0 h3
 go_enter Try.func17, Try.ntmps17
 go_wp2_with fail
 refine (AL.out _ (HS.out _ blw_)).mono ?_
 rintro e w1 ⟨rfl, hb1⟩
 obtain ⟨hc1, hf1⟩ := bcell hb1
 have hz1 := hb1.size
 try simp only [World.size_alloc, World.size_setCell] at hz1
 try refine zw3 w w1 (by omega) fun _ _ _ _ _ _ => ?_
 have c1_0_0 := zci w1 w.heap.size 0 (arm.lo) (by go_simp)
 have c1_0_1 := zci w1 w.heap.size 1 (arm.hi) (by go_simp)
 have c1_1_0 := zci w1 (w.heap.size + 1) 0 (0) (by go_simp)
 have g1_1_0 := zfe w1 (w.heap.size + 1) 0 (by go_simp)
 have c1_1_1 := zci w1 (w.heap.size + 1) 1 (0) (by go_simp)
 have g1_1_1 := zfe w1 (w.heap.size + 1) 1 (by go_simp)
 have c1_2_0 := zci w1 (w.heap.size + 1 + 1) 0 (0) (by go_simp)
 have g1_2_0 := zfe w1 (w.heap.size + 1 + 1) 0 (by go_simp)
 have c1_2_1 := zci w1 (w.heap.size + 1 + 1) 1 (0) (by go_simp)
 have g1_2_1 := zfe w1 (w.heap.size + 1 + 1) 1 (by go_simp)
 clear hc1 hf1
 go_wp2_with fail
 refine (NU.out _).mono ?_
 rintro e w2 ⟨rfl, hb2⟩
 obtain ⟨hc2, hf2⟩ := bcell hb2
 have hz2 := hb2.size
 try simp only [World.size_alloc, World.size_setCell] at hz2
 try refine zw3 w w2 (by omega) fun _ _ _ _ _ _ => ?_
 have c2_0_0 := zci w2 w.heap.size 0 (arm.lo) (by go_simp)
 have c2_0_1 := zci w2 w.heap.size 1 (arm.hi) (by go_simp)
 have c2_1_0 := zci w2 (w.heap.size + 1) 0 (0) (by go_simp)
 have g2_1_0 := zfe w2 (w.heap.size + 1) 0 (by go_simp)
 have c2_1_1 := zci w2 (w.heap.size + 1) 1 (0) (by go_simp)
 have g2_1_1 := zfe w2 (w.heap.size + 1) 1 (by go_simp)
 have c2_2_0 := zci w2 (w.heap.size + 1 + 1) 0 (0) (by go_simp)
 have g2_2_0 := zfe w2 (w.heap.size + 1 + 1) 0 (by go_simp)
 have c2_2_1 := zci w2 (w.heap.size + 1 + 1) 1 (0) (by go_simp)
 have g2_2_1 := zfe w2 (w.heap.size + 1 + 1) 1 (by go_simp)
 clear hc2 hf2 c1_0_0 c1_0_1 c1_1_0 g1_1_0 c1_1_1 g1_1_1 c1_2_0 g1_2_0 c1_2_1 g1_2_1
 go_wp2
 refine bodyPost_ret (v := none3 2) (by simp only [results, Try.results17]; go_simp) rfl ⟨rfl, blw_⟩
set_option maxHeartbeats 1000000 in
theorem rw_s1 (A : Option Addr) (n cap : Nat) (lo hi : Nat → Int) (hE : ∀ j, FD.In64 (lo j) ∧ FD.In64 (hi j)) (f : Int) (arm : FD.Sp) (limit want : Int) (hl : FD.In64 limit) (hw : FD.In64 want) (w : World) (hS : SpL w A n lo hi) (h12 : n ≤ 12) (h0 : lstB n lo hi = true) (h1 : orderI arm.lo arm.hi 0 0 ≤ 0) (h3 : numB want = false) :
  Calls Try.prog 17 #[.slice A n cap, .int .i64 f, FD.spv arm, .int .i64 limit, .int .i64 want] w fun e w' => e = .returned (none3 2) ∧ Below w.heap.size w w' := by
 have HS := hide (fun W (hb : Below w.heap.size w W) => hS.below hb)
 have AL := hide (fun W hs => all_any A n cap lo hi (by omega) W hs _ h0)
 have PO := hide (fun W => rsign_any arm.lo arm.hi W)
 generalize orderI arm.lo arm.hi 0 0 = r at *
 have NU := hide (fun W => number_any want W)
 rw [h3] at NU
 clear hS hE hl hw h0 h3
 go_enter Try.func17, Try.ntmps17
 go_wp2_with fail
 refine (AL.out _ (HS.out _ blw_)).mono ?_
 rintro e w1 ⟨rfl, hb1⟩
 obtain ⟨hc1, hf1⟩ := bcell hb1
 have hz1 := hb1.size
 try simp only [World.size_alloc, World.size_setCell] at hz1
 try refine zw3 w w1 (by omega) fun _ _ _ _ _ _ => ?_
 have c1_0_0 := zci w1 w.heap.size 0 (arm.lo) (by go_simp)
 have c1_0_1 := zci w1 w.heap.size 1 (arm.hi) (by go_simp)
 have c1_1_0 := zci w1 (w.heap.size + 1) 0 (0) (by go_simp)
 have g1_1_0 := zfe w1 (w.heap.size + 1) 0 (by go_simp)
 have c1_1_1 := zci w1 (w.heap.size + 1) 1 (0) (by go_simp)
 have g1_1_1 := zfe w1 (w.heap.size + 1) 1 (by go_simp)
 have c1_2_0 := zci w1 (w.heap.size + 1 + 1) 0 (0) (by go_simp)
 have g1_2_0 := zfe w1 (w.heap.size + 1 + 1) 0 (by go_simp)
 have c1_2_1 := zci w1 (w.heap.size + 1 + 1) 1 (0) (by go_simp)
 have g1_2_1 := zfe w1 (w.heap.size + 1 + 1) 1 (by go_simp)
 clear hc1 hf1
 go_wp2_with fail
 refine (PO.out _).mono ?_
 rintro e w2 ⟨rfl, hb2⟩
 obtain ⟨hc2, hf2⟩ := bcell hb2
 have hz2 := hb2.size
 try simp only [World.size_alloc, World.size_setCell] at hz2
 try refine zw3 w w2 (by omega) fun _ _ _ _ _ _ => ?_
 have c2_0_0 := zci w2 w.heap.size 0 (arm.lo) (by go_simp)
 have c2_0_1 := zci w2 w.heap.size 1 (arm.hi) (by go_simp)
 have c2_1_0 := zci w2 (w.heap.size + 1) 0 (0) (by go_simp)
 have g2_1_0 := zfe w2 (w.heap.size + 1) 0 (by go_simp)
 have c2_1_1 := zci w2 (w.heap.size + 1) 1 (0) (by go_simp)
 have g2_1_1 := zfe w2 (w.heap.size + 1) 1 (by go_simp)
 have c2_2_0 := zci w2 (w.heap.size + 1 + 1) 0 (0) (by go_simp)
 have g2_2_0 := zfe w2 (w.heap.size + 1 + 1) 0 (by go_simp)
 have c2_2_1 := zci w2 (w.heap.size + 1 + 1) 1 (0) (by go_simp)
 have g2_2_1 := zfe w2 (w.heap.size + 1 + 1) 1 (by go_simp)
 clear hc2 hf2 c1_0_0 c1_0_1 c1_1_0 g1_1_0 c1_1_1 g1_1_1 c1_2_0 g1_2_0 c1_2_1 g1_2_1
 go_wp2_with fail
 refine (NU.out _).mono ?_
 rintro e w3 ⟨rfl, hb3⟩
 obtain ⟨hc3, hf3⟩ := bcell hb3
 have hz3 := hb3.size
 try simp only [World.size_alloc, World.size_setCell] at hz3
 try refine zw3 w w3 (by omega) fun _ _ _ _ _ _ => ?_
 have c3_0_0 := zci w3 w.heap.size 0 (arm.lo) (by go_simp)
 have c3_0_1 := zci w3 w.heap.size 1 (arm.hi) (by go_simp)
 have c3_1_0 := zci w3 (w.heap.size + 1) 0 (0) (by go_simp)
 have g3_1_0 := zfe w3 (w.heap.size + 1) 0 (by go_simp)
 have c3_1_1 := zci w3 (w.heap.size + 1) 1 (0) (by go_simp)
 have g3_1_1 := zfe w3 (w.heap.size + 1) 1 (by go_simp)
 have c3_2_0 := zci w3 (w.heap.size + 1 + 1) 0 (0) (by go_simp)
 have g3_2_0 := zfe w3 (w.heap.size + 1 + 1) 0 (by go_simp)
 have c3_2_1 := zci w3 (w.heap.size + 1 + 1) 1 (0) (by go_simp)
 have g3_2_1 := zfe w3 (w.heap.size + 1 + 1) 1 (by go_simp)
 clear hc3 hf3 c2_0_0 c2_0_1 c2_1_0 g2_1_0 c2_1_1 g2_1_1 c2_2_0 g2_2_0 c2_2_1 g2_2_1
 go_wp2
 refine bodyPost_ret (v := none3 2) (by simp only [results, Try.results17]; go_simp) rfl ⟨rfl, blw_⟩
set_option maxHeartbeats 1000000 in
theorem rw_s2 (A : Option Addr) (n cap : Nat) (lo hi : Nat → Int) (hE : ∀ j, FD.In64 (lo j) ∧ FD.In64 (hi j)) (f : Int) (arm : FD.Sp) (limit want : Int) (hl : FD.In64 limit) (hw : FD.In64 want) (w : World) (hS : SpL w A n lo hi) (h12 : n ≤ 12) (h0 : lstB n lo hi = true) (h1 : orderI arm.lo arm.hi 0 0 ≤ 0) (h3 : numB want = true) (hL : limit < 0) :
  Calls Try.prog 17 #[.slice A n cap, .int .i64 f, FD.spv arm, .int .i64 limit, .int .i64 want] w fun e w' => e = .returned (none3 2) ∧ Below w.heap.size w w' := by
 have HS := hide (fun W (hb : Below w.heap.size w W) => hS.below hb)
 have AL := hide (fun W hs => all_any A n cap lo hi (by omega) W hs _ h0)
 have PO := hide (fun W => rsign_any arm.lo arm.hi W)
 generalize orderI arm.lo arm.hi 0 0 = r at *
 have NU := hide (fun W => number_any want W)
 rw [h3] at NU
 clear hS hE hl hw h0 h3
 go_enter Try.func17, Try.ntmps17
 go_wp2_with fail
 refine (AL.out _ (HS.out _ blw_)).mono ?_
 rintro e w1 ⟨rfl, hb1⟩
 obtain ⟨hc1, hf1⟩ := bcell hb1
 have hz1 := hb1.size
 try simp only [World.size_alloc, World.size_setCell] at hz1
 try refine zw3 w w1 (by omega) fun _ _ _ _ _ _ => ?_
 have c1_0_0 := zci w1 w.heap.size 0 (arm.lo) (by go_simp)
 have c1_0_1 := zci w1 w.heap.size 1 (arm.hi) (by go_simp)
 have c1_1_0 := zci w1 (w.heap.size + 1) 0 (0) (by go_simp)
 have g1_1_0 := zfe w1 (w.heap.size + 1) 0 (by go_simp)
 have c1_1_1 := zci w1 (w.heap.size + 1) 1 (0) (by go_simp)
 have g1_1_1 := zfe w1 (w.heap.size + 1) 1 (by go_simp)
 have c1_2_0 := zci w1 (w.heap.size + 1 + 1) 0 (0) (by go_simp)
 have g1_2_0 := zfe w1 (w.heap.size + 1 + 1) 0 (by go_simp)
 have c1_2_1 := zci w1 (w.heap.size + 1 + 1) 1 (0) (by go_simp)
 have g1_2_1 := zfe w1 (w.heap.size + 1 + 1) 1 (by go_simp)
 clear hc1 hf1
 go_wp2_with fail
 refine (PO.out _).mono ?_
 rintro e w2 ⟨rfl, hb2⟩
 obtain ⟨hc2, hf2⟩ := bcell hb2
 have hz2 := hb2.size
 try simp only [World.size_alloc, World.size_setCell] at hz2
 try refine zw3 w w2 (by omega) fun _ _ _ _ _ _ => ?_
 have c2_0_0 := zci w2 w.heap.size 0 (arm.lo) (by go_simp)
 have c2_0_1 := zci w2 w.heap.size 1 (arm.hi) (by go_simp)
 have c2_1_0 := zci w2 (w.heap.size + 1) 0 (0) (by go_simp)
 have g2_1_0 := zfe w2 (w.heap.size + 1) 0 (by go_simp)
 have c2_1_1 := zci w2 (w.heap.size + 1) 1 (0) (by go_simp)
 have g2_1_1 := zfe w2 (w.heap.size + 1) 1 (by go_simp)
 have c2_2_0 := zci w2 (w.heap.size + 1 + 1) 0 (0) (by go_simp)
 have g2_2_0 := zfe w2 (w.heap.size + 1 + 1) 0 (by go_simp)
 have c2_2_1 := zci w2 (w.heap.size + 1 + 1) 1 (0) (by go_simp)
 have g2_2_1 := zfe w2 (w.heap.size + 1 + 1) 1 (by go_simp)
 clear hc2 hf2 c1_0_0 c1_0_1 c1_1_0 g1_1_0 c1_1_1 g1_1_1 c1_2_0 g1_2_0 c1_2_1 g1_2_1
 go_wp2_with fail
 refine (NU.out _).mono ?_
 rintro e w3 ⟨rfl, hb3⟩
 obtain ⟨hc3, hf3⟩ := bcell hb3
 have hz3 := hb3.size
 try simp only [World.size_alloc, World.size_setCell] at hz3
 try refine zw3 w w3 (by omega) fun _ _ _ _ _ _ => ?_
 have c3_0_0 := zci w3 w.heap.size 0 (arm.lo) (by go_simp)
 have c3_0_1 := zci w3 w.heap.size 1 (arm.hi) (by go_simp)
 have c3_1_0 := zci w3 (w.heap.size + 1) 0 (0) (by go_simp)
 have g3_1_0 := zfe w3 (w.heap.size + 1) 0 (by go_simp)
 have c3_1_1 := zci w3 (w.heap.size + 1) 1 (0) (by go_simp)
 have g3_1_1 := zfe w3 (w.heap.size + 1) 1 (by go_simp)
 have c3_2_0 := zci w3 (w.heap.size + 1 + 1) 0 (0) (by go_simp)
 have g3_2_0 := zfe w3 (w.heap.size + 1 + 1) 0 (by go_simp)
 have c3_2_1 := zci w3 (w.heap.size + 1 + 1) 1 (0) (by go_simp)
 have g3_2_1 := zfe w3 (w.heap.size + 1 + 1) 1 (by go_simp)
 clear hc3 hf3 c2_0_0 c2_0_1 c2_1_0 g2_1_0 c2_1_1 g2_1_1 c2_2_0 g2_2_0 c2_2_1 g2_2_1
 go_wp2
 refine bodyPost_ret (v := none3 2) (by simp only [results, Try.results17]; go_simp) rfl ⟨rfl, blw_⟩
set_option maxHeartbeats 1000000 in
theorem rw_s3 (A : Option Addr) (n cap : Nat) (lo hi : Nat → Int) (hE : ∀ j, FD.In64 (lo j) ∧ FD.In64 (hi j)) (f : Int) (arm : FD.Sp) (limit want : Int) (hl : FD.In64 limit) (hw : FD.In64 want) (w : World) (hS : SpL w A n lo hi) (h12 : n ≤ 12) (h0 : lstB n lo hi = true) (h1 : orderI arm.lo arm.hi 0 0 ≤ 0) (h3 : numB want = true) (hL : 0 ≤ limit) :
  Calls Try.prog 17 #[.slice A n cap, .int .i64 f, FD.spv arm, .int .i64 limit, .int .i64 want] w fun e w' => e = .returned (none3 2) ∧ Below w.heap.size w w' := by
 have HS := hide (fun W (hb : Below w.heap.size w W) => hS.below hb)
 have AL := hide (fun W hs => all_any A n cap lo hi (by omega) W hs _ h0)
 have PO := hide (fun W => rsign_any arm.lo arm.hi W)
 generalize orderI arm.lo arm.hi 0 0 = r at *
 have NU := hide (fun W => number_any want W)
 rw [h3] at NU
 clear hS hE hl hw h0 h3
 go_enter Try.func17, Try.ntmps17
 go_wp2_with fail
 refine (AL.out _ (HS.out _ blw_)).mono ?_
 rintro e w1 ⟨rfl, hb1⟩
 obtain ⟨hc1, hf1⟩ := bcell hb1
 have hz1 := hb1.size
 try simp only [World.size_alloc, World.size_setCell] at hz1
 try refine zw3 w w1 (by omega) fun _ _ _ _ _ _ => ?_
 have c1_0_0 := zci w1 w.heap.size 0 (arm.lo) (by go_simp)
 have c1_0_1 := zci w1 w.heap.size 1 (arm.hi) (by go_simp)
 have c1_1_0 := zci w1 (w.heap.size + 1) 0 (0) (by go_simp)
 have g1_1_0 := zfe w1 (w.heap.size + 1) 0 (by go_simp)
 have c1_1_1 := zci w1 (w.heap.size + 1) 1 (0) (by go_simp)
 have g1_1_1 := zfe w1 (w.heap.size + 1) 1 (by go_simp)
 have c1_2_0 := zci w1 (w.heap.size + 1 + 1) 0 (0) (by go_simp)
 have g1_2_0 := zfe w1 (w.heap.size + 1 + 1) 0 (by go_simp)
 have c1_2_1 := zci w1 (w.heap.size + 1 + 1) 1 (0) (by go_simp)
 have g1_2_1 := zfe w1 (w.heap.size + 1 + 1) 1 (by go_simp)
 clear hc1 hf1
 go_wp2_with fail
 refine (PO.out _).mono ?_
 rintro e w2 ⟨rfl, hb2⟩
 obtain ⟨hc2, hf2⟩ := bcell hb2
 have hz2 := hb2.size
 try simp only [World.size_alloc, World.size_setCell] at hz2
 try refine zw3 w w2 (by omega) fun _ _ _ _ _ _ => ?_
 have c2_0_0 := zci w2 w.heap.size 0 (arm.lo) (by go_simp)
 have c2_0_1 := zci w2 w.heap.size 1 (arm.hi) (by go_simp)
 have c2_1_0 := zci w2 (w.heap.size + 1) 0 (0) (by go_simp)
 have g2_1_0 := zfe w2 (w.heap.size + 1) 0 (by go_simp)
 have c2_1_1 := zci w2 (w.heap.size + 1) 1 (0) (by go_simp)
 have g2_1_1 := zfe w2 (w.heap.size + 1) 1 (by go_simp)
 have c2_2_0 := zci w2 (w.heap.size + 1 + 1) 0 (0) (by go_simp)
 have g2_2_0 := zfe w2 (w.heap.size + 1 + 1) 0 (by go_simp)
 have c2_2_1 := zci w2 (w.heap.size + 1 + 1) 1 (0) (by go_simp)
 have g2_2_1 := zfe w2 (w.heap.size + 1 + 1) 1 (by go_simp)
 clear hc2 hf2 c1_0_0 c1_0_1 c1_1_0 g1_1_0 c1_1_1 g1_1_1 c1_2_0 g1_2_0 c1_2_1 g1_2_1
 go_wp2_with fail
 refine (NU.out _).mono ?_
 rintro e w3 ⟨rfl, hb3⟩
 obtain ⟨hc3, hf3⟩ := bcell hb3
 have hz3 := hb3.size
 try simp only [World.size_alloc, World.size_setCell] at hz3
 try refine zw3 w w3 (by omega) fun _ _ _ _ _ _ => ?_
 have c3_0_0 := zci w3 w.heap.size 0 (arm.lo) (by go_simp)
 have c3_0_1 := zci w3 w.heap.size 1 (arm.hi) (by go_simp)
 have c3_1_0 := zci w3 (w.heap.size + 1) 0 (0) (by go_simp)
 have g3_1_0 := zfe w3 (w.heap.size + 1) 0 (by go_simp)
 have c3_1_1 := zci w3 (w.heap.size + 1) 1 (0) (by go_simp)
 have g3_1_1 := zfe w3 (w.heap.size + 1) 1 (by go_simp)
 have c3_2_0 := zci w3 (w.heap.size + 1 + 1) 0 (0) (by go_simp)
 have g3_2_0 := zfe w3 (w.heap.size + 1 + 1) 0 (by go_simp)
 have c3_2_1 := zci w3 (w.heap.size + 1 + 1) 1 (0) (by go_simp)
 have g3_2_1 := zfe w3 (w.heap.size + 1 + 1) 1 (by go_simp)
 clear hc3 hf3 c2_0_0 c2_0_1 c2_1_0 g2_1_0 c2_1_1 g2_1_1 c2_2_0 g2_2_0 c2_2_1 g2_2_1
 go_wp2
 refine bodyPost_ret (v := none3 2) (by simp only [results, Try.results17]; go_simp) rfl ⟨rfl, blw_⟩
set_option maxHeartbeats 1000000 in
theorem rw_n1 (A : Option Addr) (n cap : Nat) (lo hi : Nat → Int) (hE : ∀ j, FD.In64 (lo j) ∧ FD.In64 (hi j)) (f : Int) (arm : FD.Sp) (limit want : Int) (hl : FD.In64 limit) (hw : FD.In64 want) (w : World) (hS : SpL w A n lo hi) (h12 : n ≤ 12) (h0 : lstB n lo hi = true) (h1 : orderI arm.lo arm.hi 0 0 = 1) (h3 : numB want = false) :
  Calls Try.prog 17 #[.slice A n cap, .int .i64 f, FD.spv arm, .int .i64 limit, .int .i64 want] w fun e w' => e = .returned (none3 2) ∧ Below w.heap.size w w' := by
 have HS := hide (fun W (hb : Below w.heap.size w W) => hS.below hb)
 have AL := hide (fun W hs => all_any A n cap lo hi (by omega) W hs _ h0)
 have PO := hide (fun W => rsign_any arm.lo arm.hi W)
 rw [h1] at PO
 clear h1
 have NU := hide (fun W => number_any want W)
 rw [h3] at NU
 clear hS hE hl hw h0 h3
 go_enter Try.func17, Try.ntmps17
 go_wp2_with fail
 refine (AL.out _ (HS.out _ blw_)).mono ?_
 rintro e w1 ⟨rfl, hb1⟩
 obtain ⟨hc1, hf1⟩ := bcell hb1
 have hz1 := hb1.size
 try simp only [World.size_alloc, World.size_setCell] at hz1
 try refine zw3 w w1 (by omega) fun _ _ _ _ _ _ => ?_
 have c1_0_0 := zci w1 w.heap.size 0 (arm.lo) (by go_simp)
 have c1_0_1 := zci w1 w.heap.size 1 (arm.hi) (by go_simp)
 have c1_1_0 := zci w1 (w.heap.size + 1) 0 (0) (by go_simp)
 have g1_1_0 := zfe w1 (w.heap.size + 1) 0 (by go_simp)
 have c1_1_1 := zci w1 (w.heap.size + 1) 1 (0) (by go_simp)
 have g1_1_1 := zfe w1 (w.heap.size + 1) 1 (by go_simp)
 have c1_2_0 := zci w1 (w.heap.size + 1 + 1) 0 (0) (by go_simp)
 have g1_2_0 := zfe w1 (w.heap.size + 1 + 1) 0 (by go_simp)
 have c1_2_1 := zci w1 (w.heap.size + 1 + 1) 1 (0) (by go_simp)
 have g1_2_1 := zfe w1 (w.heap.size + 1 + 1) 1 (by go_simp)
 clear hc1 hf1
 go_wp2_with fail
 refine (PO.out _).mono ?_
 rintro e w2 ⟨rfl, hb2⟩
 obtain ⟨hc2, hf2⟩ := bcell hb2
 have hz2 := hb2.size
 try simp only [World.size_alloc, World.size_setCell] at hz2
 try refine zw3 w w2 (by omega) fun _ _ _ _ _ _ => ?_
 have c2_0_0 := zci w2 w.heap.size 0 (arm.lo) (by go_simp)
 have c2_0_1 := zci w2 w.heap.size 1 (arm.hi) (by go_simp)
 have c2_1_0 := zci w2 (w.heap.size + 1) 0 (0) (by go_simp)
 have g2_1_0 := zfe w2 (w.heap.size + 1) 0 (by go_simp)
 have c2_1_1 := zci w2 (w.heap.size + 1) 1 (0) (by go_simp)
 have g2_1_1 := zfe w2 (w.heap.size + 1) 1 (by go_simp)
 have c2_2_0 := zci w2 (w.heap.size + 1 + 1) 0 (0) (by go_simp)
 have g2_2_0 := zfe w2 (w.heap.size + 1 + 1) 0 (by go_simp)
 have c2_2_1 := zci w2 (w.heap.size + 1 + 1) 1 (0) (by go_simp)
 have g2_2_1 := zfe w2 (w.heap.size + 1 + 1) 1 (by go_simp)
 clear hc2 hf2 c1_0_0 c1_0_1 c1_1_0 g1_1_0 c1_1_1 g1_1_1 c1_2_0 g1_2_0 c1_2_1 g1_2_1
 go_wp2_with fail
 refine (NU.out _).mono ?_
 rintro e w3 ⟨rfl, hb3⟩
 obtain ⟨hc3, hf3⟩ := bcell hb3
 have hz3 := hb3.size
 try simp only [World.size_alloc, World.size_setCell] at hz3
 try refine zw3 w w3 (by omega) fun _ _ _ _ _ _ => ?_
 have c3_0_0 := zci w3 w.heap.size 0 (arm.lo) (by go_simp)
 have c3_0_1 := zci w3 w.heap.size 1 (arm.hi) (by go_simp)
 have c3_1_0 := zci w3 (w.heap.size + 1) 0 (0) (by go_simp)
 have g3_1_0 := zfe w3 (w.heap.size + 1) 0 (by go_simp)
 have c3_1_1 := zci w3 (w.heap.size + 1) 1 (0) (by go_simp)
 have g3_1_1 := zfe w3 (w.heap.size + 1) 1 (by go_simp)
 have c3_2_0 := zci w3 (w.heap.size + 1 + 1) 0 (0) (by go_simp)
 have g3_2_0 := zfe w3 (w.heap.size + 1 + 1) 0 (by go_simp)
 have c3_2_1 := zci w3 (w.heap.size + 1 + 1) 1 (0) (by go_simp)
 have g3_2_1 := zfe w3 (w.heap.size + 1 + 1) 1 (by go_simp)
 clear hc3 hf3 c2_0_0 c2_0_1 c2_1_0 g2_1_0 c2_1_1 g2_1_1 c2_2_0 g2_2_0 c2_2_1 g2_2_1
 go_wp2
 refine bodyPost_ret (v := none3 2) (by simp only [results, Try.results17]; go_simp) rfl ⟨rfl, blw_⟩
set_option maxHeartbeats 1000000 in
theorem rw_n2 (A : Option Addr) (n cap : Nat) (lo hi : Nat → Int) (hE : ∀ j, FD.In64 (lo j) ∧ FD.In64 (hi j)) (f : Int) (arm : FD.Sp) (limit want : Int) (hl : FD.In64 limit) (hw : FD.In64 want) (w : World) (hS : SpL w A n lo hi) (h12 : n ≤ 12) (h0 : lstB n lo hi = true) (h1 : orderI arm.lo arm.hi 0 0 = 1) (h3 : numB want = true) (hL : limit < 0) :
  Calls Try.prog 17 #[.slice A n cap, .int .i64 f, FD.spv arm, .int .i64 limit, .int .i64 want] w fun e w' => e = .returned (none3 2) ∧ Below w.heap.size w w' := by
 have HS := hide (fun W (hb : Below w.heap.size w W) => hS.below hb)
 have AL := hide (fun W hs => all_any A n cap lo hi (by omega) W hs _ h0)
 have PO := hide (fun W => rsign_any arm.lo arm.hi W)
 rw [h1] at PO
 clear h1
 have NU := hide (fun W => number_any want W)
 rw [h3] at NU
 clear hS hE hl hw h0 h3
 go_enter Try.func17, Try.ntmps17
 go_wp2_with fail
 refine (AL.out _ (HS.out _ blw_)).mono ?_
 rintro e w1 ⟨rfl, hb1⟩
 obtain ⟨hc1, hf1⟩ := bcell hb1
 have hz1 := hb1.size
 try simp only [World.size_alloc, World.size_setCell] at hz1
 try refine zw3 w w1 (by omega) fun _ _ _ _ _ _ => ?_
 have c1_0_0 := zci w1 w.heap.size 0 (arm.lo) (by go_simp)
 have c1_0_1 := zci w1 w.heap.size 1 (arm.hi) (by go_simp)
 have c1_1_0 := zci w1 (w.heap.size + 1) 0 (0) (by go_simp)
 have g1_1_0 := zfe w1 (w.heap.size + 1) 0 (by go_simp)
 have c1_1_1 := zci w1 (w.heap.size + 1) 1 (0) (by go_simp)
 have g1_1_1 := zfe w1 (w.heap.size + 1) 1 (by go_simp)
 have c1_2_0 := zci w1 (w.heap.size + 1 + 1) 0 (0) (by go_simp)
 have g1_2_0 := zfe w1 (w.heap.size + 1 + 1) 0 (by go_simp)
 have c1_2_1 := zci w1 (w.heap.size + 1 + 1) 1 (0) (by go_simp)
 have g1_2_1 := zfe w1 (w.heap.size + 1 + 1) 1 (by go_simp)
 clear hc1 hf1
 go_wp2_with fail
 refine (PO.out _).mono ?_
 rintro e w2 ⟨rfl, hb2⟩
 obtain ⟨hc2, hf2⟩ := bcell hb2
 have hz2 := hb2.size
 try simp only [World.size_alloc, World.size_setCell] at hz2
 try refine zw3 w w2 (by omega) fun _ _ _ _ _ _ => ?_
 have c2_0_0 := zci w2 w.heap.size 0 (arm.lo) (by go_simp)
 have c2_0_1 := zci w2 w.heap.size 1 (arm.hi) (by go_simp)
 have c2_1_0 := zci w2 (w.heap.size + 1) 0 (0) (by go_simp)
 have g2_1_0 := zfe w2 (w.heap.size + 1) 0 (by go_simp)
 have c2_1_1 := zci w2 (w.heap.size + 1) 1 (0) (by go_simp)
 have g2_1_1 := zfe w2 (w.heap.size + 1) 1 (by go_simp)
 have c2_2_0 := zci w2 (w.heap.size + 1 + 1) 0 (0) (by go_simp)
 have g2_2_0 := zfe w2 (w.heap.size + 1 + 1) 0 (by go_simp)
 have c2_2_1 := zci w2 (w.heap.size + 1 + 1) 1 (0) (by go_simp)
 have g2_2_1 := zfe w2 (w.heap.size + 1 + 1) 1 (by go_simp)
 clear hc2 hf2 c1_0_0 c1_0_1 c1_1_0 g1_1_0 c1_1_1 g1_1_1 c1_2_0 g1_2_0 c1_2_1 g1_2_1
 go_wp2_with fail
 refine (NU.out _).mono ?_
 rintro e w3 ⟨rfl, hb3⟩
 obtain ⟨hc3, hf3⟩ := bcell hb3
 have hz3 := hb3.size
 try simp only [World.size_alloc, World.size_setCell] at hz3
 try refine zw3 w w3 (by omega) fun _ _ _ _ _ _ => ?_
 have c3_0_0 := zci w3 w.heap.size 0 (arm.lo) (by go_simp)
 have c3_0_1 := zci w3 w.heap.size 1 (arm.hi) (by go_simp)
 have c3_1_0 := zci w3 (w.heap.size + 1) 0 (0) (by go_simp)
 have g3_1_0 := zfe w3 (w.heap.size + 1) 0 (by go_simp)
 have c3_1_1 := zci w3 (w.heap.size + 1) 1 (0) (by go_simp)
 have g3_1_1 := zfe w3 (w.heap.size + 1) 1 (by go_simp)
 have c3_2_0 := zci w3 (w.heap.size + 1 + 1) 0 (0) (by go_simp)
 have g3_2_0 := zfe w3 (w.heap.size + 1 + 1) 0 (by go_simp)
 have c3_2_1 := zci w3 (w.heap.size + 1 + 1) 1 (0) (by go_simp)
 have g3_2_1 := zfe w3 (w.heap.size + 1 + 1) 1 (by go_simp)
 clear hc3 hf3 c2_0_0 c2_0_1 c2_1_0 g2_1_0 c2_1_1 g2_1_1 c2_2_0 g2_2_0 c2_2_1 g2_2_1
 go_wp2
 refine bodyPost_ret (v := none3 2) (by simp only [results, Try.results17]; go_simp) rfl ⟨rfl, blw_⟩
set_option maxHeartbeats 1000000 in
theorem rw_f1 (A : Option Addr) (n cap : Nat) (lo hi : Nat → Int) (hE : ∀ j, FD.In64 (lo j) ∧ FD.In64 (hi j)) (f : Int) (arm : FD.Sp) (limit want : Int) (hl : FD.In64 limit) (hw : FD.In64 want) (w : World) (hS : SpL w A n lo hi) (h12 : n ≤ 12) (h0 : lstB n lo hi = true) (h1 : orderI arm.lo arm.hi 0 0 = 1) (h3 : numB want = true) (hL : 0 ≤ limit) (hF : f < 0) :
  Calls Try.prog 17 #[.slice A n cap, .int .i64 f, FD.spv arm, .int .i64 limit, .int .i64 want] w fun e w' => e = .returned (none3 2) ∧ Below w.heap.size w w' := by
 have HS := hide (fun W (hb : Below w.heap.size w W) => hS.below hb)
 have AL := hide (fun W hs => all_any A n cap lo hi (by omega) W hs _ h0)
 have PO := hide (fun W => rsign_any arm.lo arm.hi W)
 rw [h1] at PO
 clear h1
 have NU := hide (fun W => number_any want W)
 rw [h3] at NU
 clear hS hE hl hw h0 h3
 go_enter Try.func17, Try.ntmps17
 go_wp2_with fail
 refine (AL.out _ (HS.out _ blw_)).mono ?_
 rintro e w1 ⟨rfl, hb1⟩
 obtain ⟨hc1, hf1⟩ := bcell hb1
 have hz1 := hb1.size
 try simp only [World.size_alloc, World.size_setCell] at hz1
 try refine zw3 w w1 (by omega) fun _ _ _ _ _ _ => ?_
 have c1_0_0 := zci w1 w.heap.size 0 (arm.lo) (by go_simp)
 have c1_0_1 := zci w1 w.heap.size 1 (arm.hi) (by go_simp)
 have c1_1_0 := zci w1 (w.heap.size + 1) 0 (0) (by go_simp)
 have g1_1_0 := zfe w1 (w.heap.size + 1) 0 (by go_simp)
 have c1_1_1 := zci w1 (w.heap.size + 1) 1 (0) (by go_simp)
 have g1_1_1 := zfe w1 (w.heap.size + 1) 1 (by go_simp)
 have c1_2_0 := zci w1 (w.heap.size + 1 + 1) 0 (0) (by go_simp)
 have g1_2_0 := zfe w1 (w.heap.size + 1 + 1) 0 (by go_simp)
 have c1_2_1 := zci w1 (w.heap.size + 1 + 1) 1 (0) (by go_simp)
 have g1_2_1 := zfe w1 (w.heap.size + 1 + 1) 1 (by go_simp)
 clear hc1 hf1
 go_wp2_with fail
 refine (PO.out _).mono ?_
 rintro e w2 ⟨rfl, hb2⟩
 obtain ⟨hc2, hf2⟩ := bcell hb2
 have hz2 := hb2.size
 try simp only [World.size_alloc, World.size_setCell] at hz2
 try refine zw3 w w2 (by omega) fun _ _ _ _ _ _ => ?_
 have c2_0_0 := zci w2 w.heap.size 0 (arm.lo) (by go_simp)
 have c2_0_1 := zci w2 w.heap.size 1 (arm.hi) (by go_simp)
 have c2_1_0 := zci w2 (w.heap.size + 1) 0 (0) (by go_simp)
 have g2_1_0 := zfe w2 (w.heap.size + 1) 0 (by go_simp)
 have c2_1_1 := zci w2 (w.heap.size + 1) 1 (0) (by go_simp)
 have g2_1_1 := zfe w2 (w.heap.size + 1) 1 (by go_simp)
 have c2_2_0 := zci w2 (w.heap.size + 1 + 1) 0 (0) (by go_simp)
 have g2_2_0 := zfe w2 (w.heap.size + 1 + 1) 0 (by go_simp)
 have c2_2_1 := zci w2 (w.heap.size + 1 + 1) 1 (0) (by go_simp)
 have g2_2_1 := zfe w2 (w.heap.size + 1 + 1) 1 (by go_simp)
 clear hc2 hf2 c1_0_0 c1_0_1 c1_1_0 g1_1_0 c1_1_1 g1_1_1 c1_2_0 g1_2_0 c1_2_1 g1_2_1
 go_wp2_with fail
 refine (NU.out _).mono ?_
 rintro e w3 ⟨rfl, hb3⟩
 obtain ⟨hc3, hf3⟩ := bcell hb3
 have hz3 := hb3.size
 try simp only [World.size_alloc, World.size_setCell] at hz3
 try refine zw3 w w3 (by omega) fun _ _ _ _ _ _ => ?_
 have c3_0_0 := zci w3 w.heap.size 0 (arm.lo) (by go_simp)
 have c3_0_1 := zci w3 w.heap.size 1 (arm.hi) (by go_simp)
 have c3_1_0 := zci w3 (w.heap.size + 1) 0 (0) (by go_simp)
 have g3_1_0 := zfe w3 (w.heap.size + 1) 0 (by go_simp)
 have c3_1_1 := zci w3 (w.heap.size + 1) 1 (0) (by go_simp)
 have g3_1_1 := zfe w3 (w.heap.size + 1) 1 (by go_simp)
 have c3_2_0 := zci w3 (w.heap.size + 1 + 1) 0 (0) (by go_simp)
 have g3_2_0 := zfe w3 (w.heap.size + 1 + 1) 0 (by go_simp)
 have c3_2_1 := zci w3 (w.heap.size + 1 + 1) 1 (0) (by go_simp)
 have g3_2_1 := zfe w3 (w.heap.size + 1 + 1) 1 (by go_simp)
 clear hc3 hf3 c2_0_0 c2_0_1 c2_1_0 g2_1_0 c2_1_1 g2_1_1 c2_2_0 g2_2_0 c2_2_1 g2_2_1
 go_wp2
 refine bodyPost_ret (v := none3 2) (by simp only [results, Try.results17]; go_simp) rfl ⟨rfl, blw_⟩
set_option maxHeartbeats 1000000 in
theorem rw_f2 (A : Option Addr) (n cap : Nat) (lo hi : Nat → Int) (hE : ∀ j, FD.In64 (lo j) ∧ FD.In64 (hi j)) (f : Int) (arm : FD.Sp) (limit want : Int) (hl : FD.In64 limit) (hw : FD.In64 want) (w : World) (hS : SpL w A n lo hi) (h12 : n ≤ 12) (h0 : lstB n lo hi = true) (h1 : orderI arm.lo arm.hi 0 0 = 1) (h3 : numB want = true) (hL : 0 ≤ limit) (hF : 0 ≤ f) (hG : 2 ^ n ≤ f) :
  Calls Try.prog 17 #[.slice A n cap, .int .i64 f, FD.spv arm, .int .i64 limit, .int .i64 want] w fun e w' => e = .returned (none3 2) ∧ Below w.heap.size w w' := by
 have HS := hide (fun W (hb : Below w.heap.size w W) => hS.below hb)
 have AL := hide (fun W hs => all_any A n cap lo hi (by omega) W hs _ h0)
 have PO := hide (fun W => rsign_any arm.lo arm.hi W)
 rw [h1] at PO
 clear h1
 have NU := hide (fun W => number_any want W)
 rw [h3] at NU
 have PW := hide (fun W => power_any n (by omega) W)
 have hp := pow_12 (n := n) (by omega)
 generalize (2 : Int) ^ n = pw at *
 clear hS hE hl hw h0 h3
 go_enter Try.func17, Try.ntmps17
 go_wp2_with fail
 refine (AL.out _ (HS.out _ blw_)).mono ?_
 rintro e w1 ⟨rfl, hb1⟩
 obtain ⟨hc1, hf1⟩ := bcell hb1
 have hz1 := hb1.size
 try simp only [World.size_alloc, World.size_setCell] at hz1
 try refine zw3 w w1 (by omega) fun _ _ _ _ _ _ => ?_
 have c1_0_0 := zci w1 w.heap.size 0 (arm.lo) (by go_simp)
 have c1_0_1 := zci w1 w.heap.size 1 (arm.hi) (by go_simp)
 have c1_1_0 := zci w1 (w.heap.size + 1) 0 (0) (by go_simp)
 have g1_1_0 := zfe w1 (w.heap.size + 1) 0 (by go_simp)
 have c1_1_1 := zci w1 (w.heap.size + 1) 1 (0) (by go_simp)
 have g1_1_1 := zfe w1 (w.heap.size + 1) 1 (by go_simp)
 have c1_2_0 := zci w1 (w.heap.size + 1 + 1) 0 (0) (by go_simp)
 have g1_2_0 := zfe w1 (w.heap.size + 1 + 1) 0 (by go_simp)
 have c1_2_1 := zci w1 (w.heap.size + 1 + 1) 1 (0) (by go_simp)
 have g1_2_1 := zfe w1 (w.heap.size + 1 + 1) 1 (by go_simp)
 clear hc1 hf1
 go_wp2_with fail
 refine (PO.out _).mono ?_
 rintro e w2 ⟨rfl, hb2⟩
 obtain ⟨hc2, hf2⟩ := bcell hb2
 have hz2 := hb2.size
 try simp only [World.size_alloc, World.size_setCell] at hz2
 try refine zw3 w w2 (by omega) fun _ _ _ _ _ _ => ?_
 have c2_0_0 := zci w2 w.heap.size 0 (arm.lo) (by go_simp)
 have c2_0_1 := zci w2 w.heap.size 1 (arm.hi) (by go_simp)
 have c2_1_0 := zci w2 (w.heap.size + 1) 0 (0) (by go_simp)
 have g2_1_0 := zfe w2 (w.heap.size + 1) 0 (by go_simp)
 have c2_1_1 := zci w2 (w.heap.size + 1) 1 (0) (by go_simp)
 have g2_1_1 := zfe w2 (w.heap.size + 1) 1 (by go_simp)
 have c2_2_0 := zci w2 (w.heap.size + 1 + 1) 0 (0) (by go_simp)
 have g2_2_0 := zfe w2 (w.heap.size + 1 + 1) 0 (by go_simp)
 have c2_2_1 := zci w2 (w.heap.size + 1 + 1) 1 (0) (by go_simp)
 have g2_2_1 := zfe w2 (w.heap.size + 1 + 1) 1 (by go_simp)
 clear hc2 hf2 c1_0_0 c1_0_1 c1_1_0 g1_1_0 c1_1_1 g1_1_1 c1_2_0 g1_2_0 c1_2_1 g1_2_1
 go_wp2_with fail
 refine (NU.out _).mono ?_
 rintro e w3 ⟨rfl, hb3⟩
 obtain ⟨hc3, hf3⟩ := bcell hb3
 have hz3 := hb3.size
 try simp only [World.size_alloc, World.size_setCell] at hz3
 try refine zw3 w w3 (by omega) fun _ _ _ _ _ _ => ?_
 have c3_0_0 := zci w3 w.heap.size 0 (arm.lo) (by go_simp)
 have c3_0_1 := zci w3 w.heap.size 1 (arm.hi) (by go_simp)
 have c3_1_0 := zci w3 (w.heap.size + 1) 0 (0) (by go_simp)
 have g3_1_0 := zfe w3 (w.heap.size + 1) 0 (by go_simp)
 have c3_1_1 := zci w3 (w.heap.size + 1) 1 (0) (by go_simp)
 have g3_1_1 := zfe w3 (w.heap.size + 1) 1 (by go_simp)
 have c3_2_0 := zci w3 (w.heap.size + 1 + 1) 0 (0) (by go_simp)
 have g3_2_0 := zfe w3 (w.heap.size + 1 + 1) 0 (by go_simp)
 have c3_2_1 := zci w3 (w.heap.size + 1 + 1) 1 (0) (by go_simp)
 have g3_2_1 := zfe w3 (w.heap.size + 1 + 1) 1 (by go_simp)
 clear hc3 hf3 c2_0_0 c2_0_1 c2_1_0 g2_1_0 c2_1_1 g2_1_1 c2_2_0 g2_2_0 c2_2_1 g2_2_1
 go_wp2_with fail
 refine (PW.out _).mono ?_
 rintro e w4 ⟨rfl, hb4⟩
 obtain ⟨hc4, hf4⟩ := bcell hb4
 have hz4 := hb4.size
 try simp only [World.size_alloc, World.size_setCell] at hz4
 try refine zw3 w w4 (by omega) fun _ _ _ _ _ _ => ?_
 have c4_0_0 := zci w4 w.heap.size 0 (arm.lo) (by go_simp)
 have c4_0_1 := zci w4 w.heap.size 1 (arm.hi) (by go_simp)
 have c4_1_0 := zci w4 (w.heap.size + 1) 0 (0) (by go_simp)
 have g4_1_0 := zfe w4 (w.heap.size + 1) 0 (by go_simp)
 have c4_1_1 := zci w4 (w.heap.size + 1) 1 (0) (by go_simp)
 have g4_1_1 := zfe w4 (w.heap.size + 1) 1 (by go_simp)
 have c4_2_0 := zci w4 (w.heap.size + 1 + 1) 0 (0) (by go_simp)
 have g4_2_0 := zfe w4 (w.heap.size + 1 + 1) 0 (by go_simp)
 have c4_2_1 := zci w4 (w.heap.size + 1 + 1) 1 (0) (by go_simp)
 have g4_2_1 := zfe w4 (w.heap.size + 1 + 1) 1 (by go_simp)
 clear hc4 hf4 c3_0_0 c3_0_1 c3_1_0 g3_1_0 c3_1_1 g3_1_1 c3_2_0 g3_2_0 c3_2_1 g3_2_1
 go_wp2
 refine bodyPost_ret (v := none3 2) (by simp only [results, Try.results17]; go_simp) rfl ⟨rfl, blw_⟩
end Sw
end
section
set_option maxRecDepth 100000
open Go.RowKit
open FP
namespace Sw
def smD (f : Int) (n : Nat) (lo hi : Nat → Int) (hE : ∀ j, FD.In64 (lo j) ∧ FD.In64 (hi j)) : FD.Sp × Int := docS stepA f (FD.el lo hi hE) n
theorem smD_zero (f : Int) (lo hi : Nat → Int) (hE : ∀ j, FD.In64 (lo j) ∧ FD.In64 (hi j)) : smD f 0 lo hi hE = (.zero, 0) := rfl
theorem smD_gone {f : Int} {k : Nat} {lo hi : Nat → Int} {hE : ∀ j, FD.In64 (lo j) ∧ FD.In64 (hi j)} (h : bit f k = true) : smD f (k + 1) lo hi hE = smD f k lo hi hE := by
 unfold smD
 rw [docS, if_pos h]
theorem smD_more {f : Int} {k : Nat} {lo hi : Nat → Int} {hE : ∀ j, FD.In64 (lo j) ∧ FD.In64 (hi j)} (h : bit f k = false) : smD f (k + 1) lo hi hE = ck (smD f k lo hi hE).2 (stepA (smD f k lo hi hE).1 ⟨lo k, hi k, hE k⟩) := by
 unfold smD ck
 rw [docS, if_neg (by simp [h])]
 rfl

set_option maxHeartbeats 4000000 in
theorem rw_main (A : Option Addr) (n cap : Nat) (lo hi : Nat → Int) (hE : ∀ j, FD.In64 (lo j) ∧ FD.In64 (hi j)) (f : Int) (arm : FD.Sp) (limit want : Int) (hl : FD.In64 limit) (hw : FD.In64 want) (w : World) (hS : SpL w A n lo hi) (h12 : n ≤ 12) (h0 : lstB n lo hi = true) (h1 : orderI arm.lo arm.hi 0 0 = 1) (hL : 0 ≤ limit) (h3 : numB want = true) (hF : 0 ≤ f) (hG : f < 2 ^ n) (wp lm nl : FD.Sp) (w0 : wp.lo = want) (w1 : wp.hi = want) (l0 : lm.lo = limit) (l1 : lm.hi = limit) (n0 : nl.lo = -limit) (n1 : nl.hi = -limit) (q1 q2 q3 q4 q5 q6 q7 : FD.Sp × Int) (e1 : ck (smD f n lo hi hE).2 (stD wp (smD f n lo hi hE).1) = q1) (e2 : ck q1.2 (stD q1.1 arm) = q2) (e3 : stN lm q2.1 = q3) (e4 : stX nl q3.1 = q4) (e5 : ck q2.2 (stM (smD f n lo hi hE).1 arm) = q5) (e6 : ck q5.2 (stM q5.1 q4.1) = q6) (e7 : ck q6.2 (stS wp q6.1) = q7)
  (RV : Value) (r1 : ∀ k, k < n → lo k < 0 → RV = none3 2) (r2 : (∀ j, j < n → 0 ≤ lo j) → (smD f n lo hi hE).2 = 0 → (smD f n lo hi hE).1.lo ≤ 0 → RV = none3 10) (r3 : (∀ j, j < n → 0 ≤ lo j) → ¬ ((smD f n lo hi hE).2 = 0 ∧ (smD f n lo hi hE).1.lo ≤ 0) → RV = .tuple #[.agg #[.int .i64 (ckV q7.2 q4.1.lo), .int .i64 (ckV q7.2 q4.1.hi)], .agg #[.int .i64 (ckV q7.2 q7.1.lo), .int .i64 (ckV q7.2 q7.1.hi)], .int .i64 q7.2]) :
  Calls Try.prog 17 #[.slice A n cap, .int .i64 f, FD.spv arm, .int .i64 limit, .int .i64 want] w fun e w' => e = .returned (RV) ∧ Below w.heap.size w w' := by
 have HS := hide (fun W (hb : Below w.heap.size w W) => hS.below hb)
 have AL := hide (fun W hs => all_any A n cap lo hi (by omega) W hs _ h0)
 have PO := hide (fun W => rsign_any arm.lo arm.hi W)
 rw [h1] at PO
 have NU := hide (fun W => number_any want W)
 rw [h3] at NU
 have PW := hide (fun W => power_any n (by omega) W)
 have hp := pow_12 (n := n) (by omega)
 have HB := hide (fun k hk W => has_any f hF (by omega) k hk W)
 skip
 have F1 := hide (fun (z : Nat) => C_use (w0 := w) (z := z) cD e1)
 have F2 := hide (fun (z : Nat) => C_use (w0 := w) (z := z) cD e2)
 have F3 := hide (fun (z : Nat) => O_use (w0 := w) (z := z) hN e3)
 have F4 := hide (fun (z : Nat) => O_use (w0 := w) (z := z) hX e4)
 have F5 := hide (fun (z : Nat) => C_use (w0 := w) (z := z) cM e5)
 have F6 := hide (fun (z : Nat) => C_use (w0 := w) (z := z) cM e6)
 have F7 := hide (fun (z : Nat) => C_use (w0 := w) (z := z) cS e7)
 have DW := hide (fun (z : Nat) => P_use (w0 := w) (z := z) (x := wp) w0 w1)
 have DL := hide (fun (z : Nat) => P_use (w0 := w) (z := z) (x := lm) l0 l1)
 have DN1 : Hid (∀ (z : Nat) (W : World) (L : List (Nat × FD.Sp)) (E : Int) (h : ES w W z E L), Calls Try.prog 25 #[.int .i64 (wrap64 (-limit))] W fun r w' => r = .returned (FD.spv nl) ∧ ES w w' z E L) := hide (fun z => P_use (w0 := w) (z := z) (x := nl) (by rw [n0]; obtain ⟨k1, k2⟩ := hl; unfold wrap64; omega) (by rw [n1]; obtain ⟨k1, k2⟩ := hl; unfold wrap64; omega))
 have DN2 : Hid (∀ (z : Nat) (W : World) (L : List (Nat × FD.Sp)) (E : Int) (h : ES w W z E L), Calls Try.prog 25 #[.int .i64 (IntKind.i64.wrap (-limit))] W fun r w' => r = .returned (FD.spv nl) ∧ ES w w' z E L) := hide (fun z => P_use (w0 := w) (z := z) (x := nl) (by rw [n0, IntKind.wrap_i64]; obtain ⟨k1, k2⟩ := hl; omega) (by rw [n1, IntKind.wrap_i64]; obtain ⟨k1, k2⟩ := hl; omega))
 have R1 := hide r1
 have R2 := hide r2
 have R3 := hide r3
 have HE := hide hE
 clear hS hl hw h0 h1 h3 e1 e2 e3 e4 e5 e6 e7 w0 w1 l0 l1 n0 n1 r1 r2 r3
 generalize hpw : (2 : Int) ^ n = pw at *
 clear hpw
 go_enter Try.func17, Try.ntmps17
 go_wp2_with fail
 refine (AL.out _ (HS.out _ blw_)).mono ?_
 rintro e w1 ⟨rfl, hb1⟩
 obtain ⟨hc1, hf1⟩ := bcell hb1
 have hz1 := hb1.size
 try simp only [World.size_alloc, World.size_setCell] at hz1
 try refine zw3 w w1 (by omega) fun _ _ _ _ _ _ => ?_
 have c1_0_0 := zci w1 w.heap.size 0 (arm.lo) (by go_simp)
 have g1_0_0 := zfe w1 w.heap.size 0 (by go_simp)
 have c1_0_1 := zci w1 w.heap.size 1 (arm.hi) (by go_simp)
 have g1_0_1 := zfe w1 w.heap.size 1 (by go_simp)
 have c1_1_0 := zci w1 (w.heap.size + 1) 0 (0) (by go_simp)
 have g1_1_0 := zfe w1 (w.heap.size + 1) 0 (by go_simp)
 have c1_1_1 := zci w1 (w.heap.size + 1) 1 (0) (by go_simp)
 have g1_1_1 := zfe w1 (w.heap.size + 1) 1 (by go_simp)
 have c1_2_0 := zci w1 (w.heap.size + 1 + 1) 0 (0) (by go_simp)
 have g1_2_0 := zfe w1 (w.heap.size + 1 + 1) 0 (by go_simp)
 have c1_2_1 := zci w1 (w.heap.size + 1 + 1) 1 (0) (by go_simp)
 have g1_2_1 := zfe w1 (w.heap.size + 1 + 1) 1 (by go_simp)
 clear hc1 hf1
 go_wp2_with fail
 refine (PO.out _).mono ?_
 rintro e w2 ⟨rfl, hb2⟩
 obtain ⟨hc2, hf2⟩ := bcell hb2
 have hz2 := hb2.size
 try simp only [World.size_alloc, World.size_setCell] at hz2
 try refine zw3 w w2 (by omega) fun _ _ _ _ _ _ => ?_
 have c2_0_0 := zci w2 w.heap.size 0 (arm.lo) (by go_simp)
 have g2_0_0 := zfe w2 w.heap.size 0 (by go_simp)
 have c2_0_1 := zci w2 w.heap.size 1 (arm.hi) (by go_simp)
 have g2_0_1 := zfe w2 w.heap.size 1 (by go_simp)
 have c2_1_0 := zci w2 (w.heap.size + 1) 0 (0) (by go_simp)
 have g2_1_0 := zfe w2 (w.heap.size + 1) 0 (by go_simp)
 have c2_1_1 := zci w2 (w.heap.size + 1) 1 (0) (by go_simp)
 have g2_1_1 := zfe w2 (w.heap.size + 1) 1 (by go_simp)
 have c2_2_0 := zci w2 (w.heap.size + 1 + 1) 0 (0) (by go_simp)
 have g2_2_0 := zfe w2 (w.heap.size + 1 + 1) 0 (by go_simp)
 have c2_2_1 := zci w2 (w.heap.size + 1 + 1) 1 (0) (by go_simp)
 have g2_2_1 := zfe w2 (w.heap.size + 1 + 1) 1 (by go_simp)
 clear hc2 hf2 c1_0_0 g1_0_0 c1_0_1 g1_0_1 c1_1_0 g1_1_0 c1_1_1 g1_1_1 c1_2_0 g1_2_0 c1_2_1 g1_2_1
 go_wp2_with fail
 refine (NU.out _).mono ?_
 rintro e w3 ⟨rfl, hb3⟩
 obtain ⟨hc3, hf3⟩ := bcell hb3
 have hz3 := hb3.size
 try simp only [World.size_alloc, World.size_setCell] at hz3
 try refine zw3 w w3 (by omega) fun _ _ _ _ _ _ => ?_
 have c3_0_0 := zci w3 w.heap.size 0 (arm.lo) (by go_simp)
 have g3_0_0 := zfe w3 w.heap.size 0 (by go_simp)
 have c3_0_1 := zci w3 w.heap.size 1 (arm.hi) (by go_simp)
 have g3_0_1 := zfe w3 w.heap.size 1 (by go_simp)
 have c3_1_0 := zci w3 (w.heap.size + 1) 0 (0) (by go_simp)
 have g3_1_0 := zfe w3 (w.heap.size + 1) 0 (by go_simp)
 have c3_1_1 := zci w3 (w.heap.size + 1) 1 (0) (by go_simp)
 have g3_1_1 := zfe w3 (w.heap.size + 1) 1 (by go_simp)
 have c3_2_0 := zci w3 (w.heap.size + 1 + 1) 0 (0) (by go_simp)
 have g3_2_0 := zfe w3 (w.heap.size + 1 + 1) 0 (by go_simp)
 have c3_2_1 := zci w3 (w.heap.size + 1 + 1) 1 (0) (by go_simp)
 have g3_2_1 := zfe w3 (w.heap.size + 1 + 1) 1 (by go_simp)
 clear hc3 hf3 c2_0_0 g2_0_0 c2_0_1 g2_0_1 c2_1_0 g2_1_0 c2_1_1 g2_1_1 c2_2_0 g2_2_0 c2_2_1 g2_2_1
 go_wp2_with fail
 refine (PW.out _).mono ?_
 rintro e w4 ⟨rfl, hb4⟩
 obtain ⟨hc4, hf4⟩ := bcell hb4
 have hz4 := hb4.size
 try simp only [World.size_alloc, World.size_setCell] at hz4
 try refine zw3 w w4 (by omega) fun _ _ _ _ _ _ => ?_
 have c4_0_0 := zci w4 w.heap.size 0 (arm.lo) (by go_simp)
 have g4_0_0 := zfe w4 w.heap.size 0 (by go_simp)
 have c4_0_1 := zci w4 w.heap.size 1 (arm.hi) (by go_simp)
 have g4_0_1 := zfe w4 w.heap.size 1 (by go_simp)
 have c4_1_0 := zci w4 (w.heap.size + 1) 0 (0) (by go_simp)
 have g4_1_0 := zfe w4 (w.heap.size + 1) 0 (by go_simp)
 have c4_1_1 := zci w4 (w.heap.size + 1) 1 (0) (by go_simp)
 have g4_1_1 := zfe w4 (w.heap.size + 1) 1 (by go_simp)
 have c4_2_0 := zci w4 (w.heap.size + 1 + 1) 0 (0) (by go_simp)
 have g4_2_0 := zfe w4 (w.heap.size + 1 + 1) 0 (by go_simp)
 have c4_2_1 := zci w4 (w.heap.size + 1 + 1) 1 (0) (by go_simp)
 have g4_2_1 := zfe w4 (w.heap.size + 1 + 1) 1 (by go_simp)
 clear hc4 hf4 c3_0_0 g3_0_0 c3_0_1 g3_0_1 c3_1_0 g3_1_0 c3_1_1 g3_1_1 c3_2_0 g3_2_0 c3_2_1 g3_2_1
 have hbw : Below w.heap.size w w4 := blw_
 go_wp2_with fail
 go_loopw [17] (fun s17 wr => ∃ k : Nat, k ≤ n ∧ s17 = .int .i64 k ∧ (∀ j, j < k → 0 ≤ lo j) ∧ ES w wr w4.heap.size (smD f k lo hi hE).2 [(w4.heap.size + 1, (smD f k lo hi hE).1), (w.heap.size, arm), (w.heap.size + 1, .zero), (w.heap.size + 1 + 1, .zero)]) (fun s17 _ => n - (intOf s17).toNat)
 case atStart =>
  refine ⟨0, Nat.zero_le _, rfl, fun j hj => absurd hj (by omega), blw_, by omega, by simp only [World.size_alloc]; omega, by simp only [smD_zero]; go_simp, by go_simp, ?_, ?_⟩
  ·intro p hp
   simp only [List.mem_cons, List.not_mem_nil, or_false] at hp
   rcases hp with rfl | rfl | rfl | rfl
   all_goals (refine ⟨⟨?_, ?_, ?_, ?_, ?_⟩, ?_, ?_⟩)
   all_goals first | omega | (simp only [World.size_alloc, World.size_setCell]; omega) | (go_simp; done) | (simp only [smD_zero, FD.Sp.zero]; go_simp; done) | (dsimp only; omega)
  ·simp only [List.pairwise_cons, List.mem_cons, List.not_mem_nil, or_false, forall_eq_or_imp, forall_eq, List.Pairwise.nil, and_true, false_imp_iff, implies_true]
   omega
 case round =>
  obtain ⟨k, hk, rfl, hp0, hES⟩ := hrel
  have hW := hES.below
  have hs := hW.size
  clear AL PO NU PW hb1 hb2 hb3 hb4 c4_0_0 c4_0_1 g4_0_0 g4_0_1 c4_1_0 c4_1_1 g4_1_0 g4_1_1 c4_2_0 c4_2_1 g4_2_0 g4_2_1
  by_cases hlt : k < n
  ·obtain ⟨ad, hA, hl, hE'⟩ := HS.out wr hW (by omega)
   subst hA
   have t0 := (hE' k hlt).1
   have t1 := (hE' k hlt).2
   have hba := block_add ad
   have BK := hide (HB.out k (by omega))
   clear hE' F1 F2 F3 F4 F5 F6 F7 DW DL DN1 DN2 R2 R3
   by_cases hn : lo k < 0
   ·have hR := R1.out k hlt hn
    obtain ⟨lb, b0, b1, fb0, fb1⟩ := hES.at (p := w.heap.size + 1) (x := .zero) (by simp)
    obtain ⟨lc, c0, c1, fc0, fc1⟩ := hES.at (p := w.heap.size + 1 + 1) (x := .zero) (by simp)
    subst hR
    go_wp2
    refine bodyPost_ret (v := none3 2) (by simp only [results, Try.results17]; go_simp) rfl ⟨rfl, blw_⟩
   ·have hp1 : Hid (∀ j, j < k + 1 → 0 ≤ lo j) := hide (fun j hj => by rcases Nat.lt_succ_iff_lt_or_eq.1 hj with h | rfl; exact hp0 j h; omega)
    clear R1
    cases hb : bit f k
    ·rw [hb] at BK
     have hmore := hide (smD_more (lo := lo) (hi := hi) (hE := hE) hb)
     clear hb
     go_wp2_with fail
     refine (BK.out _).mono ?_
     rintro e w5 ⟨rfl, hb5⟩
     have hES5 := hES.quiet hb5
     have hz5 := hb5.size
     obtain ⟨lg, g0, g1, fg0, fg1⟩ := hES5.head
     have T0 : ∀ W', Below w5.heap.size w5 W' → W'.cell? (ad.add (k * 2)) = some (.int .i64 (lo k)) := fun W' hw => (hw.cell (p := ad.add (k * 2)) (by rw [block_add]; omega)).trans ((hb5.cell (p := ad.add (k * 2)) (by rw [block_add]; exact hl)).trans t0)
     have T1 : ∀ W', Below w5.heap.size w5 W' → W'.cell? ⟨ad.block, (ad.add (k * 2)).off + 1, none⟩ = some (.int .i64 (hi k)) := fun W' hw => (hw.cell (p := ⟨ad.block, _, none⟩) (by show ad.block < _; omega)).trans ((hb5.cell (p := ⟨ad.block, _, none⟩) hl).trans t1)
     clear t0 t1
     go_wp2_with fail
     refine QT.tail_b 6 (by kernel_rfl) (by kernel_rfl) ?_
     simp only [List.take_succ_cons, List.take_zero, List.drop_succ_cons, List.drop_zero]
     repeat (first
      | go_big_quiet_skip
      | (go_big_quiet_want; go_big_quiet_op; first
       | go_big_quiet_on
       | (apply Exists.intro
          refine ⟨fun _ => ?_, ?_⟩
          ·first
           | rfl
           | (intro hC; obtain ⟨hcq, hfq⟩ := bcellB hC; go_simp; done)
           | (intro hC; obtain ⟨hcq, hfq⟩ := bcellB hC; go_simp; rfl)
           | (intro hC; have hcq := bcellG hC; go_simp; done)
           | (intro hC; have hcq := bcellG hC; go_simp; rfl)
          go_big_quiet_on)))
     refine wpQuiet_nil ?_
     intro w9 hC9
     obtain ⟨hc9, hf9⟩ := bcellB hC9
     have hz9 := hC9.size
     have hES9 := hES5.quiet hC9
     clear T0 T1 hc9 hf9 g0 g1 fg0 fg1
     go_wp2_with fail
     refine (C_use cA hmore.out.symm _ _ hES9).mono ?_
     rintro r wb ⟨rfl, hESb⟩
     obtain ⟨lg, g0, g1, fg0, fg1⟩ := hESb.head
     go_wp2
     go_roundw
     case rel => exact ⟨k + 1, by omega, by go_num, hp1.out, hESb.sethead _⟩
     case measure => simp [intOf]; omega
    ·rw [hb] at BK
     have hgone := hide (smD_gone (lo := lo) (hi := hi) (hE := hE) hb)
     clear hb
     go_wp2_with fail
     refine (BK.out _).mono ?_
     rintro e w5 ⟨rfl, hb5⟩
     have hES5 := hES.quiet hb5
     go_wp2
     go_roundw
     case rel => exact ⟨k + 1, by omega, by go_num, hp1.out, by rw [hgone.out]; exact hES5⟩
     case measure => simp [intOf]; omega
  ·obtain rfl : k = n := by omega
   have hall := hide hp0
   have R3' : Hid (¬ ((smD f k lo hi hE).2 = 0 ∧ (smD f k lo hi hE).1.lo ≤ 0) → RV = _) := hide (R3.out hp0)
   have R2' := hide (R2.out hp0)
   clear R1 R2 R3 HB HS hlt hp0 HE hG hp hF hk h12
   generalize smD f k lo hi hE = s at *
   obtain ⟨s, E⟩ := s
   dsimp only at hES R2' R3' F1 F5
   obtain ⟨lg, g0, g1, fg0, fg1⟩ := hES.head
   have z0 := hES.z0
   have lz := hES.lz
   go_upto_region 17 with fail
   go_cut [100] from 91 to 99 (fun s100 wx => s100 = .bool (decide (E = 0 ∧ s.lo ≤ 0)) ∧ wx = wr)
   case first =>
    by_cases hE0 : E = 0
    ·subst hE0
     go_wp2_with fail
     go_meet
     exact ⟨by simp, rfl⟩
    ·have hE1 : (E == 0) = false := by simpa using hE0
     go_wp2_with fail
     go_meet
     exact ⟨by simp [hE0], rfl⟩
   case rest =>
    obtain ⟨rfl, rfl⟩ := hcut
    by_cases hz : E = 0 ∧ s.lo ≤ 0
    ·rw [decide_eq_true hz]
     have hR := R2'.out hz.1 hz.2
     obtain ⟨lb, b0, b1, fb0, fb1⟩ := hES.at (p := w.heap.size + 1) (x := .zero) (by simp)
     obtain ⟨lc, c0, c1, fc0, fc1⟩ := hES.at (p := w.heap.size + 1 + 1) (x := .zero) (by simp)
     subst hR
     clear hz
     go_wp2
     refine bodyPost_ret (v := none3 10) (by simp only [results, Try.results17]; go_simp) rfl ⟨rfl, blw_⟩
    ·rw [decide_eq_false hz]
     have hR := R3'.out hz
     subst hR
     clear R2' R3' hz
     clear lg g0 g1 fg0 fg1 z0 lz
     go_upto_region 19 with fail
     go_cut [19] from 103 to 110 (fun s19 wx => ∃ p : Nat, s19 = .pointer (some ⟨p, 0, none⟩) ∧ ES w wx w4.heap.size q2.2 ((p, q2.1) :: [(w4.heap.size + 1, s), (w.heap.size, arm), (w.heap.size + 1, .zero), (w.heap.size + 1 + 1, .zero)]))
     case first =>
      have hP_a := hES.drew
      have hQ_a := hES.new0.drew
      go_region_held3 (fun w' => w'.cell? ⟨w4.heap.size + 1, 0, none⟩ = some (.int .i64 s.lo) ∧ w'.cell? ⟨w4.heap.size + 1, 1, none⟩ = some (.int .i64 s.hi) ∧ w'.cell? ⟨w.heap.size, 0, none⟩ = some (.int .i64 arm.lo) ∧ w'.cell? ⟨w.heap.size, 1, none⟩ = some (.int .i64 arm.hi))
       (first | exact ⟨(hQ_a.at (p := w4.heap.size + 1) (x := s) (by simp)).2.1, (hQ_a.at (p := w4.heap.size + 1) (x := s) (by simp)).2.2.1, (hQ_a.at (p := w.heap.size) (x := arm) (by simp)).2.1, (hQ_a.at (p := w.heap.size) (x := arm) (by simp)).2.2.1⟩ | exact ⟨((hP_a2.sethead q2.1).at (p := w4.heap.size + 1) (x := s) (by simp)).2.1, ((hP_a2.sethead q2.1).at (p := w4.heap.size + 1) (x := s) (by simp)).2.2.1, ((hP_a2.sethead q2.1).at (p := w.heap.size) (x := arm) (by simp)).2.1, ((hP_a2.sethead q2.1).at (p := w.heap.size) (x := arm) (by simp)).2.2.1⟩ | exact ⟨((hP_a2.new q2.1).at (p := w4.heap.size + 1) (x := s) (by simp)).2.1, ((hP_a2.new q2.1).at (p := w4.heap.size + 1) (x := s) (by simp)).2.2.1, ((hP_a2.new q2.1).at (p := w.heap.size) (x := arm) (by simp)).2.1, ((hP_a2.new q2.1).at (p := w.heap.size) (x := arm) (by simp)).2.2.1⟩ | exact ⟨(hP_a2.new0.at (p := w4.heap.size + 1) (x := s) (by simp)).2.1, (hP_a2.new0.at (p := w4.heap.size + 1) (x := s) (by simp)).2.2.1, (hP_a2.new0.at (p := w.heap.size) (x := arm) (by simp)).2.1, (hP_a2.new0.at (p := w.heap.size) (x := arm) (by simp)).2.2.1⟩ | exact ⟨(hP_a2.at (p := w4.heap.size + 1) (x := s) (by simp)).2.1, (hP_a2.at (p := w4.heap.size + 1) (x := s) (by simp)).2.2.1, (hP_a2.at (p := w.heap.size) (x := arm) (by simp)).2.1, (hP_a2.at (p := w.heap.size) (x := arm) (by simp)).2.2.1⟩ | exact ⟨(hP_a1.new0.at (p := w4.heap.size + 1) (x := s) (by simp)).2.1, (hP_a1.new0.at (p := w4.heap.size + 1) (x := s) (by simp)).2.2.1, (hP_a1.new0.at (p := w.heap.size) (x := arm) (by simp)).2.1, (hP_a1.new0.at (p := w.heap.size) (x := arm) (by simp)).2.2.1⟩ | exact ⟨(hP_a1.at (p := w4.heap.size + 1) (x := s) (by simp)).2.1, (hP_a1.at (p := w4.heap.size + 1) (x := s) (by simp)).2.2.1, (hP_a1.at (p := w.heap.size) (x := arm) (by simp)).2.1, (hP_a1.at (p := w.heap.size) (x := arm) (by simp)).2.2.1⟩ | exact ⟨(hP_a0.new0.at (p := w4.heap.size + 1) (x := s) (by simp)).2.1, (hP_a0.new0.at (p := w4.heap.size + 1) (x := s) (by simp)).2.2.1, (hP_a0.new0.at (p := w.heap.size) (x := arm) (by simp)).2.1, (hP_a0.new0.at (p := w.heap.size) (x := arm) (by simp)).2.2.1⟩ | exact ⟨(hP_a0.at (p := w4.heap.size + 1) (x := s) (by simp)).2.1, (hP_a0.at (p := w4.heap.size + 1) (x := s) (by simp)).2.2.1, (hP_a0.at (p := w.heap.size) (x := arm) (by simp)).2.1, (hP_a0.at (p := w.heap.size) (x := arm) (by simp)).2.2.1⟩ | exact ⟨(hP_a.new0.at (p := w4.heap.size + 1) (x := s) (by simp)).2.1, (hP_a.new0.at (p := w4.heap.size + 1) (x := s) (by simp)).2.2.1, (hP_a.new0.at (p := w.heap.size) (x := arm) (by simp)).2.1, (hP_a.new0.at (p := w.heap.size) (x := arm) (by simp)).2.2.1⟩ | exact ⟨(hP_a.at (p := w4.heap.size + 1) (x := s) (by simp)).2.1, (hP_a.at (p := w4.heap.size + 1) (x := s) (by simp)).2.2.1, (hP_a.at (p := w.heap.size) (x := arm) (by simp)).2.1, (hP_a.at (p := w.heap.size) (x := arm) (by simp)).2.2.1⟩)
       (first | (go_at_call 59; (first | with_reducible refine (F2.out _ _ _ hP_a1).mono ?_ | with_reducible refine (F2.out _ _ _ (hP_a1.new0)).mono ?_); rintro r w_hP_a2 ⟨rfl, hP_a2⟩; obtain ⟨x0_hP_a2, x1_hP_a2, x2_hP_a2, x3_hP_a2, x4_hP_a2⟩ := hP_a2.head) | (go_at_call 59; (first | with_reducible refine (F1.out _ _ _ hP_a0).mono ?_ | with_reducible refine (F1.out _ _ _ (hP_a0.new0)).mono ?_); rintro r w_hP_a1 ⟨rfl, hP_a1⟩; obtain ⟨x0_hP_a1, x1_hP_a1, x2_hP_a1, x3_hP_a1, x4_hP_a1⟩ := hP_a1.head) | (go_at_call 25; (first | with_reducible refine (DW.out _ _ _ _ hP_a).mono ?_ | with_reducible refine (DW.out _ _ _ _ (hQ_a)).mono ?_); rintro r w_hP_a0 ⟨rfl, hP_a0⟩; obtain ⟨x0_hP_a0, x1_hP_a0, x2_hP_a0, x3_hP_a0, x4_hP_a0⟩ := hP_a0.head))
      all_goals go_wp2_with fail
      all_goals go_meet
      all_goals (refine ⟨_, rfl, ?_⟩; first | exact hP_a2.sethead q2.1 | exact hP_a2.new q2.1)
     case rest =>
      obtain ⟨p1, rfl, hES1⟩ := hcut
      clear hES F1 F2
      go_upto_region 20 with fail
      go_cut [20, 21] from 111 to 117 (fun s20 s21 wx => ∃ p : Nat, s20 = .pointer (some ⟨p, 0, none⟩) ∧ s21 = .int .i64 q3.2 ∧ ES w wx w4.heap.size q2.2 ((p, q3.1) :: (p1, q2.1) :: [(w4.heap.size + 1, s), (w.heap.size, arm), (w.heap.size + 1, .zero), (w.heap.size + 1 + 1, .zero)]))
      case first =>
       have hP_b := hES1.drew
       have hQ_b := hES1.new0.drew
       go_region_held3 (fun w' => w'.cell? ⟨p1, 0, none⟩ = some (.int .i64 q2.1.lo) ∧ w'.cell? ⟨p1, 1, none⟩ = some (.int .i64 q2.1.hi))
        (first | exact ⟨(hQ_b.at (p := p1) (x := q2.1) (by simp)).2.1, (hQ_b.at (p := p1) (x := q2.1) (by simp)).2.2.1⟩ | exact ⟨((hP_b1.sethead q3.1).at (p := p1) (x := q2.1) (by simp)).2.1, ((hP_b1.sethead q3.1).at (p := p1) (x := q2.1) (by simp)).2.2.1⟩ | exact ⟨((hP_b1.new q3.1).at (p := p1) (x := q2.1) (by simp)).2.1, ((hP_b1.new q3.1).at (p := p1) (x := q2.1) (by simp)).2.2.1⟩ | exact ⟨(hP_b1.new0.at (p := p1) (x := q2.1) (by simp)).2.1, (hP_b1.new0.at (p := p1) (x := q2.1) (by simp)).2.2.1⟩ | exact ⟨(hP_b1.at (p := p1) (x := q2.1) (by simp)).2.1, (hP_b1.at (p := p1) (x := q2.1) (by simp)).2.2.1⟩ | exact ⟨(hP_b0.new0.at (p := p1) (x := q2.1) (by simp)).2.1, (hP_b0.new0.at (p := p1) (x := q2.1) (by simp)).2.2.1⟩ | exact ⟨(hP_b0.at (p := p1) (x := q2.1) (by simp)).2.1, (hP_b0.at (p := p1) (x := q2.1) (by simp)).2.2.1⟩ | exact ⟨(hP_b.new0.at (p := p1) (x := q2.1) (by simp)).2.1, (hP_b.new0.at (p := p1) (x := q2.1) (by simp)).2.2.1⟩ | exact ⟨(hP_b.at (p := p1) (x := q2.1) (by simp)).2.1, (hP_b.at (p := p1) (x := q2.1) (by simp)).2.2.1⟩)
        (first | (go_at_call 60; (first | with_reducible refine (F3.out _ _ _ _ hP_b0).mono ?_ | with_reducible refine (F3.out _ _ _ _ (hP_b0.new0)).mono ?_); rintro r w_hP_b1 ⟨rfl, hP_b1⟩; obtain ⟨x0_hP_b1, x1_hP_b1, x2_hP_b1, x3_hP_b1, x4_hP_b1⟩ := hP_b1.head) | (go_at_call 25; (first | with_reducible refine (DL.out _ _ _ _ hP_b).mono ?_ | with_reducible refine (DL.out _ _ _ _ (hQ_b)).mono ?_); rintro r w_hP_b0 ⟨rfl, hP_b0⟩; obtain ⟨x0_hP_b0, x1_hP_b0, x2_hP_b0, x3_hP_b0, x4_hP_b0⟩ := hP_b0.head))
       all_goals go_wp2_with fail
       all_goals go_meet
       all_goals (refine ⟨_, rfl, rfl, ?_⟩; first | exact hP_b1.sethead q3.1 | exact hP_b1.new q3.1)
      case rest =>
       obtain ⟨p2, rfl, rfl, hES2⟩ := hcut
       clear hES1 F3 DL
       go_upto_region 21 with fail
       go_cut [22, 23] from 118 to 125 (fun s22 s23 wx => ∃ p : Nat, s22 = .pointer (some ⟨p, 0, none⟩) ∧ s23 = .int .i64 q4.2 ∧ ES w wx w4.heap.size q2.2 ((p, q4.1) :: (p2, q3.1) :: (p1, q2.1) :: [(w4.heap.size + 1, s), (w.heap.size, arm), (w.heap.size + 1, .zero), (w.heap.size + 1 + 1, .zero)]))
       case first =>
        have hP_c := hES2.drew
        have hQ_c := hES2.new0.drew
        go_region_held3 (fun w' => w'.cell? ⟨p2, 0, none⟩ = some (.int .i64 q3.1.lo) ∧ w'.cell? ⟨p2, 1, none⟩ = some (.int .i64 q3.1.hi))
         (first | exact ⟨(hQ_c.at (p := p2) (x := q3.1) (by simp)).2.1, (hQ_c.at (p := p2) (x := q3.1) (by simp)).2.2.1⟩ | exact ⟨((hP_c1.sethead q4.1).at (p := p2) (x := q3.1) (by simp)).2.1, ((hP_c1.sethead q4.1).at (p := p2) (x := q3.1) (by simp)).2.2.1⟩ | exact ⟨((hP_c1.new q4.1).at (p := p2) (x := q3.1) (by simp)).2.1, ((hP_c1.new q4.1).at (p := p2) (x := q3.1) (by simp)).2.2.1⟩ | exact ⟨(hP_c1.new0.at (p := p2) (x := q3.1) (by simp)).2.1, (hP_c1.new0.at (p := p2) (x := q3.1) (by simp)).2.2.1⟩ | exact ⟨(hP_c1.at (p := p2) (x := q3.1) (by simp)).2.1, (hP_c1.at (p := p2) (x := q3.1) (by simp)).2.2.1⟩ | exact ⟨(hP_c0.new0.at (p := p2) (x := q3.1) (by simp)).2.1, (hP_c0.new0.at (p := p2) (x := q3.1) (by simp)).2.2.1⟩ | exact ⟨(hP_c0.at (p := p2) (x := q3.1) (by simp)).2.1, (hP_c0.at (p := p2) (x := q3.1) (by simp)).2.2.1⟩ | exact ⟨(hP_c.new0.at (p := p2) (x := q3.1) (by simp)).2.1, (hP_c.new0.at (p := p2) (x := q3.1) (by simp)).2.2.1⟩ | exact ⟨(hP_c.at (p := p2) (x := q3.1) (by simp)).2.1, (hP_c.at (p := p2) (x := q3.1) (by simp)).2.2.1⟩)
         (first | (go_at_call 61; (first | with_reducible refine (F4.out _ _ _ _ hP_c0).mono ?_ | with_reducible refine (F4.out _ _ _ _ (hP_c0.new0)).mono ?_); rintro r w_hP_c1 ⟨rfl, hP_c1⟩; obtain ⟨x0_hP_c1, x1_hP_c1, x2_hP_c1, x3_hP_c1, x4_hP_c1⟩ := hP_c1.head) | (go_at_call 25; (first | with_reducible refine (DN2.out _ _ _ _ hP_c).mono ?_ | with_reducible refine (DN2.out _ _ _ _ (hQ_c)).mono ?_); rintro r w_hP_c0 ⟨rfl, hP_c0⟩; obtain ⟨x0_hP_c0, x1_hP_c0, x2_hP_c0, x3_hP_c0, x4_hP_c0⟩ := hP_c0.head) | (go_at_call 25; (first | with_reducible refine (DN1.out _ _ _ _ hP_c).mono ?_ | with_reducible refine (DN1.out _ _ _ _ (hQ_c)).mono ?_); rintro r w_hP_c0 ⟨rfl, hP_c0⟩; obtain ⟨x0_hP_c0, x1_hP_c0, x2_hP_c0, x3_hP_c0, x4_hP_c0⟩ := hP_c0.head))
        all_goals go_wp2_with fail
        all_goals go_meet
        all_goals (refine ⟨_, rfl, rfl, ?_⟩; first | exact hP_c1.sethead q4.1 | exact hP_c1.new q4.1)
       case rest =>
        obtain ⟨p3, rfl, rfl, hES3⟩ := hcut
        clear hES2 F4 DN1 DN2
        go_upto_region 22 with fail
        go_cut [24] from 126 to 136 (fun s24 wx => ∃ p : Nat, s24 = .pointer (some ⟨p, 0, none⟩) ∧ ES w wx w4.heap.size q7.2 ((p, q7.1) :: (p3, q4.1) :: (p2, q3.1) :: (p1, q2.1) :: [(w4.heap.size + 1, s), (w.heap.size, arm), (w.heap.size + 1, .zero), (w.heap.size + 1 + 1, .zero)]))
        case first =>
         have hP_d := hES3.drew
         have hQ_d := hES3.new0.drew
         go_region_held3 (fun w' => w'.cell? ⟨w4.heap.size + 1, 0, none⟩ = some (.int .i64 s.lo) ∧ w'.cell? ⟨w4.heap.size + 1, 1, none⟩ = some (.int .i64 s.hi) ∧ w'.cell? ⟨w.heap.size, 0, none⟩ = some (.int .i64 arm.lo) ∧ w'.cell? ⟨w.heap.size, 1, none⟩ = some (.int .i64 arm.hi) ∧ w'.cell? ⟨p3, 0, none⟩ = some (.int .i64 q4.1.lo) ∧ w'.cell? ⟨p3, 1, none⟩ = some (.int .i64 q4.1.hi))
          (first | exact ⟨(hQ_d.at (p := w4.heap.size + 1) (x := s) (by simp)).2.1, (hQ_d.at (p := w4.heap.size + 1) (x := s) (by simp)).2.2.1, (hQ_d.at (p := w.heap.size) (x := arm) (by simp)).2.1, (hQ_d.at (p := w.heap.size) (x := arm) (by simp)).2.2.1, (hQ_d.at (p := p3) (x := q4.1) (by simp)).2.1, (hQ_d.at (p := p3) (x := q4.1) (by simp)).2.2.1⟩ | exact ⟨((hP_d3.sethead q7.1).at (p := w4.heap.size + 1) (x := s) (by simp)).2.1, ((hP_d3.sethead q7.1).at (p := w4.heap.size + 1) (x := s) (by simp)).2.2.1, ((hP_d3.sethead q7.1).at (p := w.heap.size) (x := arm) (by simp)).2.1, ((hP_d3.sethead q7.1).at (p := w.heap.size) (x := arm) (by simp)).2.2.1, ((hP_d3.sethead q7.1).at (p := p3) (x := q4.1) (by simp)).2.1, ((hP_d3.sethead q7.1).at (p := p3) (x := q4.1) (by simp)).2.2.1⟩ | exact ⟨((hP_d3.new q7.1).at (p := w4.heap.size + 1) (x := s) (by simp)).2.1, ((hP_d3.new q7.1).at (p := w4.heap.size + 1) (x := s) (by simp)).2.2.1, ((hP_d3.new q7.1).at (p := w.heap.size) (x := arm) (by simp)).2.1, ((hP_d3.new q7.1).at (p := w.heap.size) (x := arm) (by simp)).2.2.1, ((hP_d3.new q7.1).at (p := p3) (x := q4.1) (by simp)).2.1, ((hP_d3.new q7.1).at (p := p3) (x := q4.1) (by simp)).2.2.1⟩ | exact ⟨(hP_d3.new0.at (p := w4.heap.size + 1) (x := s) (by simp)).2.1, (hP_d3.new0.at (p := w4.heap.size + 1) (x := s) (by simp)).2.2.1, (hP_d3.new0.at (p := w.heap.size) (x := arm) (by simp)).2.1, (hP_d3.new0.at (p := w.heap.size) (x := arm) (by simp)).2.2.1, (hP_d3.new0.at (p := p3) (x := q4.1) (by simp)).2.1, (hP_d3.new0.at (p := p3) (x := q4.1) (by simp)).2.2.1⟩ | exact ⟨(hP_d3.at (p := w4.heap.size + 1) (x := s) (by simp)).2.1, (hP_d3.at (p := w4.heap.size + 1) (x := s) (by simp)).2.2.1, (hP_d3.at (p := w.heap.size) (x := arm) (by simp)).2.1, (hP_d3.at (p := w.heap.size) (x := arm) (by simp)).2.2.1, (hP_d3.at (p := p3) (x := q4.1) (by simp)).2.1, (hP_d3.at (p := p3) (x := q4.1) (by simp)).2.2.1⟩ | exact ⟨(hP_d2.new0.at (p := w4.heap.size + 1) (x := s) (by simp)).2.1, (hP_d2.new0.at (p := w4.heap.size + 1) (x := s) (by simp)).2.2.1, (hP_d2.new0.at (p := w.heap.size) (x := arm) (by simp)).2.1, (hP_d2.new0.at (p := w.heap.size) (x := arm) (by simp)).2.2.1, (hP_d2.new0.at (p := p3) (x := q4.1) (by simp)).2.1, (hP_d2.new0.at (p := p3) (x := q4.1) (by simp)).2.2.1⟩ | exact ⟨(hP_d2.at (p := w4.heap.size + 1) (x := s) (by simp)).2.1, (hP_d2.at (p := w4.heap.size + 1) (x := s) (by simp)).2.2.1, (hP_d2.at (p := w.heap.size) (x := arm) (by simp)).2.1, (hP_d2.at (p := w.heap.size) (x := arm) (by simp)).2.2.1, (hP_d2.at (p := p3) (x := q4.1) (by simp)).2.1, (hP_d2.at (p := p3) (x := q4.1) (by simp)).2.2.1⟩ | exact ⟨(hP_d1.new0.at (p := w4.heap.size + 1) (x := s) (by simp)).2.1, (hP_d1.new0.at (p := w4.heap.size + 1) (x := s) (by simp)).2.2.1, (hP_d1.new0.at (p := w.heap.size) (x := arm) (by simp)).2.1, (hP_d1.new0.at (p := w.heap.size) (x := arm) (by simp)).2.2.1, (hP_d1.new0.at (p := p3) (x := q4.1) (by simp)).2.1, (hP_d1.new0.at (p := p3) (x := q4.1) (by simp)).2.2.1⟩ | exact ⟨(hP_d1.at (p := w4.heap.size + 1) (x := s) (by simp)).2.1, (hP_d1.at (p := w4.heap.size + 1) (x := s) (by simp)).2.2.1, (hP_d1.at (p := w.heap.size) (x := arm) (by simp)).2.1, (hP_d1.at (p := w.heap.size) (x := arm) (by simp)).2.2.1, (hP_d1.at (p := p3) (x := q4.1) (by simp)).2.1, (hP_d1.at (p := p3) (x := q4.1) (by simp)).2.2.1⟩ | exact ⟨(hP_d0.new0.at (p := w4.heap.size + 1) (x := s) (by simp)).2.1, (hP_d0.new0.at (p := w4.heap.size + 1) (x := s) (by simp)).2.2.1, (hP_d0.new0.at (p := w.heap.size) (x := arm) (by simp)).2.1, (hP_d0.new0.at (p := w.heap.size) (x := arm) (by simp)).2.2.1, (hP_d0.new0.at (p := p3) (x := q4.1) (by simp)).2.1, (hP_d0.new0.at (p := p3) (x := q4.1) (by simp)).2.2.1⟩ | exact ⟨(hP_d0.at (p := w4.heap.size + 1) (x := s) (by simp)).2.1, (hP_d0.at (p := w4.heap.size + 1) (x := s) (by simp)).2.2.1, (hP_d0.at (p := w.heap.size) (x := arm) (by simp)).2.1, (hP_d0.at (p := w.heap.size) (x := arm) (by simp)).2.2.1, (hP_d0.at (p := p3) (x := q4.1) (by simp)).2.1, (hP_d0.at (p := p3) (x := q4.1) (by simp)).2.2.1⟩ | exact ⟨(hP_d.new0.at (p := w4.heap.size + 1) (x := s) (by simp)).2.1, (hP_d.new0.at (p := w4.heap.size + 1) (x := s) (by simp)).2.2.1, (hP_d.new0.at (p := w.heap.size) (x := arm) (by simp)).2.1, (hP_d.new0.at (p := w.heap.size) (x := arm) (by simp)).2.2.1, (hP_d.new0.at (p := p3) (x := q4.1) (by simp)).2.1, (hP_d.new0.at (p := p3) (x := q4.1) (by simp)).2.2.1⟩ | exact ⟨(hP_d.at (p := w4.heap.size + 1) (x := s) (by simp)).2.1, (hP_d.at (p := w4.heap.size + 1) (x := s) (by simp)).2.2.1, (hP_d.at (p := w.heap.size) (x := arm) (by simp)).2.1, (hP_d.at (p := w.heap.size) (x := arm) (by simp)).2.2.1, (hP_d.at (p := p3) (x := q4.1) (by simp)).2.1, (hP_d.at (p := p3) (x := q4.1) (by simp)).2.2.1⟩)
          (first | (go_at_call 24; (first | with_reducible refine (F7.out _ _ _ hP_d2).mono ?_ | with_reducible refine (F7.out _ _ _ (hP_d2.new0)).mono ?_); rintro r w_hP_d3 ⟨rfl, hP_d3⟩; obtain ⟨x0_hP_d3, x1_hP_d3, x2_hP_d3, x3_hP_d3, x4_hP_d3⟩ := hP_d3.head) | (go_at_call 23; (first | with_reducible refine (F6.out _ _ _ hP_d1).mono ?_ | with_reducible refine (F6.out _ _ _ (hP_d1.new0)).mono ?_); rintro r w_hP_d2 ⟨rfl, hP_d2⟩; obtain ⟨x0_hP_d2, x1_hP_d2, x2_hP_d2, x3_hP_d2, x4_hP_d2⟩ := hP_d2.head) | (go_at_call 23; (first | with_reducible refine (F5.out _ _ _ hP_d0).mono ?_ | with_reducible refine (F5.out _ _ _ (hP_d0.new0)).mono ?_); rintro r w_hP_d1 ⟨rfl, hP_d1⟩; obtain ⟨x0_hP_d1, x1_hP_d1, x2_hP_d1, x3_hP_d1, x4_hP_d1⟩ := hP_d1.head) | (go_at_call 25; (first | with_reducible refine (DW.out _ _ _ _ hP_d).mono ?_ | with_reducible refine (DW.out _ _ _ _ (hQ_d)).mono ?_); rintro r w_hP_d0 ⟨rfl, hP_d0⟩; obtain ⟨x0_hP_d0, x1_hP_d0, x2_hP_d0, x3_hP_d0, x4_hP_d0⟩ := hP_d0.head))
         all_goals go_wp2_with fail
         all_goals go_meet
         all_goals (refine ⟨_, rfl, ?_⟩; first | exact hP_d3.sethead q7.1 | exact hP_d3.new q7.1)
        case rest =>
         obtain ⟨p4, rfl, hES4⟩ := hcut
         clear hES3 F5 F6 F7 DW
         obtain ⟨l3, c30, c31, f30, f31⟩ := hES4.at (p := p3) (x := q4.1) (by simp)
         obtain ⟨l4, c40, c41, f40, f41⟩ := hES4.head
         go_wp2_with fail
         refine (done_any w4.heap.size q7.2 q4.1.lo q4.1.hi q7.1.lo q7.1.hi _ hES4.z0 hES4.lz).mono ?_
         rintro r wz ⟨rfl, hbz⟩
         have hES5 := hES4.quiet hbz
         clear l3 c30 c31 f30 f31 l4 c40 c41 f40 f41 hES4
         have hW5 := hES5.below
         obtain ⟨lb, b0, b1, fb0, fb1⟩ := hES5.at (p := w.heap.size + 1) (x := .zero) (by simp)
         obtain ⟨lc, c0, c1, fc0, fc1⟩ := hES5.at (p := w.heap.size + 1 + 1) (x := .zero) (by simp)
         go_wp2
         refine bodyPost_ret (v := .tuple #[.agg #[.int .i64 (ckV q7.2 q4.1.lo), .int .i64 (ckV q7.2 q4.1.hi)], .agg #[.int .i64 (ckV q7.2 q7.1.lo), .int .i64 (ckV q7.2 q7.1.hi)], .int .i64 q7.2]) (by simp only [results, Try.results17]; go_simp) rfl ⟨rfl, blw_⟩
end Sw
end
section
set_option maxRecDepth 100000
open Go.RowKit
open FP
namespace Sw
theorem oE_fits {lo hi : Int} (h : oE lo hi = 0) : fits lo hi = true := by
 unfold oE at h
 split at h
 ·assumption
 ·exact absurd h (by decide)
theorem fits_at {lo hi : Int} (h : fits lo hi = true) : -9223372036854775807 ≤ lo := (of_decide_eq_true h).1
theorem stD_valid {a b : FD.Sp} (h : (stD a b).2 = 0) : vB (stD a b).1.lo (stD a b).1.hi = true := by
 unfold stD at h ⊢
 dsimp only at h ⊢
 cases hv : vv a b
 ·rw [hv] at h; exact absurd h (by simp [errE])
 ·rw [hv] at h
  simp only [errE, if_true] at h
  cases hz : zB b.lo b.hi
  ·rw [hz] at h
   simp only [zE, Bool.false_eq_true, if_false] at h
   have hf := oE_fits h
   simp only [okI, zI, oLo, oHi, hf, if_true, Bool.false_eq_true, if_false]
   have hb := vB_tt (Bool.and_eq_true_iff.1 hv).2
   have hz' := of_decide_eq_false hz
   have n1 : ¬ b.lo = 0 := by omega
   have n2 : ¬ b.hi = 0 := by omega
   refine vB_t (fits_at hf) (mm_le ?_ ?_)
   ·exact mm_le (share_le _ _ _ n1) (share_le _ _ _ n2)
   ·exact mm_le (share_le _ _ _ n1) (share_le _ _ _ n2)
  ·rw [hz] at h
   exact absurd h (by simp [zE])
theorem stepA_valid {a b : FD.Sp} (h : (stepA a b).2 = 0) (ha : 0 ≤ a.lo) (hb : 0 ≤ b.lo) : vB (stepA a b).1.lo (stepA a b).1.hi = true ∧ 0 ≤ (stepA a b).1.lo := by
 unfold stepA at h ⊢
 dsimp only at h ⊢
 cases hv : (vB a.lo a.hi && vB b.lo b.hi)
 ·rw [hv] at h; exact absurd h (by simp [errE])
 ·rw [hv] at h
  simp only [errE, if_true] at h
  have hf := oE_fits h
  simp only [okI, oLo, oHi, hf, if_true]
  have h1 := vB_tt (Bool.and_eq_true_iff.1 hv).1
  have h2 := vB_tt (Bool.and_eq_true_iff.1 hv).2
  exact ⟨vB_t (fits_at hf) (by omega), by omega⟩
theorem smD_valid (f : Int) (lo hi : Nat → Int) (hE : ∀ j, FD.In64 (lo j) ∧ FD.In64 (hi j)) : ∀ k, (∀ j, j < k → 0 ≤ lo j) → (smD f k lo hi hE).2 = 0 → vB (smD f k lo hi hE).1.lo (smD f k lo hi hE).1.hi = true ∧ 0 ≤ (smD f k lo hi hE).1.lo
 | 0, _, _ => by rw [smD_zero]; exact ⟨rfl, Int.le_refl _⟩
 | k + 1, hp, h => by
  have hp' : ∀ j, j < k → 0 ≤ lo j := fun j hj => hp j (by omega)
  cases hb : bit f k
  ·rw [smD_more hb] at h ⊢
   by_cases h0 : (smD f k lo hi hE).2 = 0
   ·obtain ⟨v, l⟩ := smD_valid f lo hi hE k hp' h0
    unfold ck at h ⊢
    rw [if_pos h0] at h ⊢
    exact stepA_valid h l (hp k (by omega))
   ·unfold ck at h
    rw [if_neg h0] at h
    exact absurd h h0
  ·rw [smD_gone hb] at h ⊢
   exact smD_valid f lo hi hE k hp' h
theorem smP_smD (f : Int) (n : Nat) (lo hi : Nat → Int) (hE : ∀ j, FD.In64 (lo j) ∧ FD.In64 (hi j)) : (smP f n lo hi hE).2 = (smD f n lo hi hE).2 ∧ ((smD f n lo hi hE).2 = 0 → (smP f n lo hi hE).1 = (smD f n lo hi hE).1) := doc_fold stepA f (FD.el lo hi hE) n
theorem ck_bad {e : Int} {x : FD.Sp × Int} (h : ¬ e = 0) : ck e x = (.zero, e) := if_neg h
theorem ck_good (x : FD.Sp × Int) : ck 0 x = x := if_pos rfl
def finP (s arm wp lm nl : FD.Sp) : FD.Sp × FD.Sp × Int :=
 let q1 := ck 0 (stD wp s)
 let q2 := ck q1.2 (stD q1.1 arm)
 let q3 := ck q2.2 (stN lm q2.1)
 let q4 := ck q3.2 (stX nl q3.1)
 let q5 := ck q4.2 (stM s arm)
 let q6 := ck q5.2 (stM q5.1 q4.1)
 let q7 := ck q6.2 (stS wp q6.1)
 (q4.1, q7.1, q7.2)
def finD (e : Int) (s arm wp lm nl : FD.Sp) : FD.Sp × FD.Sp × Int :=
 let q1 := ck e (stD wp s)
 let q2 := ck q1.2 (stD q1.1 arm)
 let q3 := stN lm q2.1
 let q4 := stX nl q3.1
 let q5 := ck q2.2 (stM s arm)
 let q6 := ck q5.2 (stM q5.1 q4.1)
 let q7 := ck q6.2 (stS wp q6.1)
 (q4.1, q7.1, q7.2)
def told (x : FD.Sp × FD.Sp × Int) : Value := .tuple #[.agg #[.int .i64 (ckV x.2.2 x.1.lo), .int .i64 (ckV x.2.2 x.1.hi)], .agg #[.int .i64 (ckV x.2.2 x.2.1.lo), .int .i64 (ckV x.2.2 x.2.1.hi)], .int .i64 x.2.2]
theorem told_bad {x : FD.Sp × FD.Sp × Int} (h : ¬ x.2.2 = 0) : told x = none3 x.2.2 := by
 unfold told none3 ckV
 rw [if_neg h, if_neg h, if_neg h, if_neg h]
theorem finD_bad {e : Int} {s arm wp lm nl : FD.Sp} (h : ¬ e = 0) : told (finD e s arm wp lm nl) = none3 e := by
 have k : (finD e s arm wp lm nl).2.2 = e := by
  unfold finD
  simp only [ck_bad h]
 rw [told_bad (by rw [k]; exact h), k]
theorem finP_bad1 {s arm wp lm nl : FD.Sp} (h : ¬ (stD wp s).2 = 0) : told (finP s arm wp lm nl) = none3 (stD wp s).2 := by
 have k : (finP s arm wp lm nl).2.2 = (stD wp s).2 := by
  unfold finP
  simp only [ck_good, ck_bad h]
 rw [told_bad (by rw [k]; exact h), k]
theorem fin_same (s arm wp lm nl : FD.Sp) (hl : vB lm.lo lm.hi = true) (hn : vB nl.lo nl.hi = true) : told (finP s arm wp lm nl) = told (finD 0 s arm wp lm nl) := by
 unfold finP finD
 dsimp only
 rw [ck_good]
 have nd := stD_valid (a := (stD wp s).1) (b := arm)
 have z1 := nD wp s
 generalize stD wp s = x1 at *
 by_cases h1 : x1.2 = 0
 ·rw [h1]
  rw [ck_good]
  generalize stD x1.1 arm = x2 at *
  by_cases h2 : x2.2 = 0
  ·have v2 := nd h2
   rw [h2]
   have v3 : vB (mi lm.lo x2.1.lo) (mi lm.hi x2.1.hi) = true := by
    have a := vB_tt hl
    have b := vB_tt v2
    unfold mi
    exact vB_t (by split <;> omega) (by split <;> split <;> omega)
   have e3 : (stN lm x2.1).2 = 0 := by unfold stN; simp [vv, hl, v2, errE]
   have w3 : (stN lm x2.1).1.lo = mi lm.lo x2.1.lo ∧ (stN lm x2.1).1.hi = mi lm.hi x2.1.hi := by unfold stN; simp [vv, hl, v2, okI]
   have v4 : vv nl (stN lm x2.1).1 = true := by unfold vv; rw [w3.1, w3.2, v3, hn]; rfl
   have e4 : (stX nl (stN lm x2.1).1).2 = 0 := by unfold stX; simp [v4, errE]
   simp only [ck_good, e3, e4]
  ·have k1 : ∀ x, ck x2.2 x = (.zero, x2.2) := fun x => ck_bad h2
   rw [told_bad, told_bad]
   ·simp only [k1]
   ·simp only [k1]; exact h2
   ·simp only [k1]; exact h2
 ·have k1 : ∀ x, ck x1.2 x = (.zero, x1.2) := fun x => ck_bad h1
  rw [told_bad, told_bad]
  ·simp only [k1]
  ·simp only [k1]; exact h1
  ·simp only [k1]; exact h1
theorem stD_zero {a b : FD.Sp} (ha : vB a.lo a.hi = true) (hb : vB b.lo b.hi = true) (h : b.lo = 0) : (stD a b).2 = 10 := by
 have hh := vB_tt hb
 have z : zB b.lo b.hi = true := decide_eq_true (by omega)
 unfold stD
 simp [vv, ha, hb, errE, zE, z]
end Sw
end
end Go.Proofs.Ytacpahebbnnckaa
