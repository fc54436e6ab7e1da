/- Packed: LnB LnC. -/
import Derived.Test.YtkkanjeamngdiaaDoorP11
import Derived.Test.YtkkanjeamngdiaaDoorP13
set_option linter.unusedVariables false
set_option linter.unusedSimpArgs false
namespace Go.Proofs.YtkkanjeamngdiaaDoor
section
open Go.RowKit
namespace Ln
def pickN (a b y : Int) : Int := a + y % (b - a + 1)
theorem pick_in {a b : Int} (y : Int) (h : a ≤ b) : a ≤ pickN a b y ∧ pickN a b y ≤ b := by
 have h1 : 0 ≤ y % (b - a + 1) := Int.emod_nonneg _ (by omega)
 have h2 : y % (b - a + 1) < b - a + 1 := Int.emod_lt_of_pos _ (by omega)
 unfold pickN
 omega
theorem wrapU (x : Int) : IntKind.wrap .u64 x = x % 18446744073709551616 := by
 unfold IntKind.wrap; simp [IntKind.bits, IntKind.signed]
theorem wrapI (x : Int) : IntKind.wrap .i64 x = if x % 18446744073709551616 ≥ 9223372036854775808 then x % 18446744073709551616 - 18446744073709551616 else x % 18446744073709551616 := by
 unfold IntKind.wrap; simp [IntKind.bits, IntKind.signed]
theorem pick_any (a b y : Int) (ha : -9223372036854775807 ≤ a) (hab : a ≤ b) (hb : b ≤ 9223372036854775807) (hy : 0 ≤ y) (w : World) :
  Calls Tryd.prog 8 #[.agg #[.int .i64 (a), .int .i64 (b)], .int .u64 y] w fun e w' => e = .returned (.int .i64 (pickN a b y)) ∧ Below w.heap.size w w' := by
 have e1 : IntKind.wrap .u64 (IntKind.wrap .u64 b - IntKind.wrap .u64 a) = b - a := by rw [wrapU, wrapU, wrapU]; omega
 have e2 : IntKind.wrap .u64 (b - a + 1) = b - a + 1 := by rw [wrapU]; omega
 have h1 : 0 ≤ y % (b - a + 1) := Int.emod_nonneg _ (by omega)
 have h2 : y % (b - a + 1) < b - a + 1 := Int.emod_lt_of_pos _ (by omega)
 have e3 : IntKind.wrap .u64 (y.tmod (b - a + 1)) = y % (b - a + 1) := by rw [Int.tmod_eq_emod_of_nonneg hy, wrapU]; omega
 have e4 : IntKind.wrap .i64 (IntKind.wrap .u64 (IntKind.wrap .u64 a + y % (b - a + 1))) = pickN a b y := by
  unfold pickN
  generalize y % (b - a + 1) = r at *
  rw [wrapI, wrapU, wrapU]; omega
 have g1 : (b - a == 18446744073709551615) = false := by simp; omega
 have g2 : b - a + 1 ≠ 0 := by omega
 generalize pickN a b y = n at *
 go_enter Tryd.func8, Tryd.ntmps8
 go_wp2
 refine QT.tail_b 9 (by kernel_rfl) (by kernel_rfl) ?_
 simp only [List.take_succ_cons, List.take_zero, List.drop_succ_cons, List.drop_zero]
 repeat (first
  | go_big_quiet_skip
  | (go_big_quiet_want; go_big_quiet_op; first
   | go_big_quiet_on
   | (apply Exists.intro
      refine ⟨fun _ => ?_, ?_⟩
      ·first
       | rfl
       | (intro hC; obtain ⟨hcq, hfq⟩ := bcellB hC; go_simp; done)
       | (intro hC; obtain ⟨hcq, hfq⟩ := bcellB hC; go_simp; rfl)
       | (intro hC; have hcq := bcellG hC; go_simp; done)
       | (intro hC; have hcq := bcellG hC; go_simp; rfl)
      go_big_quiet_on)))
 refine wpQuiet_nil ?_
 intro w9 hC9
 obtain ⟨hc9, hf9⟩ := bcellB hC9
 have hz9 := hC9.size
 trace_state
 go_wp2
 go_ret
 exact ⟨rfl, blw_⟩
end Ln
end
section
open Go.RowKit
namespace lawSpanLines
theorem walk_many (A : Option Addr) (n cap : Nat) (hn : 70 < n) (xl xh y : Int) (w : World) :
  Calls Tryd.prog 3 #[.slice A n cap, .agg #[.int .i64 (xl), .int .i64 (xh)], .int .u64 y] w fun e w' => e = .returned (.bool true) ∧ Below w.heap.size w w' := by
 have AL := hide alive_any
 have g : (70 : Int) < (n : Int) := by omega
 go_enter Tryd.func3, Tryd.ntmps3
 go_wp2_with fail
 refine (AL.out _).mono ?_
 rintro e w1 ⟨rfl, hb1⟩
 obtain ⟨hc1, hf1⟩ := bcell hb1
 have hz1 := hb1.size
 try simp only [World.size_alloc, World.size_setCell] at hz1
 try refine zw1 w w1 (by omega) fun _ _ => ?_
 have c1_0_0 := zci w1 w.heap.size 0 (xl) (by go_simp)
 have c1_0_1 := zci w1 w.heap.size 1 (xh) (by go_simp)
 clear hc1 hf1
 go_wp2
 go_ret
 exact ⟨rfl, blw_⟩
theorem walk_bad (A : Option Addr) (n cap : Nat) (at_ lo hi : Nat → Int) (hn : n ≤ 70) (xl xh y : Int) (w : World) (hT : 0 < n → ∃ ad, A = some ad ∧ Tab w ad n at_ lo hi) (hI : ∀ i, i < n → I64 (at_ i) ∧ I64 (lo i) ∧ I64 (hi i)) (hB : tabB n at_ lo hi = false) :
  Calls Tryd.prog 3 #[.slice A n cap, .agg #[.int .i64 (xl), .int .i64 (xh)], .int .u64 y] w fun e w' => e = .returned (.bool true) ∧ Below w.heap.size w w' := by
 have AL := hide alive_any
 have g : ¬ (70 : Int) < (n : Int) := by omega
 have CT := hide (fun W hW => checktable_any n cap A at_ lo hi W hW hI 2 (by rw [hB]; rfl))
 have HA : Hid (∀ W, Below w.heap.size w W → 0 < n → ∃ ad, A = some ad ∧ Tab W ad n at_ lo hi) := hide (fun W hb h => by obtain ⟨ad, h1, h2⟩ := hT h; exact ⟨ad, h1, h2.below hb⟩)
 clear hT hI hB hn
 go_enter Tryd.func3, Tryd.ntmps3
 go_wp2_with fail
 refine (AL.out _).mono ?_
 rintro e w1 ⟨rfl, hb1⟩
 obtain ⟨hc1, hf1⟩ := bcell hb1
 have hz1 := hb1.size
 try simp only [World.size_alloc, World.size_setCell] at hz1
 try refine zw1 w w1 (by omega) fun _ _ => ?_
 have c1_0_0 := zci w1 w.heap.size 0 (xl) (by go_simp)
 have c1_0_1 := zci w1 w.heap.size 1 (xh) (by go_simp)
 clear hc1 hf1
 go_wp2_with fail
 refine (CT.out _ (HA.out _ blw_)).mono ?_
 rintro e w2 ⟨rfl, hb2⟩
 obtain ⟨hc2, hf2⟩ := bcell hb2
 have hz2 := hb2.size
 try simp only [World.size_alloc, World.size_setCell] at hz2
 try refine zw1 w w2 (by omega) fun _ _ => ?_
 have c2_0_0 := zci w2 w.heap.size 0 (xl) (by go_simp)
 have c2_0_1 := zci w2 w.heap.size 1 (xh) (by go_simp)
 clear hc2 hf2 c1_0_0 c1_0_1
 go_wp2
 go_ret
 exact ⟨rfl, blw_⟩
theorem walk_span (A : Option Addr) (n cap : Nat) (at_ lo hi : Nat → Int) (hn : n ≤ 70) (xl xh y : Int) (ix : I64 xl) (w : World) (hT : 0 < n → ∃ ad, A = some ad ∧ Tab w ad n at_ lo hi) (hI : ∀ i, i < n → I64 (at_ i) ∧ I64 (lo i) ∧ I64 (hi i)) (hB : tabB n at_ lo hi = true) (hX : vB xl xh = false) :
  Calls Tryd.prog 3 #[.slice A n cap, .agg #[.int .i64 (xl), .int .i64 (xh)], .int .u64 y] w fun e w' => e = .returned (.bool true) ∧ Below w.heap.size w w' := by
 have AL := hide alive_any
 have g : ¬ (70 : Int) < (n : Int) := by omega
 have CT := hide (fun W hW => checktable_any n cap A at_ lo hi W hW hI 0 (by rw [hB]; rfl))
 have CX : Hid (∀ W, Calls Tryd.prog 6 #[.agg #[.int .i64 (xl), .int .i64 (xh)]] W fun e w' => e = .returned (.int .i64 2) ∧ Below W.heap.size W w') := hide (fun W => by have h := check_any xl xh ix.1 W; unfold chkI at h; rw [hX] at h; exact h)
 have HA : Hid (∀ W, Below w.heap.size w W → 0 < n → ∃ ad, A = some ad ∧ Tab W ad n at_ lo hi) := hide (fun W hb h => by obtain ⟨ad, h1, h2⟩ := hT h; exact ⟨ad, h1, h2.below hb⟩)
 clear hT hI hB hn hX ix
 go_enter Tryd.func3, Tryd.ntmps3
 go_wp2_with fail
 refine (AL.out _).mono ?_
 rintro e w1 ⟨rfl, hb1⟩
 obtain ⟨hc1, hf1⟩ := bcell hb1
 have hz1 := hb1.size
 try simp only [World.size_alloc, World.size_setCell] at hz1
 try refine zw1 w w1 (by omega) fun _ _ => ?_
 have c1_0_0 := zci w1 w.heap.size 0 (xl) (by go_simp)
 have c1_0_1 := zci w1 w.heap.size 1 (xh) (by go_simp)
 clear hc1 hf1
 go_wp2_with fail
 refine (CT.out _ (HA.out _ blw_)).mono ?_
 rintro e w2 ⟨rfl, hb2⟩
 obtain ⟨hc2, hf2⟩ := bcell hb2
 have hz2 := hb2.size
 try simp only [World.size_alloc, World.size_setCell] at hz2
 try refine zw1 w w2 (by omega) fun _ _ => ?_
 have c2_0_0 := zci w2 w.heap.size 0 (xl) (by go_simp)
 have c2_0_1 := zci w2 w.heap.size 1 (xh) (by go_simp)
 clear hc2 hf2 c1_0_0 c1_0_1
 go_wp2_with fail
 refine (CX.out _).mono ?_
 rintro e w3 ⟨rfl, hb3⟩
 obtain ⟨hc3, hf3⟩ := bcell hb3
 have hz3 := hb3.size
 try simp only [World.size_alloc, World.size_setCell] at hz3
 try refine zw1 w w3 (by omega) fun _ _ => ?_
 have c3_0_0 := zci w3 w.heap.size 0 (xl) (by go_simp)
 have c3_0_1 := zci w3 w.heap.size 1 (xh) (by go_simp)
 clear hc3 hf3 c2_0_0 c2_0_1
 go_wp2
 go_ret
 exact ⟨rfl, blw_⟩
set_option maxHeartbeats 4000000 in
set_option maxRecDepth 100000 in
theorem walk_good (ad : Addr) (n cap : Nat) (at_ lo hi : Nat → Int) (hn : n ≤ 70) (xl xh y : Int) (ix : I64 xl) (jx : I64 xh) (hy : 0 ≤ y) (w : World) (hT : Tab w ad n at_ lo hi) (hI : ∀ i, i < n → I64 (at_ i) ∧ I64 (lo i) ∧ I64 (hi i)) (hB : tabB n at_ lo hi = true) (hX : vB xl xh = true) :
  Calls Tryd.prog 3 #[.slice (some ad) n cap, .agg #[.int .i64 (xl), .int .i64 (xh)], .int .u64 y] w fun e w' => e = .returned (.bool true) ∧ Below w.heap.size w w' := by
 have AL := hide alive_any
 have g : ¬ (70 : Int) < (n : Int) := by omega
 have hR := right_of hB
 obtain ⟨x0, x1⟩ : -9223372036854775807 ≤ xl ∧ xl ≤ xh := by simpa [vB] using hX
 have CT : Hid (∀ W, Tab W ad n at_ lo hi → Calls Tryd.prog 5 #[.slice (some ad) n cap] W fun e w' => e = .returned (.int .i64 0) ∧ Below W.heap.size W w') := hide (fun W hW => checktable_any n cap (some ad) at_ lo hi W (fun _ => ⟨ad, rfl, hW⟩) hI 0 (by rw [hB]; rfl))
 have CX : Hid (∀ W, Calls Tryd.prog 6 #[.agg #[.int .i64 (xl), .int .i64 (xh)]] W fun e w' => e = .returned (.int .i64 0) ∧ Below W.heap.size W w') := hide (fun W => by have h := check_any xl xh ix.1 W; unfold chkI at h; rw [hX] at h; exact h)
 have HA : Hid (∀ W, Below w.heap.size w W → Tab W ad n at_ lo hi) := hide (fun W hb => hT.below hb)
 have LP : Hid (∀ k, k < n → ∀ W, Tab W ad n at_ lo hi → Calls Tryd.prog 7 #[.slice (some ad) n cap, .agg #[.int .i64 (at_ k), .int .i64 (at_ k)]] W fun e w' => e = .returned (.tuple #[.agg #[.int .i64 (lo k), .int .i64 (hi k)], .int .i64 0]) ∧ Below W.heap.size W w') := hide (fun k hk W hW => by
  have h := look_any n cap (some ad) at_ lo hi (at_ k) (at_ k) (hI k hk).1 W (fun _ => ⟨ad, rfl, hW⟩) hI
  have v : vB (at_ k) (at_ k) = true := by have := hR.a k hk; simp [vB]; omega
  rw [show lkB n at_ lo hi (at_ k) (at_ k) = true by simp [lkB, hB, v], ok_t, ok_t, err_t, (Ln.tk_at hR hk).1, (Ln.tk_at hR hk).2] at h
  exact h)
 obtain ⟨p0, p1⟩ := Ln.pick_in y x1
 have PK := hide (fun W => Ln.pick_any xl xh y x0 x1 jx.2 hy W)
 generalize Ln.pickN xl xh y = p at *
 have L1 : Hid (∀ W, Tab W ad n at_ lo hi → Calls Tryd.prog 7 #[.slice (some ad) n cap, .agg #[.int .i64 (xl), .int .i64 (xh)]] W fun e w' => e = .returned (.tuple #[.agg #[.int .i64 (tkL n at_ lo xl xh), .int .i64 (tkH n at_ hi xl xh)], .int .i64 0]) ∧ Below W.heap.size W w') := hide (fun W hW => by
  have h := look_any n cap (some ad) at_ lo hi xl xh ix W (fun _ => ⟨ad, rfl, hW⟩) hI
  rw [show lkB n at_ lo hi xl xh = true by simp [lkB, hB, hX], ok_t, ok_t, err_t] at h
  exact h)
 have L2 : Hid (∀ W, Tab W ad n at_ lo hi → Calls Tryd.prog 7 #[.slice (some ad) n cap, .agg #[.int .i64 (p), .int .i64 (p)]] W fun e w' => e = .returned (.tuple #[.agg #[.int .i64 (tkL n at_ lo p p), .int .i64 (tkH n at_ hi p p)], .int .i64 0]) ∧ Below W.heap.size W w') := hide (fun W hW => by
  have h := look_any n cap (some ad) at_ lo hi p p ⟨by omega, by have := jx.2; omega⟩ W (fun _ => ⟨ad, rfl, hW⟩) hI
  have v : vB p p = true := by simp [vB]; omega
  rw [show lkB n at_ lo hi p p = true by simp [lkB, hB, v], ok_t, ok_t, err_t] at h
  exact h)
 have WI : Hid (∀ W, Calls Tryd.prog 9 #[.agg #[.int .i64 (tkL n at_ lo p p), .int .i64 (tkH n at_ hi p p)], .agg #[.int .i64 (tkL n at_ lo xl xh), .int .i64 (tkH n at_ hi xl xh)]] W fun e w' => e = .returned (.bool true) ∧ Below W.heap.size W w') := hide (fun W => by
  obtain ⟨⟨q1, q2⟩, q3, q4⟩ := Ln.tk_pt hR p p
  obtain ⟨⟨q5, q6⟩, q7, q8⟩ := Ln.tk_pt hR xl xh
  have h := within_any (tkL n at_ lo p p) (tkH n at_ hi p p) (tkL n at_ lo xl xh) (tkH n at_ hi xl xh) (by omega) (by omega) W
  rw [Ln.inside hR p0 p1] at h
  exact h)
 generalize tkL n at_ lo p p = a0 at *
 generalize tkH n at_ hi p p = a1 at *
 generalize tkL n at_ lo xl xh = b0 at *
 generalize tkH n at_ hi xl xh = b1 at *
 clear hR x0 x1 hT hI hB hX ix jx hn p0 p1 hy
 go_enter Tryd.func3, Tryd.ntmps3
 go_wp2_with fail
 refine (AL.out _).mono ?_
 rintro e w1 ⟨rfl, hb1⟩
 obtain ⟨hc1, hf1⟩ := bcell hb1
 have hz1 := hb1.size
 try simp only [World.size_alloc, World.size_setCell] at hz1
 try refine zw1 w w1 (by omega) fun _ _ => ?_
 have c1_0_0 := zci w1 w.heap.size 0 (xl) (by go_simp)
 have c1_0_1 := zci w1 w.heap.size 1 (xh) (by go_simp)
 clear hc1 hf1
 go_wp2_with fail
 refine (CT.out _ (HA.out _ blw_)).mono ?_
 rintro e w2 ⟨rfl, hb2⟩
 obtain ⟨hc2, hf2⟩ := bcell hb2
 have hz2 := hb2.size
 try simp only [World.size_alloc, World.size_setCell] at hz2
 try refine zw1 w w2 (by omega) fun _ _ => ?_
 have c2_0_0 := zci w2 w.heap.size 0 (xl) (by go_simp)
 have c2_0_1 := zci w2 w.heap.size 1 (xh) (by go_simp)
 clear hc2 hf2 c1_0_0 c1_0_1
 go_wp2_with fail
 refine (CX.out _).mono ?_
 rintro e w3 ⟨rfl, hb3⟩
 obtain ⟨hc3, hf3⟩ := bcell hb3
 have hz3 := hb3.size
 try simp only [World.size_alloc, World.size_setCell] at hz3
 try refine zw1 w w3 (by omega) fun _ _ => ?_
 have c3_0_0 := zci w3 w.heap.size 0 (xl) (by go_simp)
 have c3_0_1 := zci w3 w.heap.size 1 (xh) (by go_simp)
 clear hc3 hf3 c2_0_0 c2_0_1
 go_wp2
 have hbW : Below w.heap.size w w3 := blw_
 have jj : w.heap.size < w3.heap.size := by omega
 clear hb1 hb2 hb3
 generalize w3 = W3 at *
 go_loopw [38, 9, 10, 11] (fun s38 s9 s10 s11 wr => ∃ k : Nat, k ≤ n ∧ s38 = .int .i64 k ∧ Below W3.heap.size W3 wr) (fun s38 _ _ _ _ => n - (intOf s38).toNat)
 case atStart => exact ⟨0, by omega, rfl, Below.refl _ _⟩
 case round =>
  obtain ⟨k, hk, rfl, hb24⟩ := hrel
  have hs24 := hb24.size
  by_cases hlt : k < n
  ·have hT1 := HA.out wr (hbW.trans (hb24.mono hbW.size))
   have t0 := hT1.ca k hlt
   have t1 := hT1.cl k hlt
   have t2 := hT1.ch k hlt
   have hs1 := hT1.blk
   have g1 : decide ((k : Int) < (n : Int)) = true := decide_eq_true (by omega)
   have hba := block_add ad
   have LK := hide (LP.out k hlt)
   clear hT1 LP
   generalize at_ k = x0 at *
   generalize lo k = x1 at *
   generalize hi k = x2 at *
   go_wp2_with fail
   refine (LK.out _ (HA.out _ blw_)).mono ?_
   rintro e w4 ⟨rfl, hb4⟩
   obtain ⟨hc4, hf4⟩ := bcell hb4
   have hz4 := hb4.size
   try simp only [World.size_alloc, World.size_setCell] at hz4
   try have : w.heap.size < w4.heap.size := by omega
   try have : w.heap.size < w4.heap.size + 1 := by omega
   try have : w.heap.size ≤ w4.heap.size := by omega
   try have : wr.heap.size < w4.heap.size := by omega
   try have : wr.heap.size < w4.heap.size + 1 := by omega
   try have : wr.heap.size ≤ w4.heap.size := by omega
   have c4_0_0 := zci w4 wr.heap.size 0 (x0) (by go_simp)
   have c4_0_1 := zci w4 wr.heap.size 1 (x1) (by go_simp)
   have c4_0_2 := zci w4 wr.heap.size 2 (x2) (by go_simp)
   clear hc4 hf4
   go_wp2
   go_roundw
   case rel => exact ⟨k + 1, by omega, by go_num, blw_⟩
   case measure => simp [intOf]; omega
  ·obtain rfl : k = n := by omega
   have q0 := ((bcell hb24).1 _ 0 jj).trans c3_0_0
   have q1 := ((bcell hb24).1 _ 1 jj).trans c3_0_1
   have jw : w.heap.size < wr.heap.size := by omega
   have g1 : decide ((k : Int) < (k : Int)) = false := decide_eq_false (by omega)
   clear c3_0_0 c3_0_1
   go_wp2_with fail
   refine (PK.out _).mono ?_
   rintro e w4 ⟨rfl, hb4⟩
   obtain ⟨hc4, hf4⟩ := bcell hb4
   have hz4 := hb4.size
   try simp only [World.size_alloc, World.size_setCell] at hz4
   try refine zw1 w w4 (by omega) fun _ _ => ?_
   have c4_0_0 := zci w4 w.heap.size 0 (xl) (by go_simp)
   have c4_0_1 := zci w4 w.heap.size 1 (xh) (by go_simp)
   clear hc4 hf4
   go_wp2_with fail
   refine (L1.out _ (HA.out _ blw_)).mono ?_
   rintro e w5 ⟨rfl, hb5⟩
   obtain ⟨hc5, hf5⟩ := bcell hb5
   have hz5 := hb5.size
   try simp only [World.size_alloc, World.size_setCell] at hz5
   try have : w.heap.size < w5.heap.size := by omega
   try have : w.heap.size < w5.heap.size + 1 := by omega
   try have : w.heap.size ≤ w5.heap.size := by omega
   have c5_0_0 := zci w5 w.heap.size 0 (xl) (by go_simp)
   have c5_0_1 := zci w5 w.heap.size 1 (xh) (by go_simp)
   clear hc5 hf5 c4_0_0 c4_0_1
   go_wp2_with fail
   refine (L2.out _ (HA.out _ blw_)).mono ?_
   rintro e w6 ⟨rfl, hb6⟩
   obtain ⟨hc6, hf6⟩ := bcell hb6
   have hz6 := hb6.size
   try simp only [World.size_alloc, World.size_setCell] at hz6
   try have : w.heap.size < w6.heap.size := by omega
   try have : w.heap.size < w6.heap.size + 1 := by omega
   try have : w.heap.size ≤ w6.heap.size := by omega
   try have : w5.heap.size < w6.heap.size := by omega
   try have : w5.heap.size < w6.heap.size + 1 := by omega
   try have : w5.heap.size ≤ w6.heap.size := by omega
   have c6_0_0 := zci w6 w.heap.size 0 (xl) (by go_simp)
   have c6_0_1 := zci w6 w.heap.size 1 (xh) (by go_simp)
   have c6_1_0 := zci w6 w5.heap.size 0 (b0) (by go_simp)
   have c6_1_1 := zci w6 w5.heap.size 1 (b1) (by go_simp)
   clear hc6 hf6 c5_0_0 c5_0_1
   go_wp2_with fail
   refine (WI.out _).mono ?_
   rintro e w7 ⟨rfl, hb7⟩
   obtain ⟨hc7, hf7⟩ := bcell hb7
   have hz7 := hb7.size
   try simp only [World.size_alloc, World.size_setCell] at hz7
   try refine zw1 w w7 (by omega) fun _ _ => ?_
   try have : w5.heap.size < w7.heap.size := by omega
   try have : w5.heap.size ≤ w7.heap.size := by omega
   try have : w6.heap.size < w7.heap.size := by omega
   try have : w6.heap.size ≤ w7.heap.size := by omega
   have c7_0_0 := zci w7 w.heap.size 0 (xl) (by go_simp)
   have c7_0_1 := zci w7 w.heap.size 1 (xh) (by go_simp)
   have c7_1_0 := zci w7 w5.heap.size 0 (b0) (by go_simp)
   have c7_1_1 := zci w7 w5.heap.size 1 (b1) (by go_simp)
   have c7_2_0 := zci w7 w6.heap.size 0 (a0) (by go_simp)
   have c7_2_1 := zci w7 w6.heap.size 1 (a1) (by go_simp)
   clear hc7 hf7 c6_0_0 c6_0_1 c6_1_0 c6_1_1
   go_wp2
   go_ret
   exact ⟨rfl, blw_⟩
end lawSpanLines
end
end Go.Proofs.YtkkanjeamngdiaaDoor
