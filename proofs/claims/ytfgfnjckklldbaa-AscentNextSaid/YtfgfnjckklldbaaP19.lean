/- Packed: NxC. -/
import Derived.Test.YtfgfnjckklldbaaRows
import Derived.ProofKit
import Derived.Carry
import Derived.Lib.SmallJoins
import Derived.BigQuiet
import Derived.Test.YtfgfnjckklldbaaP12
import Derived.Test.YtfgfnjckklldbaaP17
import Derived.Test.YtfgfnjckklldbaaP18
set_option linter.unusedVariables false
set_option linter.unusedSimpArgs false
namespace Go.Proofs.Ytfgfnjckklldbaa
section
set_option maxRecDepth 1000000
open Go.RowKit
open SX
namespace lawAscentNext
open Go.ChangeShapes Go.WideShapes Go.ChangeAt Go.Joins
theorem bad (p fa la q fb lb T : Int) (n : Int) (en : Int)
  (N1 : Hid (∀ w, Calls Try.prog 20 #[wvI p fa la, wvI q fb lb, .int .i64 T] w fun e w' => e = .returned (.tuple #[.int .i64 0, .int .i64 2]) ∧ Below w.heap.size w w'))
  (N2 : Hid (∀ w, Calls Try.prog 20 #[wvI q fb lb, wvI p fa la, .int .i64 T] w fun e w' => e = .returned (.tuple #[.int .i64 0, .int .i64 2]) ∧ Below w.heap.size w w'))
  (O1 : Hid (∀ w, Calls Try.prog 21 #[wvI p fa la, wvI q fb lb] w fun e w' => e = .returned (.tuple #[.int .i64 n, .int .i64 en]) ∧ Below w.heap.size w w'))
  (O2 : Hid (∀ w, Calls Try.prog 21 #[wvI q fb lb, wvI p fa la] w fun e w' => e = .returned (.tuple #[.int .i64 n, .int .i64 en]) ∧ Below w.heap.size w w')) (w : World) :
  Calls Try.prog 6 #[wvI p fa la, wvI q fb lb, .int .i64 T] w fun e w' => e = .returned (.bool true) ∧ Below w.heap.size w w' := by
 have A := hide alive_any
 simp only [wvI] at *
 go_enter Try.func6, Try.ntmps6
 go_wp2_with fail
 refine (A.out _).mono ?_
 rintro e w1 ⟨rfl, hb1⟩
 obtain ⟨hc1, hf1⟩ := bcell hb1
 have hz1 := hb1.size
 try simp only [World.size_alloc, World.size_setCell] at hz1
 try refine zw2 w w1 (by omega) fun _ _ _ _ => ?_
 go_wp2_with fail
 refine (N1.out _).mono ?_
 rintro e w2 ⟨rfl, hb2⟩
 obtain ⟨hc2, hf2⟩ := bcell hb2
 have hz2 := hb2.size
 try simp only [World.size_alloc, World.size_setCell] at hz2
 try refine zw2 w w2 (by omega) fun _ _ _ _ => ?_
 try have : w1.heap.size < w2.heap.size := by omega
 try have : w1.heap.size ≤ w2.heap.size := by omega
 go_wp2_with fail
 refine (N2.out _).mono ?_
 rintro e w3 ⟨rfl, hb3⟩
 obtain ⟨hc3, hf3⟩ := bcell hb3
 have hz3 := hb3.size
 try simp only [World.size_alloc, World.size_setCell] at hz3
 try refine zw2 w w3 (by omega) fun _ _ _ _ => ?_
 try have : w1.heap.size < w3.heap.size := by omega
 try have : w1.heap.size ≤ w3.heap.size := by omega
 try have : w2.heap.size < w3.heap.size := by omega
 try have : w2.heap.size ≤ w3.heap.size := by omega
 go_wp2_with fail
 refine (O1.out _).mono ?_
 rintro e w4 ⟨rfl, hb4⟩
 obtain ⟨hc4, hf4⟩ := bcell hb4
 have hz4 := hb4.size
 try simp only [World.size_alloc, World.size_setCell] at hz4
 try refine zw2 w w4 (by omega) fun _ _ _ _ => ?_
 try have : w1.heap.size < w4.heap.size := by omega
 try have : w1.heap.size ≤ w4.heap.size := by omega
 try have : w2.heap.size < w4.heap.size := by omega
 try have : w2.heap.size ≤ w4.heap.size := by omega
 try have : w3.heap.size < w4.heap.size := by omega
 try have : w3.heap.size ≤ w4.heap.size := by omega
 go_wp2_with fail
 refine (O2.out _).mono ?_
 rintro e w5 ⟨rfl, hb5⟩
 obtain ⟨hc5, hf5⟩ := bcell hb5
 have hz5 := hb5.size
 try simp only [World.size_alloc, World.size_setCell] at hz5
 try refine zw2 w w5 (by omega) fun _ _ _ _ => ?_
 try have : w1.heap.size < w5.heap.size := by omega
 try have : w1.heap.size ≤ w5.heap.size := by omega
 try have : w2.heap.size < w5.heap.size := by omega
 try have : w2.heap.size ≤ w5.heap.size := by omega
 try have : w3.heap.size < w5.heap.size := by omega
 try have : w3.heap.size ≤ w5.heap.size := by omega
 try have : w4.heap.size < w5.heap.size := by omega
 try have : w4.heap.size ≤ w5.heap.size := by omega
 go_wp2
 go_ret
 exact ⟨rfl, blw_⟩
set_option maxHeartbeats 1000000 in
theorem none_ {p la q lb : Nat} {fa fb : Int} (hw : Win p la fa) (hv : Win q lb fb) (T : Int)
  (N1 : Hid (∀ w, Calls Try.prog 20 #[wv p la fa, wv q lb fb, .int .i64 T] w fun e w' => e = .returned (.tuple #[.int .i64 0, .int .i64 7]) ∧ Below w.heap.size w w'))
  (N2 : Hid (∀ w, Calls Try.prog 20 #[wv q lb fb, wv p la fa, .int .i64 T] w fun e w' => e = .returned (.tuple #[.int .i64 0, .int .i64 7]) ∧ Below w.heap.size w w'))
  (O1 : Hid (∀ w, Calls Try.prog 21 #[wv p la fa, wv q lb fb] w fun e w' => e = .returned (.tuple #[.int .i64 0, .int .i64 0]) ∧ Below w.heap.size w w'))
  (O2 : Hid (∀ w, Calls Try.prog 21 #[wv q lb fb, wv p la fa] w fun e w' => e = .returned (.tuple #[.int .i64 0, .int .i64 0]) ∧ Below w.heap.size w w')) (w : World) :
  Calls Try.prog 6 #[wv p la fa, wv q lb fb, .int .i64 T] w fun e w' => e = .returned (.bool true) ∧ Below w.heap.size w w' := by
 have A := hide alive_any
 have p1 := hw.p1
 have q1 := hv.p1
 have g0 := (Meet.lc_facts hw.p0 hv.p0).1
 have hL := lc_is (p := p) q1 p1
 have gI : Hid (¬ ((Nat.gcd p q : Nat) : Int) = 0) := hide (by omega)
 have qa := hide (quo_nat (a := p) (g := Nat.gcd p q) p1)
 have qa2 := hide (quo_nat2 (a := p) (g := Nat.gcd p q) p1)
 have m1 := hide (mul_nat (r := p / Nat.gcd p q) (round := q) (R := Meet.lc p q) rfl hL)
 generalize hG : Nat.gcd p q = g at *
 generalize p / g = pg at *
 have hL0 : Hid (¬ ((Meet.lc p q : Nat) : Int) < 0) := hide (by omega)
 generalize Meet.lc p q = L at *
 have P1 := hide p1
 have Q1 := hide q1
 have GG := hide hG
 simp only [wv] at *
 clear hw hv p1 q1 g0 hL hG 
 go_enter Try.func6, Try.ntmps6
 go_wp2_with fail
 refine (A.out _).mono ?_
 rintro e w1 ⟨rfl, hb1⟩
 obtain ⟨hc1, hf1⟩ := bcell hb1
 have hz1 := hb1.size
 try simp only [World.size_alloc, World.size_setCell] at hz1
 try refine zw2 w w1 (by omega) fun _ _ _ _ => ?_
 go_wp2_with fail
 refine (N1.out _).mono ?_
 rintro e w2 ⟨rfl, hb2⟩
 obtain ⟨hc2, hf2⟩ := bcell hb2
 have hz2 := hb2.size
 try simp only [World.size_alloc, World.size_setCell] at hz2
 try refine zw2 w w2 (by omega) fun _ _ _ _ => ?_
 try have : w1.heap.size < w2.heap.size := by omega
 try have : w1.heap.size ≤ w2.heap.size := by omega
 go_wp2_with fail
 refine (N2.out _).mono ?_
 rintro e w3 ⟨rfl, hb3⟩
 obtain ⟨hc3, hf3⟩ := bcell hb3
 have hz3 := hb3.size
 try simp only [World.size_alloc, World.size_setCell] at hz3
 try refine zw2 w w3 (by omega) fun _ _ _ _ => ?_
 try have : w1.heap.size < w3.heap.size := by omega
 try have : w1.heap.size ≤ w3.heap.size := by omega
 try have : w2.heap.size < w3.heap.size := by omega
 try have : w2.heap.size ≤ w3.heap.size := by omega
 go_wp2_with fail
 refine (O1.out _).mono ?_
 rintro e w4 ⟨rfl, hb4⟩
 obtain ⟨hc4, hf4⟩ := bcell hb4
 have hz4 := hb4.size
 try simp only [World.size_alloc, World.size_setCell] at hz4
 try refine zw2 w w4 (by omega) fun _ _ _ _ => ?_
 try have : w1.heap.size < w4.heap.size := by omega
 try have : w1.heap.size ≤ w4.heap.size := by omega
 try have : w2.heap.size < w4.heap.size := by omega
 try have : w2.heap.size ≤ w4.heap.size := by omega
 try have : w3.heap.size < w4.heap.size := by omega
 try have : w3.heap.size ≤ w4.heap.size := by omega
 go_wp2_with fail
 refine (O2.out _).mono ?_
 rintro e w5 ⟨rfl, hb5⟩
 obtain ⟨hc5, hf5⟩ := bcell hb5
 have hz5 := hb5.size
 try simp only [World.size_alloc, World.size_setCell] at hz5
 try refine zw2 w w5 (by omega) fun _ _ _ _ => ?_
 try have : w1.heap.size < w5.heap.size := by omega
 try have : w1.heap.size ≤ w5.heap.size := by omega
 try have : w2.heap.size < w5.heap.size := by omega
 try have : w2.heap.size ≤ w5.heap.size := by omega
 try have : w3.heap.size < w5.heap.size := by omega
 try have : w3.heap.size ≤ w5.heap.size := by omega
 try have : w4.heap.size < w5.heap.size := by omega
 try have : w4.heap.size ≤ w5.heap.size := by omega
 go_wp2_with fail
 refine QT.quiet_b (by kernel_rfl) (by kernel_rfl) ?_
 repeat (first
  | go_big_quiet_skip
  | (go_big_quiet_want; go_big_quiet_op; first
   | go_big_quiet_on
   | (apply Exists.intro
      refine ⟨fun _ => ?_, ?_⟩
      ·first
       | rfl
       | (intro hC; obtain ⟨hcq, hfq⟩ := bcellB hC; go_simp; done)
       | (intro hC; obtain ⟨hcq, hfq⟩ := bcellB hC; go_simp; rfl)
       | (intro hC; have hcq := bcellG hC; go_simp; done)
       | (intro hC; have hcq := bcellG hC; go_simp; rfl)
      go_big_quiet_on)))
 refine wpQuiet_nil ?_
 intro w9 hC9
 obtain ⟨hc9, hf9⟩ := bcellB hC9
 have hz9 := hC9.size
 go_wp2_with fail
 have z1 : w.heap.size < w5.heap.size := by omega
 have z2 : w.heap.size + 1 < w5.heap.size := by omega
 clear A N1 N2 O1 O2
 go_loopw [16, 17] (fun s16 s17 wr => ∃ x y : Nat, s16 = .int .i64 x ∧ s17 = .int .i64 y ∧ Nat.gcd x y = g ∧ x ≤ 1073741824 ∧ y ≤ 1073741824 ∧ Below w.heap.size w wr ∧ w.heap.size + 1 < wr.heap.size ∧ wr.cell? ⟨w.heap.size, 0, none⟩ = some (.int .i64 p) ∧ wr.cell? ⟨w.heap.size, 1, none⟩ = some (.int .i64 fa) ∧ wr.cell? ⟨w.heap.size, 2, none⟩ = some (.int .i64 la) ∧ wr.cell? ⟨w.heap.size + 1, 0, none⟩ = some (.int .i64 q) ∧ wr.cell? ⟨w.heap.size + 1, 1, none⟩ = some (.int .i64 fb) ∧ wr.cell? ⟨w.heap.size + 1, 2, none⟩ = some (.int .i64 lb)) (fun _ s17 _ => (intOf s17).toNat)
 case atStart => exact ⟨p, q, rfl, rfl, GG.out, P1.out, Q1.out, blw_, by first | omega | (go_simp; omega), by go_simp, by go_simp, by go_simp, by go_simp, by go_simp, by go_simp⟩
 case round =>
  obtain ⟨x, y, rfl, rfl, hg, hx, hy, hW, hsz, k0, k1, k2, k3, k4, k5⟩ := hrel
  have HG := hide hg
  have HX := hide hx
  have HY := hide hy
  have z0 : w.heap.size < wr.heap.size := by omega
  clear hg hx hy
  by_cases hy0 : 0 < (y : Int)
  ·have c1 := tmod_nat x y
   have c2 : ¬ (y : Int) = 0 := by omega
   have hlt := Nat.mod_lt x (show 0 < y by omega)
   have HL := hide hlt
   clear hlt
   have HGG : Hid (Nat.gcd y (x % y) = Nat.gcd x y) := hide (by rw [Nat.gcd_comm y, ← Nat.gcd_rec, Nat.gcd_comm])
   go_wp2
   go_region
   all_goals go_wp2
   all_goals go_roundw
   all_goals first
    | case rel => exact ⟨y, x % y, rfl, by first | rfl | (rw [c1]), by rw [HGG.out, HG.out], HY.out, by have := HL.out; have := HY.out; omega, hW.trans blw_, by first | omega | (go_simp; done) | (go_simp; omega), by go_simp, by go_simp, by go_simp, by go_simp, by go_simp, by go_simp⟩
    | case measure => have := HL.out; simp [intOf]; omega
  ·have hxg : x = g := by
    have := HG.out
    obtain rfl : y = 0 := by omega
    simpa using this
   subst hxg
   have gI := gI.out
   have qa := qa.out
   have qa2 := qa2.out
   have m1 := m1.out
   clear HG HX HY GG P1 Q1
   go_wp2_with fail
   refine QT.quiet_b (by kernel_rfl) (by kernel_rfl) ?_
   repeat (first
    | go_big_quiet_skip
    | (go_big_quiet_want; go_big_quiet_op; first
     | go_big_quiet_on
     | (apply Exists.intro
        refine ⟨fun _ => ?_, ?_⟩
        ·first
         | rfl
         | (intro hC; obtain ⟨hcq, hfq⟩ := bcellB hC; go_simp; done)
         | (intro hC; obtain ⟨hcq, hfq⟩ := bcellB hC; go_simp; rfl)
         | (intro hC; have hcq := bcellG hC; go_simp; done)
         | (intro hC; have hcq := bcellG hC; go_simp; rfl)
        go_big_quiet_on)))
   refine wpQuiet_nil ?_
   intro w9 hC9
   obtain ⟨hc9, hf9⟩ := bcellB hC9
   have hz9 := hC9.size
   clear qa qa2 m1 gI
   have hL0 := hL0.out
   go_wp2
   go_ret
   exact ⟨rfl, hW.trans blw_⟩
set_option maxHeartbeats 1000000 in
theorem some_ {p la q lb : Nat} {fa fb : Int} (hw : Win p la fa) (hv : Win q lb fb) (T : Int)
  (hT : -1152921504606846976 ≤ T ∧ T ≤ 1152921504606846976) {x : Int} {j n : Nat} (hn : 0 < n) (hnL : n ≤ Meet.lc p q) (hx : Nxt p la fa q lb fb T x j)
  (N1 : Hid (∀ w, Calls Try.prog 20 #[wv p la fa, wv q lb fb, .int .i64 T] w fun e w' => e = .returned (.tuple #[.int .i64 x, .int .i64 0]) ∧ Below w.heap.size w w'))
  (N2 : Hid (∀ w, Calls Try.prog 20 #[wv q lb fb, wv p la fa, .int .i64 T] w fun e w' => e = .returned (.tuple #[.int .i64 x, .int .i64 0]) ∧ Below w.heap.size w w'))
  (O1 : Hid (∀ w, Calls Try.prog 21 #[wv p la fa, wv q lb fb] w fun e w' => e = .returned (.tuple #[.int .i64 n, .int .i64 0]) ∧ Below w.heap.size w w'))
  (O2 : Hid (∀ w, Calls Try.prog 21 #[wv q lb fb, wv p la fa] w fun e w' => e = .returned (.tuple #[.int .i64 n, .int .i64 0]) ∧ Below w.heap.size w w')) (w : World) :
  Calls Try.prog 6 #[wv p la fa, wv q lb fb, .int .i64 T] w fun e w' => e = .returned (.bool true) ∧ Below w.heap.size w w' := by
 have A := hide alive_any
 have p1 := hw.p1
 have q1 := hv.p1
 have g0 := (Meet.lc_facts hw.p0 hv.p0).1
 have hL := lc_is (p := p) q1 p1
 have gI : Hid (¬ ((Nat.gcd p q : Nat) : Int) = 0) := hide (by omega)
 have qa := hide (quo_nat (a := p) (g := Nat.gcd p q) p1)
 have qa2 := hide (quo_nat2 (a := p) (g := Nat.gcd p q) p1)
 have m1 := hide (mul_nat (r := p / Nat.gcd p q) (round := q) (R := Meet.lc p q) rfl hL)
 have C1 := hide (contains_any hw x)
 have C2 := hide (contains_any hv x)
 have C3 := hide (contains_any hw (x - (Meet.lc p q : Nat)))
 have C4 := hide (contains_any hv (x - (Meet.lc p q : Nat)))
 rw [hx.a1] at C1
 rw [hx.b1] at C2
 rw [hx.a2] at C3
 rw [hx.b2] at C4
 have D1 := hide fun i : Nat => contains_any hw (T + i)
 have D2 := hide fun i : Nat => contains_any hv (T + i)
 have hjL := hx.lt
 have hat := hx.at_
 have NO := hide hx.no
 have u1 : Hid (wrap64 (x - T) = j) := hide (by rw [wrapSmall (by omega)]; omega)
 have u2 : Hid (wrap64 (x - (Meet.lc p q : Nat)) = x - (Meet.lc p q : Nat)) := hide (wrapSmall (by omega))
 have u3 : Hid (¬ x < T) := hide (by omega)
 have u4 : Hid (¬ ((Meet.lc p q : Nat) : Int) ≤ j) := hide (by omega)
 have u5 : Hid (¬ (n : Int) < 0 ∧ ¬ ((Meet.lc p q : Nat) : Int) < n ∧ ((n : Int) == 0) = false) := hide ⟨by omega, by omega, by simp; omega⟩
 have U3 : Hid (decide (x < T) = false) := hide (decide_eq_false (by omega))
 have U4 : Hid (decide (Meet.lc p q ≤ j) = false) := hide (decide_eq_false (by omega))
 have HT := hide hT
 have HJ : Hid (j ≤ 1152921504606846976) := hide (by omega)
 obtain ⟨K, hK⟩ : ∃ K : Nat, min 3000 (j : Int) = K := ⟨(min 3000 (j : Int)).toNat, by omega⟩
 have HKj : Hid (K ≤ j) := hide (by omega)
 have HKK := hide hK
 clear hK
 clear hx hat hT
 generalize hG : Nat.gcd p q = g at *
 generalize p / g = pg at *
 have hL0 : Hid (¬ ((Meet.lc p q : Nat) : Int) < 0) := hide (by omega)
 generalize Meet.lc p q = L at *
 have P1 := hide p1
 have Q1 := hide q1
 have GG := hide hG
 simp only [wv] at *
 clear hw hv p1 q1 g0 hL hG hjL hn hnL
 go_enter Try.func6, Try.ntmps6
 go_wp2_with fail
 refine (A.out _).mono ?_
 rintro e w1 ⟨rfl, hb1⟩
 obtain ⟨hc1, hf1⟩ := bcell hb1
 have hz1 := hb1.size
 try simp only [World.size_alloc, World.size_setCell] at hz1
 try refine zw2 w w1 (by omega) fun _ _ _ _ => ?_
 go_wp2_with fail
 refine (N1.out _).mono ?_
 rintro e w2 ⟨rfl, hb2⟩
 obtain ⟨hc2, hf2⟩ := bcell hb2
 have hz2 := hb2.size
 try simp only [World.size_alloc, World.size_setCell] at hz2
 try refine zw2 w w2 (by omega) fun _ _ _ _ => ?_
 try have : w1.heap.size < w2.heap.size := by omega
 try have : w1.heap.size ≤ w2.heap.size := by omega
 go_wp2_with fail
 refine (N2.out _).mono ?_
 rintro e w3 ⟨rfl, hb3⟩
 obtain ⟨hc3, hf3⟩ := bcell hb3
 have hz3 := hb3.size
 try simp only [World.size_alloc, World.size_setCell] at hz3
 try refine zw2 w w3 (by omega) fun _ _ _ _ => ?_
 try have : w1.heap.size < w3.heap.size := by omega
 try have : w1.heap.size ≤ w3.heap.size := by omega
 try have : w2.heap.size < w3.heap.size := by omega
 try have : w2.heap.size ≤ w3.heap.size := by omega
 go_wp2_with fail
 refine (O1.out _).mono ?_
 rintro e w4 ⟨rfl, hb4⟩
 obtain ⟨hc4, hf4⟩ := bcell hb4
 have hz4 := hb4.size
 try simp only [World.size_alloc, World.size_setCell] at hz4
 try refine zw2 w w4 (by omega) fun _ _ _ _ => ?_
 try have : w1.heap.size < w4.heap.size := by omega
 try have : w1.heap.size ≤ w4.heap.size := by omega
 try have : w2.heap.size < w4.heap.size := by omega
 try have : w2.heap.size ≤ w4.heap.size := by omega
 try have : w3.heap.size < w4.heap.size := by omega
 try have : w3.heap.size ≤ w4.heap.size := by omega
 go_wp2_with fail
 refine (O2.out _).mono ?_
 rintro e w5 ⟨rfl, hb5⟩
 obtain ⟨hc5, hf5⟩ := bcell hb5
 have hz5 := hb5.size
 try simp only [World.size_alloc, World.size_setCell] at hz5
 try refine zw2 w w5 (by omega) fun _ _ _ _ => ?_
 try have : w1.heap.size < w5.heap.size := by omega
 try have : w1.heap.size ≤ w5.heap.size := by omega
 try have : w2.heap.size < w5.heap.size := by omega
 try have : w2.heap.size ≤ w5.heap.size := by omega
 try have : w3.heap.size < w5.heap.size := by omega
 try have : w3.heap.size ≤ w5.heap.size := by omega
 try have : w4.heap.size < w5.heap.size := by omega
 try have : w4.heap.size ≤ w5.heap.size := by omega
 go_wp2_with fail
 refine QT.quiet_b (by kernel_rfl) (by kernel_rfl) ?_
 repeat (first
  | go_big_quiet_skip
  | (go_big_quiet_want; go_big_quiet_op; first
   | go_big_quiet_on
   | (apply Exists.intro
      refine ⟨fun _ => ?_, ?_⟩
      ·first
       | rfl
       | (intro hC; obtain ⟨hcq, hfq⟩ := bcellB hC; go_simp; done)
       | (intro hC; obtain ⟨hcq, hfq⟩ := bcellB hC; go_simp; rfl)
       | (intro hC; have hcq := bcellG hC; go_simp; done)
       | (intro hC; have hcq := bcellG hC; go_simp; rfl)
      go_big_quiet_on)))
 refine wpQuiet_nil ?_
 intro w9 hC9
 obtain ⟨hc9, hf9⟩ := bcellB hC9
 have hz9 := hC9.size
 go_wp2_with fail
 have z1 : w.heap.size < w5.heap.size := by omega
 have z2 : w.heap.size + 1 < w5.heap.size := by omega
 clear A N1 N2 O1 O2
 go_loopw [16, 17] (fun s16 s17 wr => ∃ x y : Nat, s16 = .int .i64 x ∧ s17 = .int .i64 y ∧ Nat.gcd x y = g ∧ x ≤ 1073741824 ∧ y ≤ 1073741824 ∧ Below w.heap.size w wr ∧ w.heap.size + 1 < wr.heap.size ∧ wr.cell? ⟨w.heap.size, 0, none⟩ = some (.int .i64 p) ∧ wr.cell? ⟨w.heap.size, 1, none⟩ = some (.int .i64 fa) ∧ wr.cell? ⟨w.heap.size, 2, none⟩ = some (.int .i64 la) ∧ wr.cell? ⟨w.heap.size + 1, 0, none⟩ = some (.int .i64 q) ∧ wr.cell? ⟨w.heap.size + 1, 1, none⟩ = some (.int .i64 fb) ∧ wr.cell? ⟨w.heap.size + 1, 2, none⟩ = some (.int .i64 lb)) (fun _ s17 _ => (intOf s17).toNat)
 case atStart => exact ⟨p, q, rfl, rfl, GG.out, P1.out, Q1.out, blw_, by first | omega | (go_simp; omega), by go_simp, by go_simp, by go_simp, by go_simp, by go_simp, by go_simp⟩
 case round =>
  obtain ⟨x, y, rfl, rfl, hg, hx, hy, hW, hsz, k0, k1, k2, k3, k4, k5⟩ := hrel
  have HG := hide hg
  have HX := hide hx
  have HY := hide hy
  have z0 : w.heap.size < wr.heap.size := by omega
  clear hg hx hy
  by_cases hy0 : 0 < (y : Int)
  ·have c1 := tmod_nat x y
   have c2 : ¬ (y : Int) = 0 := by omega
   have hlt := Nat.mod_lt x (show 0 < y by omega)
   have HL := hide hlt
   clear hlt
   have HGG : Hid (Nat.gcd y (x % y) = Nat.gcd x y) := hide (by rw [Nat.gcd_comm y, ← Nat.gcd_rec, Nat.gcd_comm])
   go_wp2
   go_region
   all_goals go_wp2
   all_goals go_roundw
   all_goals first
    | case rel => exact ⟨y, x % y, rfl, by first | rfl | (rw [c1]), by rw [HGG.out, HG.out], HY.out, by have := HL.out; have := HY.out; omega, hW.trans blw_, by first | omega | (go_simp; done) | (go_simp; omega), by go_simp, by go_simp, by go_simp, by go_simp, by go_simp, by go_simp⟩
    | case measure => have := HL.out; simp [intOf]; omega
  ·have hxg : x = g := by
    have := HG.out
    obtain rfl : y = 0 := by omega
    simpa using this
   subst hxg
   have gI := gI.out
   have qa := qa.out
   have qa2 := qa2.out
   have m1 := m1.out
   clear HG HX HY GG P1 Q1
   go_wp2_with fail
   refine QT.quiet_b (by kernel_rfl) (by kernel_rfl) ?_
   repeat (first
    | go_big_quiet_skip
    | (go_big_quiet_want; go_big_quiet_op; first
     | go_big_quiet_on
     | (apply Exists.intro
        refine ⟨fun _ => ?_, ?_⟩
        ·first
         | rfl
         | (intro hC; obtain ⟨hcq, hfq⟩ := bcellB hC; go_simp; done)
         | (intro hC; obtain ⟨hcq, hfq⟩ := bcellB hC; go_simp; rfl)
         | (intro hC; have hcq := bcellG hC; go_simp; done)
         | (intro hC; have hcq := bcellG hC; go_simp; rfl)
        go_big_quiet_on)))
   refine wpQuiet_nil ?_
   intro w9 hC9
   obtain ⟨hc9, hf9⟩ := bcellB hC9
   have hz9 := hC9.size
   clear qa qa2 m1 gI
   have y9 : w.heap.size < w9.heap.size := by omega
   have ya : w.heap.size + 1 < w9.heap.size := by omega
   have hKK := HKK.out
   obtain ⟨v1, v2, v3⟩ := u5.out
   have u3 := u3.out
   have u4 := u4.out
   have U3 := U3.out
   have U4 := U4.out
   have u1 := u1.out
   have u2 := u2.out
   have hL0 := hL0.out
   go_wp2_with fail
   refine (C1.out _).mono ?_
   rintro e w10 ⟨rfl, hb10⟩
   obtain ⟨hc10, hf10⟩ := bcell hb10
   have hz10 := hb10.size
   have y1 : w.heap.size < w10.heap.size := by omega
   have y2 : w.heap.size + 1 < w10.heap.size := by omega
   go_wp2_with fail
   refine (C2.out _).mono ?_
   rintro e w11 ⟨rfl, hb11⟩
   obtain ⟨hc11, hf11⟩ := bcell hb11
   have hz11 := hb11.size
   have y3 : w.heap.size < w11.heap.size := by omega
   have y4 : w.heap.size + 1 < w11.heap.size := by omega
   go_wp2_with fail
   refine (C3.out _).mono ?_
   rintro e w12 ⟨rfl, hb12⟩
   obtain ⟨hc12, hf12⟩ := bcell hb12
   have hz12 := hb12.size
   have y5 : w.heap.size < w12.heap.size := by omega
   have y6 : w.heap.size + 1 < w12.heap.size := by omega
   go_wp2_with fail
   refine (C4.out _).mono ?_
   rintro e w13 ⟨rfl, hb13⟩
   obtain ⟨hc13, hf13⟩ := bcell hb13
   have hz13 := hb13.size
   have y7 : w.heap.size < w13.heap.size := by omega
   have y8 : w.heap.size + 1 < w13.heap.size := by omega
   go_wp2_with fail
   go_outline
   have B0 := hide (hW.trans (show Below w.heap.size wr w13 from blw_))
   have q0 := zci w13 w.heap.size 0 p (by go_simp)
   have q1 := zci w13 w.heap.size 1 fa (by go_simp)
   have q2 := zci w13 w.heap.size 2 la (by go_simp)
   have q3 := zci w13 (w.heap.size + 1) 0 q (by go_simp)
   have q4 := zci w13 (w.heap.size + 1) 1 fb (by go_simp)
   have q5 := zci w13 (w.heap.size + 1) 2 lb (by go_simp)
   clear hKK HKK u1 u2 u3 u4 v1 v2 v3 hL0 C1 C2 C3 C4 u5
   go_loopw [156] (fun s156 wr => ∃ t : Nat, s156 = .int .i64 t ∧ t ≤ K ∧ Below w.heap.size w wr ∧ w.heap.size + 1 < wr.heap.size ∧ wr.cell? ⟨w.heap.size, 0, none⟩ = some (.int .i64 p) ∧ wr.cell? ⟨w.heap.size, 1, none⟩ = some (.int .i64 fa) ∧ wr.cell? ⟨w.heap.size, 2, none⟩ = some (.int .i64 la) ∧ wr.cell? ⟨w.heap.size + 1, 0, none⟩ = some (.int .i64 q) ∧ wr.cell? ⟨w.heap.size + 1, 1, none⟩ = some (.int .i64 fb) ∧ wr.cell? ⟨w.heap.size + 1, 2, none⟩ = some (.int .i64 lb)) (fun s156 _ => K - (intOf s156).toNat)
   case atStart => exact ⟨0, rfl, Nat.zero_le _, B0.out, by first | omega | (go_simp; done) | (go_simp; omega), q0, q1, q2, q3, q4, q5⟩
   case round =>
    clear q0 q1 q2 q3 q4 q5 hW B0
    obtain ⟨t, rfl, htL, hB, hsz, k0, k1, k2, k3, k4, k5⟩ := hrel
    have z0 : w.heap.size < wr.heap.size := by omega
    by_cases hlt0 : t < K
    ·have A := hide (D1.out t)
     have B := hide (D2.out t)
     have htj : t < j := Nat.lt_of_lt_of_le hlt0 HKj.out
     have i2 := addT (i := t) (L := j) HT.out htj HJ.out
     have i1 : wrap64 ((t : Int) + 1) = ((t + 1 : Nat) : Int) := inc_nat (L := j) htj HJ.out
     have pt := NO.out t htj
     clear htj
     have hlt : (t : Int) < K := Int.ofNat_lt.2 hlt0
     generalize Meet.hs p la fa (T + t) = x at *
     generalize Meet.hs q lb fb (T + t) = y at *
     have HK := hide hlt0
     clear hlt0
     cases x <;> cases y
     case true.true => cases pt
     all_goals
      clear pt htL
      go_wp2_with fail
      refine (A.out _).mono ?_
      rintro e w11 ⟨rfl, hb11⟩
      obtain ⟨hc11, hf11⟩ := bcell hb11
      have hz11 := hb11.size
      have z3 : w.heap.size < w11.heap.size := Nat.lt_of_lt_of_le z0 hz11
      have z4 : w.heap.size + 1 < w11.heap.size := Nat.lt_of_lt_of_le hsz hz11
      go_wp2_with fail
      try
       refine (B.out _).mono ?_
       rintro e w12 ⟨rfl, hb12⟩
       obtain ⟨hc12, hf12⟩ := bcell hb12
       have hz12 := hb12.size
       have z5 : w.heap.size < w12.heap.size := Nat.lt_of_lt_of_le z3 hz12
       have z6 : w.heap.size + 1 < w12.heap.size := Nat.lt_of_lt_of_le z4 hz12
       go_wp2_with fail
      go_roundw
     all_goals first
      | case rel => exact ⟨t + 1, by rw [i1], HK.out, by clear i1 i2; exact hB.trans blw_, by clear i1 i2; first | assumption | omega | (go_simp; done) | (go_simp; omega), by go_simp, by go_simp, by go_simp, by go_simp, by go_simp, by go_simp⟩
      | case measure => (rw [i1]; have hh := HK.out; clear i1 i2; show K - (t + 1) < K - t; omega)
    ·have hltI : ¬ (t : Int) < K := fun h => hlt0 (Int.ofNat_lt.1 h)
     clear hlt0 htL
     go_wp2
     go_ret
     exact ⟨rfl, hB.trans blw_⟩
theorem walk (p0 p1 p2 p3 p4 p5 p6 : Int) (k0 : I64 p0) (k1 : I64 p1) (k2 : I64 p2) (k3 : I64 p3) (k4 : I64 p4) (k5 : I64 p5) (k6 : I64 p6) (w : World) :
  Calls Try.prog 6 #[.agg #[.int .i64 p0, .int .i64 p1, .int .i64 p2], .agg #[.int .i64 p3, .int .i64 p4, .int .i64 p5], .int .i64 p6] w fun e w' => e = .returned (.bool true) ∧ Below w.heap.size w w' := by
 clear k0 k1 k2 k3 k4 k5 k6
 cases h : (wB p0 p1 p2 && wB p3 p4 p5) with
 | false =>
  have h' : (wB p3 p4 p5 && wB p0 p1 p2) = false := by rw [Bool.and_comm]; exact h
  exact bad p0 p1 p2 p3 p4 p5 p6 0 2 (hide (next_bad p0 p1 p2 p3 p4 p5 h p6)) (hide (next_bad p3 p4 p5 p0 p1 p2 h' p6)) (hide (often_bad p0 p1 p2 p3 p4 p5 h)) (hide (often_bad p3 p4 p5 p0 p1 p2 h')) w
 | true =>
  rw [Bool.and_eq_true] at h
  obtain ⟨h1, h2⟩ := h
  have a := of_decide_eq_true h1
  have b := of_decide_eq_true h2
  obtain ⟨p, rfl⟩ : ∃ p : Nat, p0 = p := ⟨p0.toNat, by omega⟩
  obtain ⟨la, rfl⟩ : ∃ l : Nat, p2 = l := ⟨p2.toNat, by omega⟩
  obtain ⟨q, rfl⟩ : ∃ p : Nat, p3 = p := ⟨p3.toNat, by omega⟩
  obtain ⟨lb, rfl⟩ : ∃ l : Nat, p5 = l := ⟨p5.toNat, by omega⟩
  have hw : Win p la p1 := ⟨by omega, by omega, a.2.2.1, a.2.2.2.1, by omega⟩
  have hv : Win q lb p4 := ⟨by omega, by omega, b.2.2.1, b.2.2.2.1, by omega⟩
  have N1 := hide (next_any hw hv p6)
  have N2 := hide (next_any hv hw p6)
  have O1 := hide (often_any hw hv)
  have O2 := hide (often_any hv hw)
  rw [← nxV_comm hw hv] at N2
  change Hid (∀ w, Calls Try.prog 21 #[wv p la p1, wv q lb p4] w fun e w' => e = .returned (.tuple #[.int .i64 (both p la p1 q lb p4 : Nat), .int .i64 0]) ∧ Below w.heap.size w w') at O1
  change Hid (∀ w, Calls Try.prog 21 #[wv q lb p4, wv p la p1] w fun e w' => e = .returned (.tuple #[.int .i64 (both q lb p4 p la p1 : Nat), .int .i64 0]) ∧ Below w.heap.size w w') at O2
  rw [both_comm (p := q) (la := lb) (q := p) (lb := la) (fa := p4) (fb := p1) hv.p0 hw.p0] at O2
  unfold nxV at N1 N2
  cases ht : tB p6 with
  | false =>
   rw [if_pos ht] at N1 N2
   exact bad p p1 la q p4 lb p6 _ 0 N1 N2 O1 O2 w
  | true =>
   rw [if_neg (by rw [ht]; simp)] at N1 N2
   by_cases hN : both p la p1 q lb p4 = 0
   ·rw [if_pos hN] at N1 N2
    rw [hN] at O1 O2
    exact none_ hw hv p6 N1 N2 O1 O2 w
   ·rw [if_neg hN] at N1 N2
    obtain ⟨j, hj⟩ := nxt_is hw hv (T := p6) hN
    exact some_ hw hv p6 (of_decide_eq_true ht) (Nat.pos_of_ne_zero hN) both_le hj N1 N2 O1 O2 w
theorem own : ownKnob Try.prog.godebug = none := by kernel_rfl
theorem laidOut : laidOutB Try.prog = true := by kernel_rfl
set_option maxRecDepth 100000 in
theorem lifted (os : Os) (started : os.Started) (H : Type) (enc : TypeId × Value → H) :
  ReturnsInHanded {} Try.checked os 6 .any (Rows.ascentNextSpec.pre6 enc Try.prog Try.f6 Rows.ascentNextRow.domain false) (Rows.ascentNextSpec.post enc Try.prog Try.f6 false true false false) := by
 refine returnsInHanded_of_change (C := Try.checked) own started (by kernel_rfl) Try.func6
  (ChangeSpec.witness6 (enc := enc) (C := Try.checked) false ⟨#[], #[.agg #[.int .i64 0, .int .i64 0, .int .i64 0], .agg #[.int .i64 0, .int .i64 0, .int .i64 0], .int .i64 0], []⟩ 8 (by kernel_rfl) (by kernel_rfl) (by kernel_rfl) (by kernel_rfl)) ?_
 intro W base args ds gs before hval0 hW _ _
 have hval : ∀ (j : Nat) t v, Try.f6.params[j]? = some t → args[j]? = some v → Value.okWide Try.prog W .any base t v := hval0
 have hW' := hW
 obtain ⟨p, q, hA0, hV, rfl, _, _⟩ := hW
 have hA : DataW.TrodAll enc Try.prog W 0 (fun _ => true) true Try.f6.params.toList args.toList ds p := hA0
 rw [Try.params6] at hA hval
 obtain ⟨v0, vs0, d0, ds0, p0, q0, hargs, rfl, rfl, h0, r0⟩ := trodAll_cons hA
 obtain ⟨v1, vs1, d1, ds1, p1, q1, rfl, rfl, rfl, h1, r1⟩ := trodAll_cons r0
 obtain ⟨v2, vs2, d2, ds2, p2, q2, rfl, rfl, rfl, h2, r2⟩ := trodAll_cons r1
 obtain ⟨rfl, rfl, rfl⟩ := trodAll_nil r2
 obtain rfl : args = #[v0, v1, v2] := by cases args; simp_all
 obtain ⟨rfl, rfl⟩ := trodVars_none hV
 obtain ⟨cs0, rfl, hk0⟩ := open_plain (Q := fun _ _ => True) (fun _ _ _ _ _ _ _ _ _ => trivial) (n := 10) (ks := [.int .i64, .int .i64, .int .i64]) (by kernel_rfl) (by kernel_rfl) (by kernel_rfl) (hval 0 23 v0 rfl rfl) h0
 obtain ⟨x0_0, cs0, rfl, wf0_0, hk0⟩ := hk0.int
 obtain ⟨x0_1, cs0, rfl, wf0_1, hk0⟩ := hk0.int
 obtain ⟨x0_2, cs0, rfl, wf0_2, hk0⟩ := hk0.int
 obtain rfl := hk0.nil
 obtain ⟨cs1, rfl, hk1⟩ := open_plain (Q := fun _ _ => True) (fun _ _ _ _ _ _ _ _ _ => trivial) (n := 10) (ks := [.int .i64, .int .i64, .int .i64]) (by kernel_rfl) (by kernel_rfl) (by kernel_rfl) (hval 1 23 v1 rfl rfl) h1
 obtain ⟨x1_0, cs1, rfl, wf1_0, hk1⟩ := hk1.int
 obtain ⟨x1_1, cs1, rfl, wf1_1, hk1⟩ := hk1.int
 obtain ⟨x1_2, cs1, rfl, wf1_2, hk1⟩ := hk1.int
 obtain rfl := hk1.nil
 obtain ⟨x2, rfl, rfl, rfl, wf2⟩ := open_int Try.underlying3 (hval 2 3 v2 rfl rfl) h2
 clear hA0 hval0
 simp only [List.append_nil] at hW'
 refine (walk x0_0 x0_1 x0_2 x1_0 x1_1 x1_2 x2 (i64_of_wf wf0_0) (i64_of_wf wf0_1) (i64_of_wf wf0_2) (i64_of_wf wf1_0) (i64_of_wf wf1_1) (i64_of_wf wf1_2) (i64_of_wf wf2) W).mono fun e W' ⟨he, hb⟩ => ?_
 subst he
 exact ⟨_, rfl, _, _, _, [], _, [], hW', (trodAll_cons_mk (shut_bool Try.underlying4 _) trodAll_mk0), (trodAll_cons_mk (Below.trod laidOut (by kernel_rfl) (of_decide_eq_true (by kernel_rfl)) h0 hb (fun x hx => hW'.lt x (by simp [hx]))) (trodAll_cons_mk (Below.trod laidOut (by kernel_rfl) (of_decide_eq_true (by kernel_rfl)) h1 hb (fun x hx => hW'.lt x (by simp [hx]))) (trodAll_cons_mk (shut_int Try.underlying3 wf2) trodAll_mk0))), rfl, hb.frame _, fun h => by cases h⟩
theorem holds : Rows.AscentNextSaid :=
 OpenClaim.holds_of_wide 6 Try.f6 rfl rfl rfl rfl rfl rfl rfl ⟨rfl, rfl, rfl, rfl, rfl⟩ rfl rfl rfl rfl rfl (by kernel_rfl) Try.func6 (by kernel_rfl)
  (of_decide_eq_true (by kernel_rfl)) (by unfold Func.isWrapper; first | (rw [if_pos (by decide +kernel)]; kernel_rfl) | (rw [if_neg (by decide +kernel)]; exact ⟨rfl, rfl⟩))
  (fun os started H enc _ => lifted os started H enc)
#print axioms holds
end lawAscentNext
end
end Go.Proofs.Ytfgfnjckklldbaa
