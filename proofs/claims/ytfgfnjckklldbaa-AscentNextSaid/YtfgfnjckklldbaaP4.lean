/- Packed: MtA MtB MtC. -/
import Derived.Deep.CutBlock
import Derived.Deep.CutRange
import Derived.Test.YtfgfnjckklldbaaP2
import Derived.Test.YtfgfnjckklldbaaP3
set_option linter.unusedVariables false
set_option linter.unusedSimpArgs false
namespace Go.Proofs.Ytfgfnjckklldbaa
section
open Go.RowKit
theorem tmod_nat (a b : Nat) : (a : Int).tmod b = ((a % b : Nat) : Int) := by
 rw [Int.tmod_eq_emod_of_nonneg (by omega)]; rfl
theorem wrapSmall {x : Int} (h : -9223372036854775808 ≤ x ∧ x ≤ 9223372036854775807) : wrap64 x = x := by unfold wrap64; omega
theorem divisor_any (a b : Nat) (ha : a < 4611686018427387904) (hb : b < 4611686018427387904) (w : World) :
  Calls Try.prog 41 #[.int .i64 a, .int .i64 b] w fun e w' => e = .returned (.int .i64 (Nat.gcd a b : Nat)) ∧ Below w.heap.size w w' := by
 have HA := hide ha
 have HB := hide hb
 clear ha hb
 go_enter Try.func41, Try.ntmps41
 go_wp2
 go_loopw [0, 1] (fun s0 s1 wr => ∃ x y : Nat, s0 = .int .i64 x ∧ s1 = .int .i64 y ∧ Nat.gcd x y = Nat.gcd a b ∧ x < 4611686018427387904 ∧ y < 4611686018427387904 ∧ Below w.heap.size w wr) (fun _ s1 _ => (intOf s1).toNat)
 case atStart => exact ⟨a, b, rfl, rfl, rfl, HA.out, HB.out, blw_⟩
 case round =>
  obtain ⟨x, y, rfl, rfl, hg, hx, hy, hW⟩ := hrel
  have HG := hide hg
  have HX := hide hx
  have HY := hide hy
  clear hg hx hy
  by_cases hy0 : (y : Int) = 0
  ·have HZ : Hid (Nat.gcd x y = x) := hide (by obtain rfl : y = 0 := by omega
                                               simp)
   go_wp2
   go_ret
   exact ⟨by rw [← HG.out, HZ.out]; rfl, hW⟩
  ·have c1 := tmod_nat x y
   have hlt := Nat.mod_lt x (show 0 < y by omega)
   have HL := hide hlt
   clear hlt
   have HGG : Hid (Nat.gcd y (x % y) = Nat.gcd x y) := hide (by rw [Nat.gcd_comm y, ← Nat.gcd_rec, Nat.gcd_comm])
   go_wp2
   go_region
   all_goals go_wp2
   all_goals go_roundw
   all_goals first
    | case rel => exact ⟨y, x % y, rfl, by first | rfl | (rw [c1]), by rw [HGG.out, HG.out], HY.out, by have := HL.out; have := HY.out; omega, hW.trans blw_⟩
    | case measure => have := HL.out; simp [intOf]; omega
end
section
open Go.RowKit
theorem rest_eq {n m : Int} (hm : 0 < m) (hb : m ≤ 4611686018427387904) : (n.tmod m < 0 → wrap64 (n.tmod m + m) = n % m) ∧ (¬ n.tmod m < 0 → n.tmod m = n % m) := by
 have h0 := Int.emod_nonneg n (show m ≠ 0 by omega)
 have h1 := Int.emod_lt_of_pos n hm
 have e := Int.tmod_eq_emod (a := n) (b := m)
 refine ⟨fun h => ?_, fun h => ?_⟩
 ·rw [wrapSmall] <;> (split at e <;> omega)
 ·split at e <;> omega
theorem rest_any (n m : Int) (hm : 0 < m ∧ m ≤ 4611686018427387904) (w : World) :
  Calls Try.prog 42 #[.int .i64 n, .int .i64 m] w fun e w' => e = .returned (.int .i64 (n % m)) ∧ Below w.heap.size w w' := by
 obtain ⟨e1, e2⟩ := rest_eq (n := n) hm.1 hm.2
 have hm0 : ¬ m = 0 := by omega
 clear hm
 by_cases h : n.tmod m < 0
 ·have E := hide (e1 h)
  clear e1 e2
  go_enter Try.func42, Try.ntmps42
  go_wp2
  go_ret
  exact ⟨by rw [← E.out]; rfl, blw_⟩
 ·have E := hide (e2 h)
  clear e1 e2
  go_enter Try.func42, Try.ntmps42
  go_wp2
  go_ret
  exact ⟨by rw [← E.out]; rfl, blw_⟩
theorem ceil_eq {a b : Nat} (hb : 0 < b) (h : a < 4611686018427387904 ∧ b < 4611686018427387904) : wrap64 ((wrap64 (wrap64 ((a : Int) + b) - 1)).tdiv b) = (Meet.ceil a b : Nat) := by
 rw [wrapSmall (x := (a : Int) + b) (by omega), wrapSmall (x := (a : Int) + b - 1) (by omega), show (a : Int) + b - 1 = ((a + b - 1 : Nat) : Int) by omega, Int.tdiv_eq_ediv_of_nonneg (by omega), ← Int.natCast_ediv]
 have := Nat.div_le_self (a + b - 1) b
 unfold Meet.ceil
 generalize (a + b - 1) / b = q at *
 exact wrapSmall (by omega)
theorem roundup_any (a b : Nat) (hb : 0 < b) (h : a < 4611686018427387904 ∧ b < 4611686018427387904) (w : World) :
  Calls Try.prog 64 #[.int .i64 a, .int .i64 b] w fun e w' => e = .returned (.int .i64 (Meet.ceil a b : Nat)) ∧ Below w.heap.size w w' := by
 have E := hide (ceil_eq hb h)
 have hb0 : ¬ (b : Int) = 0 := by omega
 clear hb h
 go_enter Try.func64, Try.ntmps64
 go_wp2
 go_ret
 exact ⟨by rw [← E.out]; rfl, blw_⟩
end
section
open Go.RowKit
def optV : Option Nat → Value
 | none => .tuple #[.int .i64 0, .bool false]
 | some n => .tuple #[.int .i64 n, .bool true]
theorem neg_mod {x m : Nat} (hm : 0 < m) : (-(x : Int)) % m = ((m - x % m) % m : Nat) := by
 have h := Nat.mod_lt x hm
 have e := Int.mul_ediv_add_emod (x : Int) m
 rw [← Int.natCast_emod] at e
 have : -(x : Int) = ((m - x % m : Nat) : Int) + m * (-(x / m : Int) - 1) := by
  rw [Int.mul_sub, Int.mul_neg]
  omega
 rw [this, Int.add_mul_emod_self_left, ← Int.natCast_emod]
theorem prod_facts {r round : Nat} (hr : r ≤ 1073741824) (h2 : round ≤ 1073741824) : ∃ R : Nat, r * round = R ∧ R ≤ 1152921504606846976 := by
 refine ⟨r * round, rfl, ?_⟩
 have h := Nat.mul_le_mul hr h2
 exact Nat.le_trans h (Nat.le_of_ble_eq_true rfl)
theorem add_nat {a b : Nat} (h : a ≤ 1073741824) (h2 : b ≤ 1152921504606846976) : wrap64 ((a : Int) + b) = ((a + b : Nat) : Int) := by
 rw [← Int.natCast_add]; exact wrapSmall (by omega)
theorem mul_nat {r round R : Nat} (hR : r * round = R) (h : R ≤ 1152921504606846976) : wrap64 ((r : Int) * round) = (R : Int) := by
 rw [← Int.natCast_mul, hR]; exact wrapSmall (by omega)
theorem sum_bd {a b : Nat} (h : a ≤ 1073741824) (h2 : b ≤ 1152921504606846976) : a + b < 4611686018427387904 := by omega
theorem sub_ok {low high s : Nat} (s0 : 0 < s) (h0 : 0 < low) (h1 : low ≤ high) (hh : ¬ Meet.ceil low s * s ≤ high) : 0 < (s - high % s) % s ∧ (s - high % s) % s ≤ (s - low % s) % s ∧ (s - low % s) % s < s := by
 obtain ⟨c1, c2⟩ := Meet.ceil_facts (x := low) s0
 have dl := Nat.div_add_mod low s
 have dh := Nat.div_add_mod high s
 have ml := Nat.mod_lt low s0
 have mh := Nat.mod_lt high s0
 obtain ⟨N, hN⟩ : ∃ N, Meet.ceil low s = N := ⟨_, rfl⟩
 rw [hN] at c1 c2 hh
 have N1 : 0 < N := by rcases Nat.eq_zero_or_pos N with h | h; · subst h; omega
                       ·exact h
 obtain ⟨M, rfl⟩ : ∃ M, N = M + 1 := ⟨N - 1, by omega⟩
 rw [Nat.succ_mul] at c1 c2 hh
 have el : low / s = M := (Nat.div_eq_iff s0).2 ⟨by omega, by omega⟩
 have eh : high / s = M := (Nat.div_eq_iff s0).2 ⟨by omega, by omega⟩
 rw [el, Nat.mul_comm] at dl
 rw [eh, Nat.mul_comm] at dh
 generalize low % s = l at *
 generalize high % s = h at *
 rw [Nat.mod_eq_of_lt (a := s - h) (by omega), Nat.mod_eq_of_lt (a := s - l) (by omega)]
 omega
set_option maxHeartbeats 2000000 in
theorem hit_any : ∀ (fuel step round low high : Nat), round ≤ fuel → 0 < round → round ≤ 1073741824 → step ≤ 1073741824 → 0 < low → low ≤ high → high < round → ∀ (w : World),
  Calls Try.prog 52 #[.int .i64 step, .int .i64 round, .int .i64 low, .int .i64 high] w fun e w' => e = .returned (optV (Meet.hit fuel step round low high)) ∧ Below w.heap.size w w' := by
 intro fuel
 induction fuel with
 | zero => intro step round low high h1 h2; omega
 | succ fuel ih =>
  intro step round low high hf h0 hr hst hl hlh hh w
  have hs := Nat.mod_lt step h0
  have cm := tmod_nat step round
  have hr0 : ¬ (round : Int) = 0 := by omega
  have lowb : low ≤ 1073741824 := by omega
  unfold Meet.hit
  generalize hS : step % round = s at *
  clear hS
  by_cases hz : s = 0
  ·subst hz
   rw [if_pos rfl]
   clear ih
   have cm' : (step : Int).tmod round = 0 := cm
   clear cm
   go_enter Try.func52, Try.ntmps52
   go_wp2
   refine bodyPost_ret (v := .tuple #[.int .i64 0, .bool false]) (by simp only [results, Try.results52]; go_simp) rfl ⟨rfl, blw_⟩
  ·have s0 : 0 < s := Nat.pos_of_ne_zero hz
   have hb1 : s < 4611686018427387904 := by omega
   have hzI : ¬ (s : Int) = 0 := by omega
   have C1 := hide (roundup_any low s s0 ⟨by omega, by omega⟩)
   have cf := Meet.ceil_facts (x := low) s0
   have so := sub_ok (low := low) (high := high) s0 hl hlh
   rw [if_neg hz]
   generalize Meet.ceil low s = N at *
   obtain ⟨M, hM⟩ : ∃ M, N * s = M := ⟨_, rfl⟩
   have em := mul_nat hM (by omega)
   rw [hM] at so cf ⊢
   by_cases hle : M ≤ high
   ·rw [if_pos hle]
    have hleI : (M : Int) ≤ high := by omega
    clear ih so cf
    go_enter Try.func52, Try.ntmps52
    go_wp2_with fail
    refine (C1.out _).mono ?_
    rintro e w1 ⟨rfl, hb1⟩
    obtain ⟨hc1, hf1⟩ := bcell hb1
    have hz1 := hb1.size
    try simp only [World.size_alloc, World.size_setCell] at hz1
    go_wp2
    refine bodyPost_ret (v := .tuple #[.int .i64 N, .bool true]) (by simp only [results, Try.results52]; go_simp) rfl ⟨rfl, blw_⟩
   ·rw [if_neg hle]
    have hleI : ¬ (M : Int) ≤ high := by omega
    obtain ⟨a1, a2, a3⟩ := so hle
    have C2 := hide (rest_any (-(high : Int)) s ⟨by omega, by omega⟩)
    have C3 := hide (rest_any (-(low : Int)) s ⟨by omega, by omega⟩)
    rw [neg_mod s0] at C2 C3
    generalize (s - high % s) % s = lo' at *
    generalize (s - low % s) % s = hi' at *
    have C4 := hide (ih round s lo' hi' (by omega) s0 (by omega) (by omega) a1 a2 a3)
    have ls := Meet.hit_least fuel round s lo' hi' (by omega) a1 a2 a3
    have e1 : wrap64 (-(high : Int)) = -(high : Int) := wrapSmall (by omega)
    have e2 : wrap64 (-(low : Int)) = -(low : Int) := wrapSmall (by omega)
    clear ih so
    cases hres : Meet.hit fuel round s lo' hi' with
    | none =>
     rw [hres] at C4
     simp only [optV] at C4
     clear ls cf hres
     go_enter Try.func52, Try.ntmps52
     go_wp2_with fail
     refine (C1.out _).mono ?_
     rintro e w1 ⟨rfl, hb1⟩
     obtain ⟨hc1, hf1⟩ := bcell hb1
     have hz1 := hb1.size
     try simp only [World.size_alloc, World.size_setCell] at hz1
     go_wp2_with fail
     refine (C2.out _).mono ?_
     rintro e w2 ⟨rfl, hb2⟩
     obtain ⟨hc2, hf2⟩ := bcell hb2
     have hz2 := hb2.size
     try simp only [World.size_alloc, World.size_setCell] at hz2
     try have : w1.heap.size < w2.heap.size := by omega
     try have : w1.heap.size ≤ w2.heap.size := by omega
     go_wp2_with fail
     refine (C3.out _).mono ?_
     rintro e w3 ⟨rfl, hb3⟩
     obtain ⟨hc3, hf3⟩ := bcell hb3
     have hz3 := hb3.size
     try simp only [World.size_alloc, World.size_setCell] at hz3
     try have : w1.heap.size < w3.heap.size := by omega
     try have : w1.heap.size ≤ w3.heap.size := by omega
     try have : w2.heap.size < w3.heap.size := by omega
     try have : w2.heap.size ≤ w3.heap.size := by omega
     go_wp2_with fail
     refine (C4.out _).mono ?_
     rintro e w4 ⟨rfl, hb4⟩
     obtain ⟨hc4, hf4⟩ := bcell hb4
     have hz4 := hb4.size
     try simp only [World.size_alloc, World.size_setCell] at hz4
     try have : w1.heap.size < w4.heap.size := by omega
     try have : w1.heap.size ≤ w4.heap.size := by omega
     try have : w2.heap.size < w4.heap.size := by omega
     try have : w2.heap.size ≤ w4.heap.size := by omega
     try have : w3.heap.size < w4.heap.size := by omega
     try have : w3.heap.size ≤ w4.heap.size := by omega
     go_wp2
     refine bodyPost_ret (v := .tuple #[.int .i64 0, .bool false]) (by simp only [results, Try.results52]; go_simp) rfl ⟨rfl, blw_⟩
    | some r =>
     rw [hres] at C4 ls
     simp only [optV] at C4
     have rl := Meet.least_lt s0 ls
     have rb : r ≤ 1073741824 := by omega
     obtain ⟨R, hR, hR2⟩ := prod_facts rb hr
     clear rb
     have e3 := mul_nat hR hR2
     have e4 := add_nat (a := low) (b := R) lowb hR2
     have hb2 := sum_bd (a := low) (b := R) lowb hR2
     have C5 := hide (roundup_any (low + R) s s0 ⟨hb2, hb1⟩)
     clear hb2
     simp only [optV, hR]
     generalize Meet.ceil (low + R) s = K at *
     generalize low + R = LR at *
     clear ls cf hres rl hR hR2
     go_enter Try.func52, Try.ntmps52
     go_wp2_with fail
     refine (C1.out _).mono ?_
     rintro e w1 ⟨rfl, hb1⟩
     obtain ⟨hc1, hf1⟩ := bcell hb1
     have hz1 := hb1.size
     try simp only [World.size_alloc, World.size_setCell] at hz1
     go_wp2_with fail
     refine (C2.out _).mono ?_
     rintro e w2 ⟨rfl, hb2⟩
     obtain ⟨hc2, hf2⟩ := bcell hb2
     have hz2 := hb2.size
     try simp only [World.size_alloc, World.size_setCell] at hz2
     try have : w1.heap.size < w2.heap.size := by omega
     try have : w1.heap.size ≤ w2.heap.size := by omega
     go_wp2_with fail
     refine (C3.out _).mono ?_
     rintro e w3 ⟨rfl, hb3⟩
     obtain ⟨hc3, hf3⟩ := bcell hb3
     have hz3 := hb3.size
     try simp only [World.size_alloc, World.size_setCell] at hz3
     try have : w1.heap.size < w3.heap.size := by omega
     try have : w1.heap.size ≤ w3.heap.size := by omega
     try have : w2.heap.size < w3.heap.size := by omega
     try have : w2.heap.size ≤ w3.heap.size := by omega
     go_wp2_with fail
     refine (C4.out _).mono ?_
     rintro e w4 ⟨rfl, hb4⟩
     obtain ⟨hc4, hf4⟩ := bcell hb4
     have hz4 := hb4.size
     try simp only [World.size_alloc, World.size_setCell] at hz4
     try have : w1.heap.size < w4.heap.size := by omega
     try have : w1.heap.size ≤ w4.heap.size := by omega
     try have : w2.heap.size < w4.heap.size := by omega
     try have : w2.heap.size ≤ w4.heap.size := by omega
     try have : w3.heap.size < w4.heap.size := by omega
     try have : w3.heap.size ≤ w4.heap.size := by omega
     go_wp2_with fail
     refine (C5.out _).mono ?_
     rintro e w5 ⟨rfl, hb5⟩
     obtain ⟨hc5, hf5⟩ := bcell hb5
     have hz5 := hb5.size
     try simp only [World.size_alloc, World.size_setCell] at hz5
     try have : w1.heap.size < w5.heap.size := by omega
     try have : w1.heap.size ≤ w5.heap.size := by omega
     try have : w2.heap.size < w5.heap.size := by omega
     try have : w2.heap.size ≤ w5.heap.size := by omega
     try have : w3.heap.size < w5.heap.size := by omega
     try have : w3.heap.size ≤ w5.heap.size := by omega
     try have : w4.heap.size < w5.heap.size := by omega
     try have : w4.heap.size ≤ w5.heap.size := by omega
     go_wp2
     refine bodyPost_ret (v := .tuple #[.int .i64 K, .bool true]) (by simp only [results, Try.results52]; go_simp) rfl ⟨rfl, blw_⟩
end
end Go.Proofs.Ytfgfnjckklldbaa
