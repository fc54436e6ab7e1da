/- Packed: SwA. -/
import Derived.Lib.RabinKarpLaws
import Derived.Test.YtacpahebbnnckaaP9
set_option linter.unusedVariables false
set_option linter.unusedSimpArgs false
namespace Go.Proofs.Ytacpahebbnnckaa
section
set_option maxRecDepth 100000
open Go.RowKit
open FP
namespace Sw
theorem pow_pos (n : Nat) : (0 : Int) < 2 ^ n := Int.pow_pos (by omega)
theorem mask_iff (f : Int) (n : Nat) : (f / 2 ^ n == 0) = decide (0 ≤ f ∧ f < 2 ^ n) := by
 have h := pow_pos n
 generalize (2 : Int) ^ n = p at *
 by_cases c : 0 ≤ f ∧ f < p
 ·rw [decide_eq_true c, Int.ediv_eq_zero_of_lt c.1 c.2]; rfl
 ·rw [decide_eq_false c]
  simp only [beq_eq_false_iff_ne, ne_eq]
  intro e
  have h1 := Int.emod_nonneg f (show p ≠ 0 by omega)
  have h2 := Int.emod_lt_of_pos f h
  have h3 := Int.mul_ediv_add_emod f p
  rw [e] at h3
  simp at h3
  omega
theorem isMask_any (f : Int) (n : Nat) (hn : n ≤ 20) (w : World) :
  Calls Try.prog 46 #[.int .i64 f, .int .i64 n] w fun e w' => e = .returned (.bool (decide (0 ≤ f ∧ f < 2 ^ n))) ∧ Below w.heap.size w w' := by
 rw [← mask_iff]
 go_enter Try.func46, Try.ntmps46
 go_wp2
 go_ret
 exact ⟨rfl, Below.refl _ _⟩
theorem and1 {x : Int} (h0 : 0 ≤ x) (h1 : x ≤ 9223372036854775807) : bits BinOp.and IntKind.i64 x 1 = x % 2 := by
 have h := Go.Proofs.and_one x.toNat (by omega)
 rw [Int.toNat_of_nonneg h0] at h
 rw [h]
 omega
def bit (f : Int) (k : Nat) : Bool := decide (f / 2 ^ k % 2 = 1)
theorem bit_and {f : Int} (h0 : 0 ≤ f) (h1 : f ≤ 9223372036854775807) (k : Nat) : (bits BinOp.and IntKind.i64 (f / 2 ^ k) 1 == 0) = !bit f k := by
 have hp := pow_pos k
 have a := Int.ediv_nonneg h0 (Int.le_of_lt hp)
 have b := Int.ediv_le_self (2 ^ k) h0
 rw [and1 a (by omega)]
 unfold bit
 generalize f / 2 ^ k = q at *
 by_cases c : q % 2 = 1
 ·simp [c]
 ·have : q % 2 = 0 := by omega
  simp [this]
def posB (n : Nat) (lo hi : Nat → Int) : Bool := (List.range n).all fun j => vB (lo j) (hi j) && decide (0 ≤ lo j)
theorem pow_12 {n : Nat} (h : n ≤ 20) : (1 : Int) ≤ 2 ^ n ∧ (2 : Int) ^ n ≤ 1048576 := by
 have : n = 0 ∨ n = 1 ∨ n = 2 ∨ n = 3 ∨ n = 4 ∨ n = 5 ∨ n = 6 ∨ n = 7 ∨ n = 8 ∨ n = 9 ∨ n = 10 ∨ n = 11 ∨ n = 12 ∨ n = 13 ∨ n = 14 ∨ n = 15 ∨ n = 16 ∨ n = 17 ∨ n = 18 ∨ n = 19 ∨ n = 20 := by omega
 rcases this with rfl | rfl | rfl | rfl | rfl | rfl | rfl | rfl | rfl | rfl | rfl | rfl | rfl | rfl | rfl | rfl | rfl | rfl | rfl | rfl | rfl <;> decide
theorem power_any (n : Nat) (hn : n ≤ 20) (w : World) :
  Calls Try.prog 38 #[.int .i64 n] w fun e w' => e = .returned (.int .i64 (2 ^ n)) ∧ Below w.heap.size w w' := by
 go_enter Try.func38, Try.ntmps38
 go_wp2
 go_loopw [4, 3] (fun s4 s3 wr => ∃ k : Nat, k ≤ n ∧ s4 = .int .i64 k ∧ (∃ p : Int, s3 = .int .i64 p ∧ p = 2 ^ k) ∧ wr = w) (fun s4 _ _ => n - (intOf s4).toNat)
 case atStart => exact ⟨0, Nat.zero_le _, rfl, ⟨1, rfl, rfl⟩, rfl⟩
 case round =>
  obtain ⟨k, hk, rfl, ⟨p, rfl, hp⟩, rfl⟩ := hrel
  by_cases hlt : k < n
  ·have b := pow_12 (n := k) (by omega)
   have hw : wrap64 (2 * p) = 2 * p := by rw [hp]; unfold wrap64; omega
   have hw' : wrap64 ((k : Int) + 1) = ((k + 1 : Nat) : Int) := by unfold wrap64; omega
   have h2 : Hid (2 * p = 2 ^ (k + 1)) := hide (by rw [hp, Int.pow_succ]; omega)
   clear hp b
   go_wp2
   go_roundw
   case rel => exact ⟨k + 1, by omega, by first | rfl | rw [hw'] | go_num, ⟨2 * p, by first | rfl | rw [hw], h2.out⟩, by first | trivial | rfl⟩
   case measure => simp [intOf]; omega
  ·obtain rfl : k = n := by omega
   subst hp
   go_wp2
   go_ret
   exact ⟨rfl, Below.refl _ _⟩
theorem has_any (f : Int) (h0 : 0 ≤ f) (h1 : f ≤ 9223372036854775807) (k : Nat) (hk : k ≤ 20) (w : World) :
  Calls Try.prog 58 #[.int .i64 f, .int .i64 k] w fun e w' => e = .returned (.bool (bit f k)) ∧ Below w.heap.size w w' := by
 have PW := hide (power_any k hk)
 have b := pow_12 hk
 have e1 : f.tdiv (2 ^ k) = f / 2 ^ k := Int.tdiv_eq_ediv_of_nonneg h0
 have q0 := Int.ediv_nonneg h0 (Int.le_of_lt (pow_pos k))
 have q1 := Int.ediv_le_self (2 ^ k) h0
 have e2 : (f / 2 ^ k).tmod 2 = f / 2 ^ k % 2 := Int.tmod_eq_emod_of_nonneg q0
 have hp : (2 : Int) ^ k ≠ 0 := by omega
 have hp1 : (2 : Int) ^ k ≠ -1 := by omega
 have hb : (f / 2 ^ k % 2 == 1) = bit f k := by unfold bit; by_cases c : f / 2 ^ k % 2 = 1 <;> simp [c]
 rw [← hb]
 generalize (2 : Int) ^ k = p at *
 have y1 : wrap64 (f / p) = f / p := by unfold wrap64; omega
 have y2 : wrap64 (f / p % 2) = f / p % 2 := by unfold wrap64; omega
 clear hb b q0 q1
 go_enter Try.func58, Try.ntmps58
 go_wp2_with fail
 refine (PW.out _).mono ?_
 rintro e w1 ⟨rfl, hb1⟩
 obtain ⟨hc1, hf1⟩ := bcell hb1
 have hz1 := hb1.size
 try simp only [World.size_alloc, World.size_setCell] at hz1
 clear hc1 hf1
 go_wp2
 go_ret
 exact ⟨rfl, blw_⟩
set_option maxHeartbeats 1000000 in
theorem valid_any (A : Option Addr) (n cap : Nat) (lo hi : Nat → Int) (hm : n ≤ 64) (hI : ∀ j, FD.In64 (lo j) ∧ FD.In64 (hi j)) (w : World) (hS : SpL w A n lo hi) (res : Bool) (hr : lstB n lo hi = res) :
  Calls Try.prog 63 #[.slice A n cap] w fun e w' => e = .returned (.bool res) ∧ Below w.heap.size w w' := by
 have HS := hide hS
 have HR := hide hr
 have HI := hide hI
 clear hS hr hI
 go_enter Try.func63, Try.ntmps63
 go_wp2
 go_loopw [7] (fun i wr => ∃ k : Nat, k ≤ n ∧ i = .int .i64 k ∧ lstB k lo hi = true ∧ Below w.heap.size w wr) (fun i _ => n - (intOf i).toNat)
 case atStart => exact ⟨0, Nat.zero_le _, rfl, rfl, Below.refl _ _⟩
 case round =>
  obtain ⟨k, hk, rfl, hV, hB⟩ := hrel
  have HV := hide hV
  clear hV
  by_cases hlt : k < n
  ·obtain ⟨ad, hA, hl, hE⟩ := HS.out (by omega)
   subst hA
   have hE' := elA_below hE hB hl
   have t0 := (hE' k hlt).1
   have t1 := (hE' k hlt).2
   have hbr : ad.block < wr.heap.size := Nat.lt_of_lt_of_le hl hB.size
   have hba := block_add ad
   have hi0 := (HI.out k).1.1
   have HI0 := hide hi0
   clear hE hE' hi0
   cases hv : vB (lo k) (hi k)
   ·have HF := hide (lst_no (lo := lo) (hi := hi) hlt hv)
    have HV1 := hide hv
    clear hv
    generalize lo k = x0 at *
    generalize hi k = x1 at *
    go_wp2_with (go_at_call 103; refine (check_no _ _ HI0.out HV1.out _).mono ?_; rintro e w1 ⟨rfl, hb1⟩)
    go_ret
    exact ⟨by rw [← HR.out, HF.out]; rfl, hB.trans (((Below.refl _ _).alloc (by have := hB.size; omega) _).trans (hb1.mono (by have := hB.size; simp; omega)))⟩
   ·have HF : Hid (lstB (k + 1) lo hi = true) := hide (all_more HV.out hv)
    have HV1 := hide hv
    clear hv
    generalize lo k = x0 at *
    generalize hi k = x1 at *
    go_wp2_with (go_at_call 103; refine (check_yes _ _ HV1.out _).mono ?_; rintro e w1 ⟨rfl, hb1⟩)
    go_roundw
    case rel => exact ⟨k + 1, by omega, by go_num, HF.out, hB.trans (((Below.refl _ _).alloc (by have := hB.size; omega) _).trans (hb1.mono (by have := hB.size; simp; omega)))⟩
    case measure => simp [intOf]; omega
  ·obtain rfl : k = n := by omega
   go_wp2
   go_ret
   exact ⟨by rw [← HR.out, HV.out]; rfl, hB⟩
theorem valid_one (b : Nat) (x y : Int) (hx : FD.In64 x) (hy : FD.In64 y) (w : World) (hb : b < w.heap.size) (h0 : w.cell? ⟨b, 0, none⟩ = some (.int .i64 x)) (h1 : w.cell? ⟨b, 1, none⟩ = some (.int .i64 y)) :
  Calls Try.prog 63 #[.slice (some ⟨b, 0, none⟩) 1 1] w fun e w' => e = .returned (.bool (vB x y)) ∧ Below w.heap.size w w' := by
 refine valid_any (some ⟨b, 0, none⟩) 1 1 (fun _ => x) (fun _ => y) (by omega) (fun _ => ⟨hx, hy⟩) w (fun _ => ⟨_, rfl, hb, fun j hj => ?_⟩) _ (by simp [lstB, List.range, List.range.loop])
 obtain rfl : j = 0 := by omega
 exact ⟨h0, h1⟩
set_option maxHeartbeats 1000000 in
theorem notNegative_any (A : Option Addr) (n cap : Nat) (lo hi : Nat → Int) (hm : n ≤ 64) (hI : ∀ j, FD.In64 (lo j) ∧ FD.In64 (hi j)) (w : World) (hS : SpL w A n lo hi) (res : Bool) (hr : posB n lo hi = res) :
  Calls Try.prog 44 #[.slice A n cap] w fun e w' => e = .returned (.bool res) ∧ Below w.heap.size w w' := by
 have HS := hide hS
 have HR := hide hr
 have HI := hide hI
 clear hS hr hI
 go_enter Try.func44, Try.ntmps44
 go_wp2
 go_loopw [7] (fun i wr => ∃ k : Nat, k ≤ n ∧ i = .int .i64 k ∧ posB k lo hi = true ∧ Below w.heap.size w wr) (fun i _ => n - (intOf i).toNat)
 case atStart => exact ⟨0, Nat.zero_le _, rfl, rfl, Below.refl _ _⟩
 case round =>
  obtain ⟨k, hk, rfl, hV, hB⟩ := hrel
  have HV := hide hV
  clear hV
  by_cases hlt : k < n
  ·obtain ⟨ad, hA, hl, hE⟩ := HS.out (by omega)
   subst hA
   have hE' := elA_below hE hB hl
   have t0 := (hE' k hlt).1
   have t1 := (hE' k hlt).2
   have hbr : ad.block < wr.heap.size := Nat.lt_of_lt_of_le hl hB.size
   have hba := block_add ad
   have VO := hide (fun W b hb => valid_one b (lo k) (hi k) (HI.out k).1 (HI.out k).2 W hb)
   have hs := hB.size
   have HF : Hid ((vB (lo k) (hi k) && decide (0 ≤ lo k)) = false → posB n lo hi = false) := hide (fun h => all_no hlt h)
   have HG : Hid ((vB (lo k) (hi k) && decide (0 ≤ lo k)) = true → posB (k + 1) lo hi = true) := hide (fun h => all_more HV.out h)
   clear hE hE'
   generalize vB (lo k) (hi k) = b at *
   generalize lo k = x0 at *
   generalize hi k = x1 at *
   cases b
   ·skip
    go_wp2_with fail
    refine (VO.out _ _ (by simp) (by go_simp) (by go_simp)).mono ?_
    rintro e w1 ⟨rfl, hb1⟩
    obtain ⟨hc1, hf1⟩ := bcell hb1
    have hz1 := hb1.size
    try simp only [World.size_alloc, World.size_setCell] at hz1
    try have : wr.heap.size < w1.heap.size := by omega
    try have : wr.heap.size ≤ w1.heap.size := by omega
    have c1_0_0 := zci w1 wr.heap.size 0 (x0) (by go_simp)
    have c1_0_1 := zci w1 wr.heap.size 1 (x1) (by go_simp)
    clear hc1 hf1
    go_wp2
    go_ret
    exact ⟨by rw [← HR.out, HF.out rfl]; rfl, blw_⟩
   ·by_cases hn : x0 < 0
    ·have HF2 := hide (HF.out (by simp; omega))
     go_wp2_with fail
     refine (VO.out _ _ (by simp) (by go_simp) (by go_simp)).mono ?_
     rintro e w1 ⟨rfl, hb1⟩
     obtain ⟨hc1, hf1⟩ := bcell hb1
     have hz1 := hb1.size
     try simp only [World.size_alloc, World.size_setCell] at hz1
     try have : wr.heap.size < w1.heap.size := by omega
     try have : wr.heap.size ≤ w1.heap.size := by omega
     have c1_0_0 := zci w1 wr.heap.size 0 (x0) (by go_simp)
     have c1_0_1 := zci w1 wr.heap.size 1 (x1) (by go_simp)
     clear hc1 hf1
     go_wp2
     go_ret
     exact ⟨by rw [← HR.out, HF2.out]; rfl, blw_⟩
    ·have HG2 := hide (HG.out (by simp; omega))
     go_wp2_with fail
     refine (VO.out _ _ (by simp) (by go_simp) (by go_simp)).mono ?_
     rintro e w1 ⟨rfl, hb1⟩
     obtain ⟨hc1, hf1⟩ := bcell hb1
     have hz1 := hb1.size
     try simp only [World.size_alloc, World.size_setCell] at hz1
     try have : wr.heap.size < w1.heap.size := by omega
     try have : wr.heap.size ≤ w1.heap.size := by omega
     have c1_0_0 := zci w1 wr.heap.size 0 (x0) (by go_simp)
     have c1_0_1 := zci w1 wr.heap.size 1 (x1) (by go_simp)
     clear hc1 hf1
     go_wp2
     go_roundw
     case rel => exact ⟨k + 1, by omega, by go_num, HG2.out, blw_⟩
     case measure => simp [intOf]; omega
  ·obtain rfl : k = n := by omega
   go_wp2
   go_ret
   exact ⟨by rw [← HR.out, HV.out]; rfl, hB⟩
set_option maxHeartbeats 1000000 in
theorem all_any (A : Option Addr) (n cap : Nat) (lo hi : Nat → Int) (hm : n ≤ 64) (w : World) (hS : SpL w A n lo hi) (res : Bool) (hr : lstB n lo hi = res) :
  Calls Try.prog 56 #[.slice A n cap] w fun e w' => e = .returned (.bool res) ∧ Below w.heap.size w w' := by
 have HS := hide hS
 have HR := hide hr
 clear hS hr
 go_enter Try.func56, Try.ntmps56
 go_wp2
 go_loopw [3] (fun i wr => ∃ k : Nat, k ≤ n ∧ i = .int .i64 k ∧ lstB k lo hi = true ∧ Below w.heap.size w wr) (fun i _ => n - (intOf i).toNat)
 case atStart => exact ⟨0, Nat.zero_le _, rfl, rfl, Below.refl _ _⟩
 case round =>
  obtain ⟨k, hk, rfl, hV, hB⟩ := hrel
  have HV := hide hV
  clear hV
  by_cases hlt : k < n
  ·obtain ⟨ad, hA, hl, hE⟩ := HS.out (by omega)
   subst hA
   have hE' := elA_below hE hB hl
   have t0 := (hE' k hlt).1
   have t1 := (hE' k hlt).2
   have hbr : ad.block < wr.heap.size := Nat.lt_of_lt_of_le hl hB.size
   have hba := block_add ad
   have hs := hB.size
   clear hE hE'
   have RC := hide (rcheck (lo k) (hi k) _ rfl)
   cases hv : vB (lo k) (hi k)
   ·have HF := hide (lst_no (lo := lo) (hi := hi) hlt hv)
    rw [show chkI (lo k) (hi k) = 2 by unfold chkI; rw [hv]; rfl] at RC
    clear hv
    generalize lo k = x0 at *
    generalize hi k = x1 at *
    go_wp2_with fail
    refine (RC.out _).mono ?_
    rintro e w1 ⟨rfl, hb1⟩
    obtain ⟨hc1, hf1⟩ := bcell hb1
    have hz1 := hb1.size
    try simp only [World.size_alloc, World.size_setCell] at hz1
    clear hc1 hf1
    go_wp2
    go_ret
    exact ⟨by rw [← HR.out, HF.out]; rfl, blw_⟩
   ·have HF : Hid (lstB (k + 1) lo hi = true) := hide (all_more HV.out hv)
    rw [show chkI (lo k) (hi k) = 0 by unfold chkI; rw [hv]; rfl] at RC
    clear hv
    generalize lo k = x0 at *
    generalize hi k = x1 at *
    go_wp2_with fail
    refine (RC.out _).mono ?_
    rintro e w1 ⟨rfl, hb1⟩
    obtain ⟨hc1, hf1⟩ := bcell hb1
    have hz1 := hb1.size
    try simp only [World.size_alloc, World.size_setCell] at hz1
    clear hc1 hf1
    go_wp2
    go_roundw
    case rel => exact ⟨k + 1, by omega, by go_num, HF.out, blw_⟩
    case measure => simp [intOf]; omega
  ·obtain rfl : k = n := by omega
   go_wp2
   go_ret
   exact ⟨by rw [← HR.out, HV.out]; rfl, hB⟩
end Sw
end
end Go.Proofs.Ytacpahebbnnckaa
