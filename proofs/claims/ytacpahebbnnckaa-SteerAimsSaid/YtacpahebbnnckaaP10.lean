/- Packed: SwA. -/
import Derived.Lib.RabinKarpLaws
import Derived.Test.YtacpahebbnnckaaP9
set_option linter.unusedVariables false
set_option linter.unusedSimpArgs false
namespace Go.Proofs.Ytacpahebbnnckaa
section
set_option maxRecDepth 100000
open Go.RowKit
open FP
namespace Sw
def posB (n : Nat) (lo hi : Nat → Int) : Bool := (List.range n).all fun j => vB (lo j) (hi j) && decide (0 ≤ lo j)
set_option maxHeartbeats 1000000 in
theorem valid_any (A : Option Addr) (n cap : Nat) (lo hi : Nat → Int) (hm : n ≤ 64) (hI : ∀ j, FD.In64 (lo j) ∧ FD.In64 (hi j)) (w : World) (hS : SpL w A n lo hi) (res : Bool) (hr : lstB n lo hi = res) :
  Calls Try.prog 63 #[.slice A n cap] w fun e w' => e = .returned (.bool res) ∧ Below w.heap.size w w' := by
 have HS := hide hS
 have HR := hide hr
 have HI := hide hI
 clear hS hr hI
 go_enter Try.func63, Try.ntmps63
 go_wp2
 go_loopw [7] (fun i wr => ∃ k : Nat, k ≤ n ∧ i = .int .i64 k ∧ lstB k lo hi = true ∧ Below w.heap.size w wr) (fun i _ => n - (intOf i).toNat)
 case atStart => exact ⟨0, Nat.zero_le _, rfl, rfl, Below.refl _ _⟩
 case round =>
  obtain ⟨k, hk, rfl, hV, hB⟩ := hrel
  have HV := hide hV
  clear hV
  by_cases hlt : k < n
  ·obtain ⟨ad, hA, hl, hE⟩ := HS.out (by omega)
   subst hA
   have hE' := elA_below hE hB hl
   have t0 := (hE' k hlt).1
   have t1 := (hE' k hlt).2
   have hbr : ad.block < wr.heap.size := Nat.lt_of_lt_of_le hl hB.size
   have hba := block_add ad
   have hi0 := (HI.out k).1.1
   have HI0 := hide hi0
   clear hE hE' hi0
   cases hv : vB (lo k) (hi k)
   ·have HF := hide (lst_no (lo := lo) (hi := hi) hlt hv)
    have HV1 := hide hv
    clear hv
    generalize lo k = x0 at *
    generalize hi k = x1 at *
    go_wp2_with (go_at_call 103; refine (check_no _ _ HI0.out HV1.out _).mono ?_; rintro e w1 ⟨rfl, hb1⟩)
    go_ret
    exact ⟨by rw [← HR.out, HF.out]; rfl, hB.trans (((Below.refl _ _).alloc (by have := hB.size; omega) _).trans (hb1.mono (by have := hB.size; simp; omega)))⟩
   ·have HF : Hid (lstB (k + 1) lo hi = true) := hide (all_more HV.out hv)
    have HV1 := hide hv
    clear hv
    generalize lo k = x0 at *
    generalize hi k = x1 at *
    go_wp2_with (go_at_call 103; refine (check_yes _ _ HV1.out _).mono ?_; rintro e w1 ⟨rfl, hb1⟩)
    go_roundw
    case rel => exact ⟨k + 1, by omega, by go_num, HF.out, hB.trans (((Below.refl _ _).alloc (by have := hB.size; omega) _).trans (hb1.mono (by have := hB.size; simp; omega)))⟩
    case measure => simp [intOf]; omega
  ·obtain rfl : k = n := by omega
   go_wp2
   go_ret
   exact ⟨by rw [← HR.out, HV.out]; rfl, hB⟩
theorem valid_one (b : Nat) (x y : Int) (hx : FD.In64 x) (hy : FD.In64 y) (w : World) (hb : b < w.heap.size) (h0 : w.cell? ⟨b, 0, none⟩ = some (.int .i64 x)) (h1 : w.cell? ⟨b, 1, none⟩ = some (.int .i64 y)) :
  Calls Try.prog 63 #[.slice (some ⟨b, 0, none⟩) 1 1] w fun e w' => e = .returned (.bool (vB x y)) ∧ Below w.heap.size w w' := by
 refine valid_any (some ⟨b, 0, none⟩) 1 1 (fun _ => x) (fun _ => y) (by omega) (fun _ => ⟨hx, hy⟩) w (fun _ => ⟨_, rfl, hb, fun j hj => ?_⟩) _ (by simp [lstB, List.range, List.range.loop])
 obtain rfl : j = 0 := by omega
 exact ⟨h0, h1⟩
set_option maxHeartbeats 1000000 in
theorem notNegative_any (A : Option Addr) (n cap : Nat) (lo hi : Nat → Int) (hm : n ≤ 64) (hI : ∀ j, FD.In64 (lo j) ∧ FD.In64 (hi j)) (w : World) (hS : SpL w A n lo hi) (res : Bool) (hr : posB n lo hi = res) :
  Calls Try.prog 44 #[.slice A n cap] w fun e w' => e = .returned (.bool res) ∧ Below w.heap.size w w' := by
 have HS := hide hS
 have HR := hide hr
 have HI := hide hI
 clear hS hr hI
 go_enter Try.func44, Try.ntmps44
 go_wp2
 go_loopw [7] (fun i wr => ∃ k : Nat, k ≤ n ∧ i = .int .i64 k ∧ posB k lo hi = true ∧ Below w.heap.size w wr) (fun i _ => n - (intOf i).toNat)
 case atStart => exact ⟨0, Nat.zero_le _, rfl, rfl, Below.refl _ _⟩
 case round =>
  obtain ⟨k, hk, rfl, hV, hB⟩ := hrel
  have HV := hide hV
  clear hV
  by_cases hlt : k < n
  ·obtain ⟨ad, hA, hl, hE⟩ := HS.out (by omega)
   subst hA
   have hE' := elA_below hE hB hl
   have t0 := (hE' k hlt).1
   have t1 := (hE' k hlt).2
   have hbr : ad.block < wr.heap.size := Nat.lt_of_lt_of_le hl hB.size
   have hba := block_add ad
   have VO := hide (fun W b hb => valid_one b (lo k) (hi k) (HI.out k).1 (HI.out k).2 W hb)
   have hs := hB.size
   have HF : Hid ((vB (lo k) (hi k) && decide (0 ≤ lo k)) = false → posB n lo hi = false) := hide (fun h => all_no hlt h)
   have HG : Hid ((vB (lo k) (hi k) && decide (0 ≤ lo k)) = true → posB (k + 1) lo hi = true) := hide (fun h => all_more HV.out h)
   clear hE hE'
   generalize vB (lo k) (hi k) = b at *
   generalize lo k = x0 at *
   generalize hi k = x1 at *
   cases b
   ·skip
    go_wp2_with fail
    refine (VO.out _ _ (by simp) (by go_simp) (by go_simp)).mono ?_
    rintro e w1 ⟨rfl, hb1⟩
    obtain ⟨hc1, hf1⟩ := bcell hb1
    have hz1 := hb1.size
    try simp only [World.size_alloc, World.size_setCell] at hz1
    try have : wr.heap.size < w1.heap.size := by omega
    try have : wr.heap.size ≤ w1.heap.size := by omega
    have c1_0_0 := zci w1 wr.heap.size 0 (x0) (by go_simp)
    have c1_0_1 := zci w1 wr.heap.size 1 (x1) (by go_simp)
    clear hc1 hf1
    go_wp2
    go_ret
    exact ⟨by rw [← HR.out, HF.out rfl]; rfl, blw_⟩
   ·by_cases hn : x0 < 0
    ·have HF2 := hide (HF.out (by simp; omega))
     go_wp2_with fail
     refine (VO.out _ _ (by simp) (by go_simp) (by go_simp)).mono ?_
     rintro e w1 ⟨rfl, hb1⟩
     obtain ⟨hc1, hf1⟩ := bcell hb1
     have hz1 := hb1.size
     try simp only [World.size_alloc, World.size_setCell] at hz1
     try have : wr.heap.size < w1.heap.size := by omega
     try have : wr.heap.size ≤ w1.heap.size := by omega
     have c1_0_0 := zci w1 wr.heap.size 0 (x0) (by go_simp)
     have c1_0_1 := zci w1 wr.heap.size 1 (x1) (by go_simp)
     clear hc1 hf1
     go_wp2
     go_ret
     exact ⟨by rw [← HR.out, HF2.out]; rfl, blw_⟩
    ·have HG2 := hide (HG.out (by simp; omega))
     go_wp2_with fail
     refine (VO.out _ _ (by simp) (by go_simp) (by go_simp)).mono ?_
     rintro e w1 ⟨rfl, hb1⟩
     obtain ⟨hc1, hf1⟩ := bcell hb1
     have hz1 := hb1.size
     try simp only [World.size_alloc, World.size_setCell] at hz1
     try have : wr.heap.size < w1.heap.size := by omega
     try have : wr.heap.size ≤ w1.heap.size := by omega
     have c1_0_0 := zci w1 wr.heap.size 0 (x0) (by go_simp)
     have c1_0_1 := zci w1 wr.heap.size 1 (x1) (by go_simp)
     clear hc1 hf1
     go_wp2
     go_roundw
     case rel => exact ⟨k + 1, by omega, by go_num, HG2.out, blw_⟩
     case measure => simp [intOf]; omega
  ·obtain rfl : k = n := by omega
   go_wp2
   go_ret
   exact ⟨by rw [← HR.out, HV.out]; rfl, hB⟩
set_option maxHeartbeats 1000000 in
theorem all_any (A : Option Addr) (n cap : Nat) (lo hi : Nat → Int) (hm : n ≤ 64) (w : World) (hS : SpL w A n lo hi) (res : Bool) (hr : lstB n lo hi = res) :
  Calls Try.prog 56 #[.slice A n cap] w fun e w' => e = .returned (.bool res) ∧ Below w.heap.size w w' := by
 have HS := hide hS
 have HR := hide hr
 clear hS hr
 go_enter Try.func56, Try.ntmps56
 go_wp2
 go_loopw [3] (fun i wr => ∃ k : Nat, k ≤ n ∧ i = .int .i64 k ∧ lstB k lo hi = true ∧ Below w.heap.size w wr) (fun i _ => n - (intOf i).toNat)
 case atStart => exact ⟨0, Nat.zero_le _, rfl, rfl, Below.refl _ _⟩
 case round =>
  obtain ⟨k, hk, rfl, hV, hB⟩ := hrel
  have HV := hide hV
  clear hV
  by_cases hlt : k < n
  ·obtain ⟨ad, hA, hl, hE⟩ := HS.out (by omega)
   subst hA
   have hE' := elA_below hE hB hl
   have t0 := (hE' k hlt).1
   have t1 := (hE' k hlt).2
   have hbr : ad.block < wr.heap.size := Nat.lt_of_lt_of_le hl hB.size
   have hba := block_add ad
   have hs := hB.size
   clear hE hE'
   have RC := hide (rcheck (lo k) (hi k) _ rfl)
   cases hv : vB (lo k) (hi k)
   ·have HF := hide (lst_no (lo := lo) (hi := hi) hlt hv)
    rw [show chkI (lo k) (hi k) = 2 by unfold chkI; rw [hv]; rfl] at RC
    clear hv
    generalize lo k = x0 at *
    generalize hi k = x1 at *
    go_wp2_with fail
    refine (RC.out _).mono ?_
    rintro e w1 ⟨rfl, hb1⟩
    obtain ⟨hc1, hf1⟩ := bcell hb1
    have hz1 := hb1.size
    try simp only [World.size_alloc, World.size_setCell] at hz1
    clear hc1 hf1
    go_wp2
    go_ret
    exact ⟨by rw [← HR.out, HF.out]; rfl, blw_⟩
   ·have HF : Hid (lstB (k + 1) lo hi = true) := hide (all_more HV.out hv)
    rw [show chkI (lo k) (hi k) = 0 by unfold chkI; rw [hv]; rfl] at RC
    clear hv
    generalize lo k = x0 at *
    generalize hi k = x1 at *
    go_wp2_with fail
    refine (RC.out _).mono ?_
    rintro e w1 ⟨rfl, hb1⟩
    obtain ⟨hc1, hf1⟩ := bcell hb1
    have hz1 := hb1.size
    try simp only [World.size_alloc, World.size_setCell] at hz1
    clear hc1 hf1
    go_wp2
    go_roundw
    case rel => exact ⟨k + 1, by omega, by go_num, HF.out, blw_⟩
    case measure => simp [intOf]; omega
  ·obtain rfl : k = n := by omega
   go_wp2
   go_ret
   exact ⟨by rw [← HR.out, HV.out]; rfl, hB⟩
end Sw
end
end Go.Proofs.Ytacpahebbnnckaa
