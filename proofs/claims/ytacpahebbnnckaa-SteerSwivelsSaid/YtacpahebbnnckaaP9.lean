/- Packed: FoldQ LiA. -/
import Derived.RangeFuncNested
import Derived.RangeFuncBound
import Derived.RangeFuncCalls
import Derived.RangeFuncLeaves
import Derived.RangeFuncBox
import Derived.Shelf.Abstract
import Derived.Shelf.RegionOpen
import Derived.WalkKit
import Derived.OwnWalkIn
import Derived.TacticsInMore
import Derived.LoopNIn
import Derived.LoopIn
import Derived.Lib.Hide
import Derived.Test.YtacpahebbnnckaaProg
import Derived.BigQuiet
import Derived.Test.YtacpahebbnnckaaP1
import Derived.Test.YtacpahebbnnckaaP2
import Derived.Test.YtacpahebbnnckaaP3
import Derived.Test.YtacpahebbnnckaaP8
set_option linter.unusedVariables false
set_option linter.unusedSimpArgs false
namespace Go.Proofs.Ytacpahebbnnckaa
section
open Go.RowKit Go.Shelf
namespace FP
open FD
attribute [local go_sem] Oper.semAt_some
def ElemsA (W : World) (ad : Addr) (n : Nat) (lo hi : Nat → Int) : Prop := ∀ j, j < n → W.cell? (ad.add (j * 2)) = some (.int .i64 (lo j)) ∧ W.cell? ⟨ad.block, (ad.add (j * 2)).off + 1, none⟩ = some (.int .i64 (hi j))
end FP
end
section
set_option maxRecDepth 100000
open Go.RowKit
open FP
def SpL (w : World) (A : Option Addr) (n : Nat) (lo hi : Nat → Int) : Prop := 0 < n → ∃ ad, A = some ad ∧ ad.block < w.heap.size ∧ ElemsA w ad n lo hi
theorem elA_below {B : Nat} {w w' : World} {ad : Addr} {n : Nat} {lo hi : Nat → Int} (h : ElemsA w ad n lo hi) (hb : Below B w w') (hl : ad.block < B) : ElemsA w' ad n lo hi :=
 fun j hj => ⟨(hb.cell (p := ad.add (j * 2)) (by rw [block_add]; exact hl)).trans (h j hj).1, (hb.cell (p := ⟨ad.block, _, none⟩) hl).trans (h j hj).2⟩
theorem SpL.below {w w' : World} {A : Option Addr} {n : Nat} {lo hi : Nat → Int} (h : SpL w A n lo hi) (hb : Below w.heap.size w w') : SpL w' A n lo hi := fun h0 => by
 obtain ⟨ad, e, hl, hE⟩ := h h0
 exact ⟨ad, e, Nat.lt_of_lt_of_le hl hb.size, elA_below hE hb hl⟩
def lstB (n : Nat) (lo hi : Nat → Int) : Bool := (List.range n).all fun j => vB (lo j) (hi j)
theorem lst_at {n k : Nat} {lo hi : Nat → Int} (h : lstB n lo hi = true) (hk : k < n) : vB (lo k) (hi k) = true := List.all_eq_true.1 h k (List.mem_range.2 hk)
theorem lst_no {n k : Nat} {lo hi : Nat → Int} (hk : k < n) (h : vB (lo k) (hi k) = false) : lstB n lo hi = false := all_no hk h
set_option maxHeartbeats 1000000 in
theorem invalid_list (A : Option Addr) (n cap : Nat) (lo hi : Nat → Int) (hm : n ≤ 64) (hI : ∀ j, FD.In64 (lo j) ∧ FD.In64 (hi j)) (w : World) (hS : SpL w A n lo hi) (res : Bool) (hr : (!lstB n lo hi) = res) :
  Calls Try.prog 116 #[.slice A n cap] w fun e w' => e = .returned (.bool res) ∧ Below w.heap.size w w' := by
 have HS := hide hS
 have HR := hide hr
 have HI := hide hI
 clear hS hr hI
 go_enter Try.func116, Try.ntmps116
 go_wp2
 go_loopw [7] (fun i wr => ∃ k : Nat, k ≤ n ∧ i = .int .i64 k ∧ lstB k lo hi = true ∧ Below w.heap.size w wr) (fun i _ => n - (intOf i).toNat)
 case atStart => exact ⟨0, Nat.zero_le _, rfl, rfl, Below.refl _ _⟩
 case round =>
  obtain ⟨k, hk, rfl, hV, hB⟩ := hrel
  have HV := hide hV
  clear hV
  by_cases hlt : k < n
  ·obtain ⟨ad, hA, hl, hE⟩ := HS.out (by omega)
   subst hA
   have hE' := elA_below hE hB hl
   have t0 := (hE' k hlt).1
   have t1 := (hE' k hlt).2
   have hbr : ad.block < wr.heap.size := Nat.lt_of_lt_of_le hl hB.size
   have hba := block_add ad
   have hi0 := (HI.out k).1.1
   have HI0 := hide hi0
   clear hE hE' hi0
   cases hv : vB (lo k) (hi k)
   ·have HF := hide (lst_no (lo := lo) (hi := hi) hlt hv)
    have HV1 := hide hv
    clear hv
    generalize lo k = x0 at *
    generalize hi k = x1 at *
    go_wp2_with (go_at_call 103; refine (check_no _ _ HI0.out HV1.out _).mono ?_; rintro e w1 ⟨rfl, hb1⟩)
    go_ret
    exact ⟨by rw [← HR.out, HF.out]; rfl, hB.trans (((Below.refl _ _).alloc (by have := hB.size; omega) _).trans (hb1.mono (by have := hB.size; simp; omega)))⟩
   ·have HF : Hid (lstB (k + 1) lo hi = true) := hide (all_more HV.out hv)
    have HV1 := hide hv
    clear hv
    generalize lo k = x0 at *
    generalize hi k = x1 at *
    go_wp2_with (go_at_call 103; refine (check_yes _ _ HV1.out _).mono ?_; rintro e w1 ⟨rfl, hb1⟩)
    go_roundw
    case rel => exact ⟨k + 1, by omega, by go_num, HF.out, hB.trans (((Below.refl _ _).alloc (by have := hB.size; omega) _).trans (hb1.mono (by have := hB.size; simp; omega)))⟩
    case measure => simp [intOf]; omega
  ·obtain rfl : k = n := by omega
   go_wp2
   go_ret
   exact ⟨by rw [← HR.out, HV.out]; rfl, hB⟩
def chk1 (n : Nat) (lo hi : Nat → Int) : Int := if 64 < n then 3 else if lstB n lo hi then 0 else 2
def longB (c : Nat) (nn : Nat → Nat) : Bool := (List.range c).all fun i => decide (nn i ≤ 64)
def allB (c : Nat) (nn : Nat → Nat) (lo hi : Nat → Nat → Int) : Bool := (List.range c).all fun i => lstB (nn i) (lo i) (hi i)
def chkN (c : Nat) (nn : Nat → Nat) (lo hi : Nat → Nat → Int) : Int := if longB c nn then (if allB c nn lo hi then 0 else 2) else 3
set_option maxHeartbeats 1000000 in
theorem checkLists_any (c b cap : Nat) (A : Nat → Option Addr) (nn cc : Nat → Nat) (lo hi : Nat → Nat → Int) (hc : c ≤ 2) (hI : ∀ i j, FD.In64 (lo i j) ∧ FD.In64 (hi i j)) (w : World) (hbl : b < w.heap.size) (hcell : ∀ i, i < c → w.cell? ⟨b, i, none⟩ = some (.slice (A i) (nn i) (cc i)))
  (hS : ∀ i, i < c → SpL w (A i) (nn i) (lo i) (hi i)) (hcap : ∀ i, nn i ≤ 70) (res : Int) (hr : chkN c nn lo hi = res) :
  Calls Try.prog 91 #[.slice (some ⟨b, 0, none⟩) c cap] w fun e w' => e = .returned (.int .i64 res) ∧ Below w.heap.size w w' := by
 have HS := hide hS
 have HR := hide hr
 have HC := hide hcell
 have HI := hide hI
 clear hS hr hcell hI
 go_enter Try.func91, Try.ntmps91
 go_wp2
 go_loopw [9] (fun i wr => ∃ k : Nat, k ≤ c ∧ i = .int .i64 k ∧ longB k nn = true ∧ Below w.heap.size w wr) (fun i _ => c - (intOf i).toNat)
 case atStart => exact ⟨0, Nat.zero_le _, rfl, rfl, Below.refl _ _⟩
 case round =>
  obtain ⟨k, hk, rfl, hV, hB⟩ := hrel
  have HV := hide hV
  clear hV
  by_cases hlt : k < c
  ·have t0 := (hB.cell (p := ⟨b, k, none⟩) hbl).trans (HC.out k hlt)
   by_cases h64 : nn k ≤ 64
   ·have HF : Hid (longB (k + 1) nn = true) := hide (all_more HV.out (decide_eq_true h64))
    have g : ¬ (64 : Int) < (nn k : Int) := by omega
    generalize A k = a at *
    generalize nn k = m at *
    generalize cc k = m2 at *
    go_wp2
    go_roundw
    case rel => exact ⟨k + 1, by omega, by go_num, HF.out, hB⟩
    case measure => simp [intOf]; omega
   ·have HF : Hid (longB c nn = false) := hide (all_no hlt (decide_eq_false h64))
    have g : (64 : Int) < (nn k : Int) := by omega
    generalize A k = a at *
    generalize nn k = m at *
    generalize cc k = m2 at *
    go_wp2
    go_ret
    exact ⟨by rw [← HR.out]; unfold chkN; rw [HF.out]; rfl, hB⟩
  ·obtain rfl : k = c := by omega
   clear hlt
   go_wp2_with fail
   go_loopw [19] (fun i wr => ∃ j : Nat, j ≤ k ∧ i = .int .i64 j ∧ allB j nn lo hi = true ∧ Below w.heap.size w wr) (fun i _ => k - (intOf i).toNat)
   case atStart => exact ⟨0, Nat.zero_le _, rfl, rfl, hB⟩
   case round =>
    clear hB
    obtain ⟨j, hj, rfl, hU, hB⟩ := hrel
    have HU := hide hU
    clear hU
    by_cases hlt : j < k
    ·have t0 := (hB.cell (p := ⟨b, j, none⟩) hbl).trans (HC.out j hlt)
     have hn : nn j ≤ 64 := of_decide_eq_true (List.all_eq_true.1 HV.out j (List.mem_range.2 hlt))
     have hSj := (HS.out j hlt).below hB
     cases hv : lstB (nn j) (lo j) (hi j)
     ·have HF : Hid (allB k nn lo hi = false) := hide (all_no hlt hv)
      have IV := hide (fun cap => invalid_list (A j) (nn j) cap (lo j) (hi j) hn (HI.out j) wr hSj true (by rw [hv]; rfl))
      clear hv hSj hn
      generalize A j = a at *
      generalize nn j = m at *
      generalize cc j = m2 at *
      go_wp2_with (go_at_call 116; refine (IV.out _).mono ?_; rintro e w1 ⟨rfl, hb1⟩)
      go_ret
      exact ⟨by rw [← HR.out]; unfold chkN; rw [HV.out, HF.out]; rfl, hB.trans (hb1.mono hB.size)⟩
     ·have HF : Hid (allB (j + 1) nn lo hi = true) := hide (all_more HU.out hv)
      have IV := hide (fun cap => invalid_list (A j) (nn j) cap (lo j) (hi j) hn (HI.out j) wr hSj false (by rw [hv]; rfl))
      clear hv hSj hn
      generalize A j = a at *
      generalize nn j = m at *
      generalize cc j = m2 at *
      go_wp2_with (go_at_call 116; refine (IV.out _).mono ?_; rintro e w1 ⟨rfl, hb1⟩)
      go_roundw
      case rel => exact ⟨j + 1, by omega, by go_num, HF.out, hB.trans (hb1.mono hB.size)⟩
      case measure => simp [intOf]; omega
    ·obtain rfl : j = k := by omega
     go_wp2
     go_ret
     exact ⟨by rw [← HR.out]; unfold chkN; rw [HV.out, HU.out]; rfl, hB⟩
end
end Go.Proofs.Ytacpahebbnnckaa
