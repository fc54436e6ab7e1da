/- Packed: Tab RTab. -/
import Derived.Deep.Slices
import Derived.Test.YtkkanjeamngdiaaDoorP2
set_option linter.unusedVariables false
set_option linter.unusedSimpArgs false
namespace Go.Proofs.YtkkanjeamngdiaaDoor
section
open Go.RowKit
theorem block_add (a : Addr) (n : Nat) : (a.add n).block = a.block := by unfold Addr.add; split <;> rfl
theorem bcellG {B : Nat} {W w1 : World} (hb : Below B W w1) : ∀ p : Addr, p.block < B → w1.cell? p = W.cell? p := fun p h => hb.cell h
structure Tab (w : World) (ad : Addr) (n : Nat) (at_ lo hi : Nat → Int) : Prop where
 blk : ad.block < w.heap.size
 ca : ∀ i, i < n → w.cell? (ad.add (i * 3)) = some (.int .i64 (at_ i))
 cl : ∀ i, i < n → w.cell? ⟨ad.block, (ad.add (i * 3)).off + 1, none⟩ = some (.int .i64 (lo i))
 ch : ∀ i, i < n → w.cell? ⟨ad.block, (ad.add (i * 3)).off + 2, none⟩ = some (.int .i64 (hi i))
theorem Tab.below {w w' : World} {ad : Addr} {n : Nat} {at_ lo hi : Nat → Int} (h : Tab w ad n at_ lo hi) (hb : Below w.heap.size w w') : Tab w' ad n at_ lo hi :=
 ⟨Nat.lt_of_lt_of_le h.blk hb.size, fun i hi' => (hb.cell (by rw [block_add]; exact h.blk)).trans (h.ca i hi'), fun i hi' => (hb.cell (p := ⟨ad.block, _, none⟩) h.blk).trans (h.cl i hi'), fun i hi' => (hb.cell (p := ⟨ad.block, _, none⟩) h.blk).trans (h.ch i hi')⟩
def smallB (x : Int) : Bool := decide (-2305843009213693952 ≤ x ∧ x ≤ 2305843009213693952)
def ptB (at_ lo hi : Nat → Int) (i : Nat) : Bool := smallB (at_ i) && (smallB (lo i) && smallB (hi i) && decide (lo i ≤ hi i)) && (i == 0 || decide (at_ (i - 1) < at_ i))
theorem in_parts (x : Int) : inB (-2305843009213693952) 2305843009213693952 x = smallB x := by
 unfold inB smallB vB
 by_cases h1 : -2305843009213693952 ≤ x <;> by_cases h2 : x ≤ 2305843009213693952 <;> simp [h1, h2]
theorem within_parts (lo hi : Int) : withinB lo hi (-2305843009213693952) 2305843009213693952 = (smallB lo && smallB hi && decide (lo ≤ hi)) := by
 unfold withinB smallB vB
 rw [Bool.eq_iff_iff]
 simp
 omega
theorem all_no {n k : Nat} {f : Nat → Bool} (h : k < n) (hf : f k = false) : (List.range n).all f = false := by
 rw [List.all_eq_false]
 exact ⟨k, List.mem_range.2 h, by simp [hf]⟩
theorem all_more {k : Nat} {f : Nat → Bool} (h : (List.range k).all f = true) (hf : f k = true) : (List.range (k + 1)).all f = true := by
 rw [List.range_succ, List.all_append, h]; simp [hf]
set_option maxHeartbeats 2000000 in
theorem checktable_run (n cap : Nat) (ad : Addr) (at_ lo hi : Nat → Int) (hn : 0 < n) (hm : n ≤ 64) (w : World) (hT : Tab w ad n at_ lo hi) (hI : ∀ i, i < n → I64 (at_ i) ∧ I64 (lo i) ∧ I64 (hi i)) (res : Int) (hres : (if (List.range n).all (ptB at_ lo hi) then (0 : Int) else 2) = res) :
  Calls Tryd.prog 5 #[.slice (some ad) n cap] w fun e w' => e = .returned (.int .i64 res) ∧ Below w.heap.size w w' := by
 have HT := hide hT
 have HI := hide hI
 have HRES := hide hres
 have hblk := hT.blk
 have hba := block_add ad
 clear hT hI hres
 have g1 : ((n : Int) == 0) = false := by simp; omega
 have g2 : (n == 0) = false := by simp; omega
 go_enter Tryd.func5, Tryd.ntmps5
 go_wp2
 go_loopw [17] (fun s17 wr => ∃ k : Nat, k ≤ n ∧ s17 = .int .i64 k ∧ (List.range k).all (ptB at_ lo hi) = true ∧ Below w.heap.size w wr ∧ w.heap.size < wr.heap.size ∧ wr.cell? ⟨w.heap.size, 0, none⟩ = some (.int .i64 (-2305843009213693952)) ∧ wr.cell? ⟨w.heap.size, 1, none⟩ = some (.int .i64 2305843009213693952)) (fun s17 _ => n - (intOf s17).toNat)
 case atStart => exact ⟨0, by omega, rfl, rfl, blw_, by simp, by go_simp, by go_simp⟩
 case round =>
  obtain ⟨k, hk, rfl, hR, hB, hz0, b0, b1⟩ := hrel
  have hB' := hide hB
  by_cases hlt : k < n
  ·have hTr := HT.out.below hB
   have t0 := hTr.ca k hlt
   have t1 := hTr.cl k hlt
   have t2 := hTr.ch k hlt
   have hbr := hTr.blk
   obtain ⟨iA, iL, iH⟩ := HI.out k hlt
   have WI := within_any (lo k) (hi k) (-2305843009213693952) 2305843009213693952 iL.1 (by omega)
   have IN := in_any (-2305843009213693952) 2305843009213693952 (at_ k) (by omega)
   rw [within_parts] at WI
   rw [in_parts] at IN
   have hB20 := hB
   clear hB
   cases h1 : smallB (at_ k)
   ·have HF := hide (all_no hlt (show ptB at_ lo hi k = false by simp [ptB, h1]))
    rw [h1] at IN
    have IN' := hide IN
    clear IN WI iA iL iH h1 hTr hR
    generalize at_ k = x0 at *
    generalize lo k = x1 at *
    generalize hi k = x2 at *
    go_wp2_with fail
    refine (IN'.out _).mono ?_
    rintro e w1 ⟨rfl, hb1⟩
    obtain ⟨hc1, hf1⟩ := bcell hb1
    have hz1 := hb1.size
    try simp only [World.size_alloc, World.size_setCell] at hz1
    try refine zw1 w w1 (by omega) fun _ _ => ?_
    try have : wr.heap.size < w1.heap.size := by omega
    try have : wr.heap.size ≤ w1.heap.size := by omega
    have c1_0_0 := zci w1 w.heap.size 0 (-2305843009213693952) (by go_simp)
    have c1_0_1 := zci w1 w.heap.size 1 (2305843009213693952) (by go_simp)
    have c1_1_0 := zci w1 wr.heap.size 0 (x0) (by go_simp)
    have c1_1_1 := zci w1 wr.heap.size 1 (x1) (by go_simp)
    have c1_1_2 := zci w1 wr.heap.size 2 (x2) (by go_simp)
    clear hc1 hf1
    go_wp2
    go_ret
    exact ⟨by rw [← HRES.out, HF.out]; rfl, blw_⟩
   ·rw [h1] at IN
    have IN' := hide IN
    clear IN
    cases h2 : (smallB (lo k) && smallB (hi k) && decide (lo k ≤ hi k))
    ·have HF := hide (all_no hlt (show ptB at_ lo hi k = false by simp only [ptB, h1, h2]; rfl))
     rw [h2] at WI
     have WI' := hide WI
     clear WI iA iL iH h1 h2 hTr hR
     generalize at_ k = x0 at *
     generalize lo k = x1 at *
     generalize hi k = x2 at *
     go_wp2_with fail
     refine (IN'.out _).mono ?_
     rintro e w1 ⟨rfl, hb1⟩
     obtain ⟨hc1, hf1⟩ := bcell hb1
     have hz1 := hb1.size
     try simp only [World.size_alloc, World.size_setCell] at hz1
     try refine zw1 w w1 (by omega) fun _ _ => ?_
     try have : wr.heap.size < w1.heap.size := by omega
     try have : wr.heap.size ≤ w1.heap.size := by omega
     have c1_0_0 := zci w1 w.heap.size 0 (-2305843009213693952) (by go_simp)
     have c1_0_1 := zci w1 w.heap.size 1 (2305843009213693952) (by go_simp)
     have c1_1_0 := zci w1 wr.heap.size 0 (x0) (by go_simp)
     have c1_1_1 := zci w1 wr.heap.size 1 (x1) (by go_simp)
     have c1_1_2 := zci w1 wr.heap.size 2 (x2) (by go_simp)
     clear hc1 hf1
     go_wp2_with fail
     refine (WI'.out _).mono ?_
     rintro e w2 ⟨rfl, hb2⟩
     obtain ⟨hc2, hf2⟩ := bcell hb2
     have hz2 := hb2.size
     try simp only [World.size_alloc, World.size_setCell] at hz2
     try refine zw1 w w2 (by omega) fun _ _ => ?_
     try have : wr.heap.size < w2.heap.size := by omega
     try have : wr.heap.size ≤ w2.heap.size := by omega
     have c2_0_0 := zci w2 w.heap.size 0 (-2305843009213693952) (by go_simp)
     have c2_0_1 := zci w2 w.heap.size 1 (2305843009213693952) (by go_simp)
     have c2_1_0 := zci w2 wr.heap.size 0 (x0) (by go_simp)
     have c2_1_1 := zci w2 wr.heap.size 1 (x1) (by go_simp)
     have c2_1_2 := zci w2 wr.heap.size 2 (x2) (by go_simp)
     clear hc2 hf2 c1_0_0 c1_0_1 c1_1_0 c1_1_1 c1_1_2
     go_wp2
     go_ret
     exact ⟨by rw [← HRES.out, HF.out]; rfl, blw_⟩
    ·rw [h2] at WI
     have WI' := hide WI
     clear WI iA iL iH
     by_cases hk0 : k = 0
     ·have HN := hide (all_more hR (show ptB at_ lo hi k = true by rw [ptB, h1, h2, beq_iff_eq.2 hk0]; rfl))
      have hg1 : decide ((0 : Int) < (k : Int)) = false := decide_eq_false (by omega)
      have hg2 : decide (0 < k) = false := decide_eq_false (by omega)
      clear h1 h2 hTr hR hk0
      generalize at_ k = x0 at *
      generalize lo k = x1 at *
      generalize hi k = x2 at *
      go_wp2_with fail
      refine (IN'.out _).mono ?_
      rintro e w1 ⟨rfl, hb1⟩
      obtain ⟨hc1, hf1⟩ := bcell hb1
      have hz1 := hb1.size
      try simp only [World.size_alloc, World.size_setCell] at hz1
      try refine zw1 w w1 (by omega) fun _ _ => ?_
      try have : wr.heap.size < w1.heap.size := by omega
      try have : wr.heap.size ≤ w1.heap.size := by omega
      have c1_0_0 := zci w1 w.heap.size 0 (-2305843009213693952) (by go_simp)
      have c1_0_1 := zci w1 w.heap.size 1 (2305843009213693952) (by go_simp)
      have c1_1_0 := zci w1 wr.heap.size 0 (x0) (by go_simp)
      have c1_1_1 := zci w1 wr.heap.size 1 (x1) (by go_simp)
      have c1_1_2 := zci w1 wr.heap.size 2 (x2) (by go_simp)
      clear hc1 hf1
      go_wp2_with fail
      refine (WI'.out _).mono ?_
      rintro e w2 ⟨rfl, hb2⟩
      obtain ⟨hc2, hf2⟩ := bcell hb2
      have hz2 := hb2.size
      try simp only [World.size_alloc, World.size_setCell] at hz2
      try refine zw1 w w2 (by omega) fun _ _ => ?_
      try have : wr.heap.size < w2.heap.size := by omega
      try have : wr.heap.size ≤ w2.heap.size := by omega
      have c2_0_0 := zci w2 w.heap.size 0 (-2305843009213693952) (by go_simp)
      have c2_0_1 := zci w2 w.heap.size 1 (2305843009213693952) (by go_simp)
      have c2_1_0 := zci w2 wr.heap.size 0 (x0) (by go_simp)
      have c2_1_1 := zci w2 wr.heap.size 1 (x1) (by go_simp)
      have c2_1_2 := zci w2 wr.heap.size 2 (x2) (by go_simp)
      clear hc2 hf2 c1_0_0 c1_0_1 c1_1_0 c1_1_1 c1_1_2
      go_wp2_with fail
      refine QT.quiet_b (by kernel_rfl) (by kernel_rfl) ?_
      repeat (first
       | go_big_quiet_skip
       | (go_big_quiet_want; go_big_quiet_op; first
        | go_big_quiet_on
        | (apply Exists.intro
           refine ⟨fun _ => ?_, ?_⟩
           ·first
            | rfl
            | (intro hC; obtain ⟨hcq, hfq⟩ := bcellB hC; go_simp; done)
            | (intro hC; obtain ⟨hcq, hfq⟩ := bcellB hC; go_simp; rfl)
            | (intro hC; have hcq := bcellG hC; go_simp; done)
            | (intro hC; have hcq := bcellG hC; go_simp; rfl)
           go_big_quiet_on)))
      refine wpQuiet_nil ?_
      intro w9 hC9
      obtain ⟨hc9, hf9⟩ := bcellB hC9
      have hz9 := hC9.size
      go_wp2
      go_roundw
      case rel => exact ⟨k + 1, by omega, by go_num, HN.out, blw_, by omega, by go_simp, by go_simp⟩
      case measure => simp [intOf]; omega
     ·obtain ⟨j, rfl⟩ : ∃ j, k = j + 1 := ⟨k - 1, by omega⟩
      have t3 := hTr.ca j (by omega)
      have e1 : ((j + 1 : Nat) : Int) - 1 = (j : Int) := by omega
      have E1 := hide e1
      cases h3 : decide (at_ j < at_ (j + 1))
      ·have HF := hide (all_no hlt (show ptB at_ lo hi (j + 1) = false by rw [ptB, h1, h2, Nat.add_sub_cancel, h3]; rfl))
       have hle : at_ (j + 1) ≤ at_ j := by have := of_decide_eq_false h3; omega
       have hg : decide (at_ (j + 1) ≤ at_ j) = true := decide_eq_true hle
       clear h1 h2 hTr hR hk0 h3 e1
       generalize at_ (j + 1) = x0 at *
       generalize lo (j + 1) = x1 at *
       generalize hi (j + 1) = x2 at *
       generalize at_ j = x3 at *
       go_wp2_with fail
       refine (IN'.out _).mono ?_
       rintro e w1 ⟨rfl, hb1⟩
       obtain ⟨hc1, hf1⟩ := bcell hb1
       have hz1 := hb1.size
       try simp only [World.size_alloc, World.size_setCell] at hz1
       try refine zw1 w w1 (by omega) fun _ _ => ?_
       try have : wr.heap.size < w1.heap.size := by omega
       try have : wr.heap.size ≤ w1.heap.size := by omega
       have c1_0_0 := zci w1 w.heap.size 0 (-2305843009213693952) (by go_simp)
       have c1_0_1 := zci w1 w.heap.size 1 (2305843009213693952) (by go_simp)
       have c1_1_0 := zci w1 wr.heap.size 0 (x0) (by go_simp)
       have c1_1_1 := zci w1 wr.heap.size 1 (x1) (by go_simp)
       have c1_1_2 := zci w1 wr.heap.size 2 (x2) (by go_simp)
       clear hc1 hf1
       go_wp2_with fail
       refine (WI'.out _).mono ?_
       rintro e w2 ⟨rfl, hb2⟩
       obtain ⟨hc2, hf2⟩ := bcell hb2
       have hz2 := hb2.size
       try simp only [World.size_alloc, World.size_setCell] at hz2
       try refine zw1 w w2 (by omega) fun _ _ => ?_
       try have : wr.heap.size < w2.heap.size := by omega
       try have : wr.heap.size ≤ w2.heap.size := by omega
       have c2_0_0 := zci w2 w.heap.size 0 (-2305843009213693952) (by go_simp)
       have c2_0_1 := zci w2 w.heap.size 1 (2305843009213693952) (by go_simp)
       have c2_1_0 := zci w2 wr.heap.size 0 (x0) (by go_simp)
       have c2_1_1 := zci w2 wr.heap.size 1 (x1) (by go_simp)
       have c2_1_2 := zci w2 wr.heap.size 2 (x2) (by go_simp)
       clear hc2 hf2 c1_0_0 c1_0_1 c1_1_0 c1_1_1 c1_1_2
       have hbr2 : ad.block < w2.heap.size := by omega
       have hbr1 : ad.block < w1.heap.size := by omega
       have t4 : w2.cell? (ad.add (j * 3)) = some (.int .i64 x3) := by
        rw [bcellG hb2 _ (by rw [hba]; exact hbr1), bcellG hb1 _ (by rw [hba]; simp; omega), World.cell?_alloc_lt _ _ _ (by rw [hba]; exact hbr)]
        exact t3
       go_wp2_with fail
       refine QT.quiet_b (by kernel_rfl) (by kernel_rfl) ?_
       repeat (first
        | go_big_quiet_skip
        | (go_big_quiet_want; go_big_quiet_op; first
         | go_big_quiet_on
         | (apply Exists.intro
            refine ⟨fun _ => ?_, ?_⟩
            ·first
             | rfl
             | (intro hC; obtain ⟨hcq, hfq⟩ := bcellB hC; go_simp; done)
             | (intro hC; obtain ⟨hcq, hfq⟩ := bcellB hC; go_simp; rfl)
             | (intro hC; have hcq := bcellG hC; go_simp; done)
             | (intro hC; have hcq := bcellG hC; go_simp; rfl)
            go_big_quiet_on)))
       refine wpQuiet_nil ?_
       intro w9 hC9
       obtain ⟨hc9, hf9⟩ := bcellB hC9
       have hz9 := hC9.size
       go_wp2
       go_ret
       exact ⟨by rw [← HRES.out, HF.out]; rfl, blw_⟩
      ·have HN := hide (all_more hR (show ptB at_ lo hi (j + 1) = true by rw [ptB, h1, h2, Nat.add_sub_cancel, h3]; rfl))
       have hle : ¬ at_ (j + 1) ≤ at_ j := by have := of_decide_eq_true h3; omega
       have hg : decide (at_ (j + 1) ≤ at_ j) = false := decide_eq_false hle
       clear h1 h2 hTr hR hk0 h3 e1
       generalize at_ (j + 1) = x0 at *
       generalize lo (j + 1) = x1 at *
       generalize hi (j + 1) = x2 at *
       generalize at_ j = x3 at *
       go_wp2_with fail
       refine (IN'.out _).mono ?_
       rintro e w1 ⟨rfl, hb1⟩
       obtain ⟨hc1, hf1⟩ := bcell hb1
       have hz1 := hb1.size
       try simp only [World.size_alloc, World.size_setCell] at hz1
       try refine zw1 w w1 (by omega) fun _ _ => ?_
       try have : wr.heap.size < w1.heap.size := by omega
       try have : wr.heap.size ≤ w1.heap.size := by omega
       have c1_0_0 := zci w1 w.heap.size 0 (-2305843009213693952) (by go_simp)
       have c1_0_1 := zci w1 w.heap.size 1 (2305843009213693952) (by go_simp)
       have c1_1_0 := zci w1 wr.heap.size 0 (x0) (by go_simp)
       have c1_1_1 := zci w1 wr.heap.size 1 (x1) (by go_simp)
       have c1_1_2 := zci w1 wr.heap.size 2 (x2) (by go_simp)
       clear hc1 hf1
       go_wp2_with fail
       refine (WI'.out _).mono ?_
       rintro e w2 ⟨rfl, hb2⟩
       obtain ⟨hc2, hf2⟩ := bcell hb2
       have hz2 := hb2.size
       try simp only [World.size_alloc, World.size_setCell] at hz2
       try refine zw1 w w2 (by omega) fun _ _ => ?_
       try have : wr.heap.size < w2.heap.size := by omega
       try have : wr.heap.size ≤ w2.heap.size := by omega
       have c2_0_0 := zci w2 w.heap.size 0 (-2305843009213693952) (by go_simp)
       have c2_0_1 := zci w2 w.heap.size 1 (2305843009213693952) (by go_simp)
       have c2_1_0 := zci w2 wr.heap.size 0 (x0) (by go_simp)
       have c2_1_1 := zci w2 wr.heap.size 1 (x1) (by go_simp)
       have c2_1_2 := zci w2 wr.heap.size 2 (x2) (by go_simp)
       clear hc2 hf2 c1_0_0 c1_0_1 c1_1_0 c1_1_1 c1_1_2
       have hbr2 : ad.block < w2.heap.size := by omega
       have hbr1 : ad.block < w1.heap.size := by omega
       have t4 : w2.cell? (ad.add (j * 3)) = some (.int .i64 x3) := by
        rw [bcellG hb2 _ (by rw [hba]; exact hbr1), bcellG hb1 _ (by rw [hba]; simp; omega), World.cell?_alloc_lt _ _ _ (by rw [hba]; exact hbr)]
        exact t3
       go_wp2_with fail
       refine QT.quiet_b (by kernel_rfl) (by kernel_rfl) ?_
       repeat (first
        | go_big_quiet_skip
        | (go_big_quiet_want; go_big_quiet_op; first
         | go_big_quiet_on
         | (apply Exists.intro
            refine ⟨fun _ => ?_, ?_⟩
            ·first
             | rfl
             | (intro hC; obtain ⟨hcq, hfq⟩ := bcellB hC; go_simp; done)
             | (intro hC; obtain ⟨hcq, hfq⟩ := bcellB hC; go_simp; rfl)
             | (intro hC; have hcq := bcellG hC; go_simp; done)
             | (intro hC; have hcq := bcellG hC; go_simp; rfl)
            go_big_quiet_on)))
       refine wpQuiet_nil ?_
       intro w9 hC9
       obtain ⟨hc9, hf9⟩ := bcellB hC9
       have hz9 := hC9.size
       go_wp2
       go_roundw
       case rel => exact ⟨j + 1 + 1, by omega, by go_num, HN.out, blw_, by omega, by go_simp, by go_simp⟩
       case measure => simp [intOf]; omega
  ·have e : k = n := by omega
   subst e
   have HF := hide hR
   clear hR
   go_wp2
   go_ret
   exact ⟨by rw [← HRES.out, HF.out]; rfl, hB⟩
end
section
open Go.RowKit
end
end Go.Proofs.YtkkanjeamngdiaaDoor
